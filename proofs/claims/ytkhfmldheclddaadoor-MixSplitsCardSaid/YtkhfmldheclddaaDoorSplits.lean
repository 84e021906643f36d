/-
  The walk of the law MixSplits.
  Conditions: the table of math/bits lies in its variable.
-/
import Derived.Test.YtkhfmldheclddaaDoorBack
namespace Go.Proofs.YtkhfmldheclddaaDoor
open Go.RowKit

/-- A slice of integers that came in: nil, or a row of cap cells, each number fitting its kind. -/
def IsRow (k : IntKind) (w : World) (a : Option Addr) (len cap : Nat) (zs : List Int) : Prop :=
  (a = none ∧ len = 0 ∧ cap = 0 ∧ zs = []) ∨
  ∃ x, a = some x ∧ len ≤ cap ∧ cap ≤ maxLen ∧ zs.length = cap ∧ (∀ i, i < zs.length → w.cell? (x.add i) = some (.int k (zs.getD i 0))) ∧ ∀ n ∈ zs, (Lit.int k n).wf = true

theorem keys_of_row {w : World} {a : Option Addr} {len cap : Nat} {zs : List Int} (h : IsRow .u64 w a len cap zs) :
    ∃ l : List Nat, Lies w w.heap.size 1 a len (UC l) ∧ len ≤ cap ∧ cap ≤ maxLen := by
  rcases h with ⟨rfl, rfl, rfl, rfl⟩ | ⟨x, rfl, hl, hm, hz, hc, hw⟩
  · exact ⟨[], Lies.empty, Nat.le_refl _, by simp [maxLen]⟩
  · refine ⟨(zs.take len).map fun z => z.toNat, ⟨?_, fun hn => ⟨x, rfl, ?_, ?_⟩⟩, hl, hm⟩
    · rw [UC_length, List.length_map, List.length_take]
      omega
    · have h0 := World.block_lt_of_cell? w _ (hc 0 (by omega))
      rwa [add_block] at h0
    · intro j u hu
      have hj : j < len := by
        rcases Nat.lt_or_ge j len with hj | hj
        · exact hj
        · rw [List.getElem?_eq_none (by rw [UC_length, List.length_map, List.length_take]; omega)] at hu
          cases hu
      have hjz : j < zs.length := by omega
      rw [UC_get _ j (by rw [List.length_map, List.length_take]; omega)] at hu
      injection hu with hu
      subst hu
      rw [hc j hjz]
      obtain ⟨n, hn, _⟩ := wf_u64 (hw zs[j] (List.getElem_mem hjz))
      simp [List.getElem_take, List.getD, hjz, hn]

theorem side_append (s : Bool) (t : Int) (l m : List Nat) : side s t (l ++ m) = side s t l ++ side s t m := by simp [side, List.filter_append]
theorem side_at {s : Bool} {t : Int} {l : List Nat} {k : Nat} (hk : k < l.length) (hs : bitB l[k] t = s) :
    (side s t l)[(side s t (l.take k)).length]? = some l[k] := by
  have e : l = l.take k ++ l[k] :: l.drop (k + 1) := by rw [← List.drop_eq_getElem_cons hk, List.take_append_drop]
  have e2 : side s t l = side s t (l.take k) ++ l[k] :: side s t (l.drop (k + 1)) := by
    conv => lhs; rw [e]
    rw [side_append]
    have : (bitB l[k] t == s) = true := by simpa using hs
    unfold side
    rw [List.filter_cons, if_pos this]
  rw [e2, List.getElem?_append_right (Nat.le_refl _)]
  simp
theorem side_more {s : Bool} {t : Int} {l : List Nat} {k : Nat} (hk : k < l.length) (hs : bitB l[k] t = s) :
    (side s t (l.take k)).length < (side s t l).length := by
  rcases Nat.lt_or_ge (side s t (l.take k)).length (side s t l).length with h | h
  · exact h
  · have := side_at hk hs
    rw [List.getElem?_eq_none h] at this
    cases this

theorem side_cell {s : Bool} {t : Int} {l : List Nat} {k n1 : Nat} {w : World} {B : Nat} {A : Option Addr} (hL : Lies w B 1 A n1 (UC (side s t l))) (hk : k < l.length) (hs : bitB l[k] t = s) :
    ∃ p, A = some p ∧ w.cell? (p.add (side s t (l.take k)).length) = some (.int .u64 ((l[k] : Nat) : Int)) ∧ (side s t (l.take k)).length < n1 := by
  have hlt : (side s t (l.take k)).length < n1 := by have := side_more hk hs; have := hL.len; rw [UC_length] at this; omega
  obtain ⟨p, u, hp, _, hu, hc⟩ := hL.get hlt
  have e : (UC (side s t l))[(side s t (l.take k)).length]? = some (.int .u64 ((l[k] : Nat) : Int)) := by
    unfold UC
    rw [List.getElem?_map, side_at hk hs]
    rfl
  rw [e] at hu
  injection hu with hu
  subst hu
  exact ⟨p, hp, hc, hlt⟩
theorem side_next {s : Bool} {t : Int} {l : List Nat} {k : Nat} (hk : k < l.length) (hs : bitB l[k] t = s) : (side s t (l.take (k + 1))).length = (side s t (l.take k)).length + 1 := by
  rw [take_snoc l k hk, side_same hs]
  simp
theorem side_stays {s : Bool} {t : Int} {l : List Nat} {k : Nat} (hk : k < l.length) (hs : bitB l[k] t ≠ s) : (side s t (l.take (k + 1))).length = (side s t (l.take k)).length := by
  rw [take_snoc l k hk, side_other hs]

def SpR (w1 : World) (n : Nat) (t : Int) (l : List Nat) (i j k : Value) (w : World) : Prop :=
  ∃ m q : Nat, m ≤ n ∧ k = .int .i64 m ∧ i = .int .i64 ((side false t (l.take m)).length : Nat) ∧ j = .int .i64 ((side true t (l.take m)).length : Nat) ∧ Hid (w = w1.drewN q)

set_option maxRecDepth 100000 in
set_option maxHeartbeats 4000000 in
theorem splits_in (n c : Nat) (A : Option Addr) (l : List Nat) (t : Int) (a b : Nat) (w : World) (h : Lies w w.heap.size 1 A n (UC l)) (hn : n ≤ 200) (ha : a < Mx.M) (hb : b < Mx.M) (hT : Tab w) :
    Calls Tryd.prog 4 #[.slice A n c, .int .i64 t, .int .u64 a, .int .u64 b] w fun e w' => e = .returned (.bool true) ∧ Below w.heap.size w w' := by
  have hl : l.length = n := by have := h.len; rw [UC_length] at this; omega
  have HL := Lib.hid hl
  have HH := Lib.hid h
  have HT := Lib.hid hT
  have dn : decide ((200 : Int) < (n : Int)) = false := by simp; omega
  clear hl h hT
  go_enter Tryd.func4, Tryd.ntmps4
  go_wp2_with fail
  refine (split_any n c A l t w HH.out (by omega)).mono ?_
  rintro e w1 ⟨u, v, rfl, h2⟩
  obtain ⟨n1, h1⟩ := h2.a
  obtain ⟨n2, h3⟩ := h2.b
  obtain ⟨A1, c1, rfl, _, _⟩ := own_slice h1
  obtain ⟨A2, c2, rfl, _, _⟩ := own_slice h3
  have L0 := Lib.hid (HH.out.under h2.old)
  have L1 := Lib.hid (Lies.of_own h1)
  have L2 := Lib.hid (Lies.of_own h3)
  have HT1 := Lib.hid (HT.out.under h2.old)
  have B1 := h2.old
  have N1 : Hid ((side false t l).length = n1) := by have := h1.1; rw [UC_length] at this; show _ = _; omega
  have N2 : Hid ((side true t l).length = n2) := by have := h3.1; rw [UC_length] at this; show _ = _; omega
  have b1 : n1 ≤ 200 := by have := N1.out; have := side_le false t l; have := HL.out; omega
  have b2 : n2 ≤ 200 := by have := N2.out; have := side_le true t l; have := HL.out; omega
  clear h1 h2 h3 HH HT
  go_wp2_with fail
  go_loopw [11, 12, 13] (fun i j k wr => SpR w1 n t l i j k wr) (fun _ _ k _ => n - (intOf k).toNat)
  case atStart => exact ⟨0, 0, by omega, rfl, rfl, rfl, Lib.hid rfl⟩
  case round =>
    obtain ⟨m, q, hm, rfl, rfl, rfl, hw⟩ := hrel
    have ew := hw.out
    subst ew
    by_cases hlt : m < n
    · have hkl : m < l.length := by rw [HL.out]; exact hlt
      obtain ⟨p, u, rfl, hb', hx, hcell⟩ := L0.out.get hlt
      rw [UC_get l m hkl] at hx
      injection hx with hx
      subst hx
      cases hs : bitB l[m] t
      · obtain ⟨p1, rfl, hc1, hi1⟩ := side_cell L1.out hkl hs
        have E1 := Lib.hid (side_next hkl hs)
        have E2 := Lib.hid (side_stays (s := true) hkl (by rw [hs]; decide))
        have C := fun W => Lib.hid (refBit_any l[m] t W)
        rw [hs] at C
        clear hs
        generalize (side false t (l.take m)).length = I at *
        generalize (side true t (l.take m)).length = J at *
        generalize l[m] = x at *
        have dI : decide ((n1 : Int) ≤ (I : Int)) = false := by simp; omega
        have dI' : decide (n1 ≤ I) = false := by simp; omega
        go_wp2_with fail
        refine (C _).out.mono ?_
        rintro e w' ⟨rfl, rfl⟩
        go_wp2_with fail
        go_quiet (fail)
        go_wp2_with fail
        refine ⟨⟨m + 1, q + nq, by omega, by go_num, ?_, by rw [E2.out], Lib.hid rfl⟩, by simp [intOf]; omega⟩
        rw [E1.out]
        go_num
      · obtain ⟨p1, rfl, hc1, hi1⟩ := side_cell L2.out hkl hs
        have E1 := Lib.hid (side_next hkl hs)
        have E2 := Lib.hid (side_stays (s := false) hkl (by rw [hs]; decide))
        have C := fun W => Lib.hid (refBit_any l[m] t W)
        rw [hs] at C
        clear hs
        generalize (side true t (l.take m)).length = J at *
        generalize (side false t (l.take m)).length = I at *
        generalize l[m] = x at *
        have dI : decide ((n2 : Int) ≤ (J : Int)) = false := by simp; omega
        have dI' : decide (n2 ≤ J) = false := by simp; omega
        go_wp2_with fail
        refine (C _).out.mono ?_
        rintro e w' ⟨rfl, rfl⟩
        go_wp2_with fail
        go_quiet (fail)
        go_wp2_with fail
        refine ⟨⟨m + 1, q + nq, by omega, by go_num, by rw [E2.out], ?_, Lib.hid rfl⟩, by simp [intOf]; omega⟩
        rw [E1.out]
        go_num
    · have et : l.take m = l := List.take_of_length_le (by rw [HL.out]; omega)
      rw [et, N1.out, N2.out]
      clear et N1 N2 L0 L1 L2 HL
      have TW := Lib.hid (HT1.out.under (below_n _ w1 q))
      have BW := B1.trans (below_n w.heap.size w1 q)
      clear HT1 B1 hw
      generalize w1.drewN q = wq at *
      have hr := Mx.alike_le (Mx.mix a) (Mx.mix b)
      have CA := Lib.hid (alike_any a b wq TW.out)
      have CR := Lib.hid (refAlike_any a b wq)
      have hq : Hid ((((Mx.alike (Mx.mix a) (Mx.mix b) : Nat) : Int) == 64) = ((a : Int) == (b : Int))) := by
        show _ = _
        rw [Bool.eq_iff_iff]
        simp only [beq_iff_eq]
        constructor
        · intro h
          have := Mx.mix_inj ha hb ((Mx.alike_all (Mx.mix_lt a) (Mx.mix_lt b)).1 (by omega))
          omega
        · intro h
          obtain rfl : a = b := by omega
          have := (Mx.alike_all (Mx.mix_lt a) (Mx.mix_lt a)).2 rfl
          omega
      have HB := Lib.hid (fun (k : Nat) (hk : k < Mx.alike (Mx.mix a) (Mx.mix b)) => Mx.alike_bits hk)
      have HS := Lib.hid (Mx.alike_stop (x := Mx.mix a) (y := Mx.mix b))
      generalize Mx.alike (Mx.mix a) (Mx.mix b) = r at *
      go_wp2_with fail
      refine CA.out.mono ?_
      rintro e w' ⟨rfl, rfl⟩
      go_wp2_with fail
      refine CR.out.mono ?_
      rintro e w' ⟨rfl, rfl⟩
      have HQ := hq.out
      go_wp2_with fail
      clear HQ
      go_loop [15] (fun i => ∃ k : Nat, k ≤ 64 ∧ k ≤ r + 1 ∧ i = .int .i64 k) (fun i => 64 - (intOf i).toNat)
      case atStart => exact ⟨0, by omega, by omega, rfl⟩
      case round =>
        obtain ⟨k, hk1, hk2, rfl⟩ := hrel
        by_cases hkr : k ≤ r
        · by_cases hk64 : k < 64
          · by_cases hlt2 : k < r
            · have eb := HB.out k hlt2
              have C1 := fun W => Lib.hid (bit_in a k W hk64)
              have C2 := fun W => Lib.hid (bit_in b k W hk64)
              rw [eb] at C1
              clear eb
              go_wp2_with fail
              refine (C1 _).out.mono ?_
              rintro e w' ⟨rfl, rfl⟩
              go_wp2_with fail
              refine (C2 _).out.mono ?_
              rintro e w' ⟨rfl, rfl⟩
              go_wp2_with fail
              exact ⟨⟨k + 1, by omega, by omega, by go_num⟩, by simp [intOf]; omega⟩
            · have eb : (Mx.mix a).testBit k ≠ (Mx.mix b).testBit k := by
                have := HS.out (by omega)
                rwa [show r = k by omega] at this
              have hd : ((Mx.mix a).testBit k == (Mx.mix b).testBit k) = false := by simpa using eb
              clear eb
              go_wp2_with fail
              refine (bit_in a k _ hk64).mono ?_
              rintro e w' ⟨rfl, rfl⟩
              go_wp2_with fail
              refine (bit_in b k _ hk64).mono ?_
              rintro e w' ⟨rfl, rfl⟩
              go_wp2_with fail
              exact ⟨⟨k + 1, by omega, by omega, by go_num⟩, by simp [intOf]; omega⟩
          · go_wp2_with fail
            refine (works_any _ TW.out).mono ?_
            rintro e w2 ⟨rfl, hb2⟩
            go_wp2_with fail
            go_ret
            exact ⟨rfl, BW.trans (hb2.mono BW.size)⟩
        · go_wp2_with fail
          refine (works_any _ TW.out).mono ?_
          rintro e w2 ⟨rfl, hb2⟩
          go_wp2_with fail
          go_ret
          exact ⟨rfl, BW.trans (hb2.mono BW.size)⟩

set_option maxRecDepth 100000 in
set_option maxHeartbeats 1000000 in
theorem splits_out (n c : Nat) (A : Option Addr) (t a b : Int) (w : World) (hn : 200 < n) (hm : n ≤ 9223372036854775807) (hT : Tab w) :
    Calls Tryd.prog 4 #[.slice A n c, .int .i64 t, .int .u64 a, .int .u64 b] w fun e w' => e = .returned (.bool true) ∧ Below w.heap.size w w' := by
  have HT := Lib.hid hT
  clear hT
  go_enter Tryd.func4, Tryd.ntmps4
  go_wp2_with fail
  refine (works_any _ HT.out).mono ?_
  rintro e w1 ⟨rfl, hb1⟩
  go_wp2_with fail
  go_ret
  exact ⟨rfl, hb1⟩

theorem splits_law (A : Option Addr) (n c : Nat) (z : List Int) (t a b : Int) (w : World) (h : IsRow .u64 w A n c z) (ha : (Lit.int .u64 a).wf = true) (hb : (Lit.int .u64 b).wf = true) (hT : Tab w) :
    Calls Tryd.prog 4 #[.slice A n c, .int .i64 t, .int .u64 a, .int .u64 b] w fun e w' => e = .returned (.bool true) ∧ Below w.heap.size w w' := by
  obtain ⟨l, hl, hc, hm⟩ := keys_of_row h
  by_cases hn : 200 < n
  · exact splits_out n c A t a b w hn (by unfold maxLen at hm; omega) hT
  · obtain ⟨x, rfl, hx⟩ := wf_u64 ha
    obtain ⟨y, rfl, hy⟩ := wf_u64 hb
    exact splits_in n c A l t x y w hl (by omega) hx hy hT
end Go.Proofs.YtkhfmldheclddaaDoor
