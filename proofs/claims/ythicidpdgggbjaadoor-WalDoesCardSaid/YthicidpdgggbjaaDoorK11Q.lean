/-
  The walks of cmp.Compare, slices.BinarySearchFunc over entries, and Find.
  Conditions: at most 1000 entries, of at most 1000 pages and numbers.
-/
import Derived.Test.YthicidpdgggbjaaDoorK10Q
namespace Go.Proofs.YthicidpdgggbjaaDoor
open Go.RowKit
set_option maxRecDepth 8000

set_option maxHeartbeats 400000 in
theorem isNaN_any (x : Int) (w : World) : Calls Tryd.prog 73 #[.int .u64 x] w fun e w' => e = .returned (.bool false) ∧ w = w' := by
  go_enter Tryd.func73, Tryd.ntmps73
  go_wp2_with fail
  go_ret
  refine ⟨?_, rfl⟩
  simp
def cmpI (a b : Nat) : Int := if a < b then -1 else if b < a then 1 else 0
set_option maxHeartbeats 800000 in
theorem cmp_any (a b : Nat) (w : World) : Calls Tryd.prog 53 #[.int .u64 (a : Int), .int .u64 (b : Int)] w fun e w' => e = .returned (.int .i64 (cmpI a b)) ∧ w = w' := by
  by_cases h1 : a < b
  · have d1 : decide ((a : Int) < (b : Int)) = true := by simp; omega
    have HC := Lib.hid (show cmpI a b = -1 by rw [cmpI, if_pos h1])
    go_enter Tryd.func53, Tryd.ntmps53
    go_wp2_with (go_at_call 73; refine (isNaN_any _ _).mono ?_; rintro e w1 ⟨rfl, rfl⟩)
    go_ret
    exact ⟨by rw [HC.out]; rfl, rfl⟩
  · have d1 : decide ((a : Int) < (b : Int)) = false := by simp; omega
    by_cases h2 : b < a
    · have d2 : decide ((b : Int) < (a : Int)) = true := by simp; omega
      have HC := Lib.hid (show cmpI a b = 1 by rw [cmpI, if_neg h1, if_pos h2])
      go_enter Tryd.func53, Tryd.ntmps53
      go_wp2_with (go_at_call 73; refine (isNaN_any _ _).mono ?_; rintro e w1 ⟨rfl, rfl⟩)
      go_ret
      exact ⟨by rw [HC.out]; rfl, rfl⟩
    · have d2 : decide ((b : Int) < (a : Int)) = false := by simp; omega
      have HC := Lib.hid (show cmpI a b = 0 by rw [cmpI, if_neg h1, if_neg h2])
      go_enter Tryd.func53, Tryd.ntmps53
      go_wp2_with (go_at_call 73; refine (isNaN_any _ _).mono ?_; rintro e w1 ⟨rfl, rfl⟩)
      go_ret
      exact ⟨by rw [HC.out]; rfl, rfl⟩
set_option maxHeartbeats 400000 in
theorem find1_any (r : Er) (t : Nat) (w : World) : Calls Tryd.prog 52 #[.agg (erA r), .int .u64 (t : Int)] w fun e w' => e = .returned (.int .i64 (cmpI r.e.lsn t)) ∧ Below w.heap.size w w' := by
  have B1 := Lib.hid ((Below.refl w.heap.size w).alloc (Nat.le_refl _) (.cells (erA r) 42))
  have c0 : (w.alloc (.cells (erA r) 42)).cell? ⟨w.heap.size, 0, none⟩ = some (.int .u64 (r.e.lsn : Int)) := (At.new w 42 (erA r)).cell 0
  go_enter Tryd.func52, Tryd.ntmps52
  go_wp2_with (go_at_call 53; refine (cmp_any _ _ _).mono ?_; rintro e w1 ⟨rfl, rfl⟩)
  go_ret
  exact ⟨rfl, B1.out⟩

/-- Numbers that rise. -/
def Ris (rs : List Er) : Prop := ∀ (a b : Nat) (hab : a < b) (hb : b < rs.length), (rs[a]'(by omega)).e.lsn < rs[b].e.lsn
structure BsR (rs : List Er) (t i j : Nat) : Prop where
  ij : i ≤ j
  jn : j ≤ rs.length
  lo : ∀ (k : Nat) (hk : k < rs.length), k < i → rs[k].e.lsn < t
  hi : ∀ (k : Nat) (hk : k < rs.length), j ≤ k → t ≤ rs[k].e.lsn
def BSL (w : World) (rs : List Er) (t : Nat) (a b : Value) (z : World) : Prop :=
  ∃ i j : Nat, a = .int .i64 (i : Int) ∧ b = .int .i64 (j : Int) ∧ Hid (BsR rs t i j) ∧ Hid (Below w.heap.size w z)
def natOf (v : Value) : Nat := (intOf v).toNat

set_option maxHeartbeats 1600000 in
theorem bsf_any (X : Nat → Prop) (A : Option Addr) (n c : Nat) (rs : List Er) (t : Nat) (w : World) (h : LEz X w A n rs) (hn : n ≤ 1000) (hr : Ris rs) :
    Calls Tryd.prog 51 #[.slice A n c, .int .u64 (t : Int), .func (.func 52) #[] #[]] w fun e w' =>
      ∃ (i : Nat) (f : Bool), BsR rs t i i ∧ (f = true ↔ ∃ hi : i < rs.length, rs[i].e.lsn = t) ∧ e = .returned (.tuple #[.int .i64 (i : Int), .bool f]) ∧ Below w.heap.size w w' := by
  have hl := h.len
  have HH := Lib.hid h
  have HL := Lib.hid hl
  have HR := Lib.hid hr
  clear h hl hr
  go_enter Tryd.func51, Tryd.ntmps51
  go_wp2_with fail
  go_loopw [9, 10] (fun a b z => BSL w rs t a b z) (fun a b _ => natOf b - natOf a)
  case atStart => exact ⟨0, n, rfl, rfl, ⟨Nat.zero_le _, by rw [HL.out]; exact Nat.le_refl _, fun k _ hk => by omega, fun k hk h => by rw [HL.out] at hk; omega⟩, Below.refl _ _⟩
  case round =>
    obtain ⟨i, j, rfl, rfl, HB, HW⟩ := hrel
    have hij := HB.out.ij
    have hjn : j ≤ n := by have := HB.out.jn; rw [HL.out] at this; exact this
    by_cases hlt : i < j
    · obtain ⟨hh, hhh⟩ : ∃ hh, hh = (i + j) / 2 := ⟨_, rfl⟩
      have h1 : hh < j := by omega
      have h2 : i ≤ hh := by omega
      have e2 : ((i : Int) + (j : Int)) / 2 = (hh : Int) := by omega
      obtain ⟨b, o, hl, rfl, _, hbl, hR, _⟩ := (HH.out.below HW.out).at (k := hh) (by omega)
      have R1 := Lib.hid hR
      obtain ⟨r, hr⟩ : ∃ r, rs[hh] = r := ⟨_, rfl⟩
      rw [hr] at R1
      have HRR := Lib.hid hr
      clear hR hr hhh
      by_cases hc : r.e.lsn < t
      · have hd : decide (cmpI r.e.lsn t < 0) = true := by rw [cmpI, if_pos hc]; rfl
        have HC := Lib.hid hc
        clear hc
        go_wp2_with (first
          | refine wpList_load_er 28 (.tmp 27) rfl rfl rfl b (o + hh * 13) rfl r R1.out ?_
          | (go_at_call 52; refine (find1_any r t _).mono ?_; rintro e z2 ⟨rfl, hb2⟩; have HW2 := Lib.hid (HW.out.trans (hb2.mono HW.out.size)); clear hb2))
        refine ⟨⟨hh + 1, j, by go_num, rfl, ⟨h1, HB.out.jn, fun k hk hki => ?_, HB.out.hi⟩, HW2⟩, by simp [natOf, intOf]; omega⟩
        by_cases e : k = hh
        · subst e
          rw [HRR.out]
          exact HC.out
        · have h3 := HR.out k hh (by omega) hl
          rw [HRR.out] at h3
          have := HC.out
          omega
      · have hd : decide (cmpI r.e.lsn t < 0) = false := by
          rw [cmpI, if_neg hc]
          split <;> rfl
        have HC := Lib.hid hc
        clear hc
        go_wp2_with (first
          | refine wpList_load_er 28 (.tmp 27) rfl rfl rfl b (o + hh * 13) rfl r R1.out ?_
          | (go_at_call 52; refine (find1_any r t _).mono ?_; rintro e z2 ⟨rfl, hb2⟩; have HW2 := Lib.hid (HW.out.trans (hb2.mono HW.out.size)); clear hb2))
        refine ⟨⟨i, hh, rfl, by go_num, ⟨h2, by omega, HB.out.lo, fun k hk hki => ?_⟩, HW2⟩, by simp [natOf, intOf]; omega⟩
        by_cases e : k = hh
        · subst e
          rw [HRR.out]
          have := HC.out
          omega
        · have h3 := HR.out hh k (by omega) hk
          rw [HRR.out] at h3
          have := HC.out
          omega
    · obtain rfl : i = j := by omega
      by_cases hin : i < n
      · have hd : decide ((i : Int) < (n : Int)) = true := by simp; omega
        obtain ⟨b, o, hl, rfl, _, hbl, hR, _⟩ := (HH.out.below HW.out).at (k := i) hin
        have R1 := Lib.hid hR
        obtain ⟨r, hr⟩ : ∃ r, rs[i] = r := ⟨_, rfl⟩
        rw [hr] at R1
        have HRR := Lib.hid hr
        clear hR hr
        obtain ⟨q, hq⟩ : ∃ q : Bool, (cmpI r.e.lsn t == 0) = q := ⟨_, rfl⟩
        have HQ : Hid (q = true ↔ r.e.lsn = t) := by
          show _ ↔ _
          rw [← hq, beq_iff_eq, cmpI]
          constructor
          · intro h
            by_cases h1 : r.e.lsn < t
            · rw [if_pos h1] at h; omega
            · rw [if_neg h1] at h
              by_cases h2 : t < r.e.lsn
              · rw [if_pos h2] at h; omega
              · omega
          · intro h
            rw [if_neg (by omega), if_neg (by omega)]
        go_wp2_with (first
          | (refine wpList_load_erG 44 (.tmp 43) rfl (by rfl) rfl b (o + i * 13) rfl r R1.out ?_)
          | (go_at_call 52; refine (find1_any r t _).mono ?_; rintro e z2 ⟨rfl, hb2⟩; have HW2 := Lib.hid (HW.out.trans (hb2.mono HW.out.size)); clear hb2))
        go_ret2
        refine ⟨i, q, HB.out, ?_, rfl, HW2.out⟩
        rw [HQ.out, ← HRR.out]
        exact ⟨fun h => ⟨hl, h⟩, fun ⟨_, h⟩ => h⟩
      · have hd : decide ((i : Int) < (n : Int)) = false := by simp; omega
        go_wp2_with fail
        go_ret2
        exact ⟨i, false, HB.out, ⟨(fun h => by cases h), fun ⟨h, _⟩ => absurd (HL.out ▸ h) hin⟩, rfl, HW.out⟩

/-! ### Find -/
def FindY (w : World) (e : Ent) (o : Ending) (w' : World) : Prop :=
  ∃ r' : Er, r'.e = e ∧ r'.np = e.pages.length ∧ r'.na = e.act.length ∧ o = .returned (.tuple #[.agg (erA r'), .bool true]) ∧ ELz (fun k => k < w.heap.size) w' r' ∧ Below w.heap.size w w'
def FindN (w : World) (o : Ending) (w' : World) : Prop := o = .returned (.tuple #[.agg zE, .bool false]) ∧ Below w.heap.size w w'
section
variable (X : Nat → Prop) (B : Nat) (w : World) (g gd base size : Nat) (rs : List Er) (fo : Nat) (ws : List Sect) (vE vW : Value)
set_option maxHeartbeats 1600000 in
theorem find_yes (h : LogAt X B w g gd base size rs fo ws vE vW) (hn : rs.length ≤ 1000) (hP : ∀ r ∈ rs, r.np ≤ 1000 ∧ r.na ≤ 1000) (hr : Ris rs) (k : Nat) (hk : k < rs.length) (t : Nat) (ht : rs[k].e.lsn = t) :
    Calls Tryd.prog 28 #[.pointer (some ⟨g, 0, none⟩), .int .u64 (t : Int)] w (FindY w rs[k].e) := by
  obtain ⟨AE, cE, AW, cW, rfl, rfl, hcE, hcE2, _⟩ := h.sl
  have hzero := (zero_of_info ent_info2).1
  have hinfo := Lib.hid (zero_of_info ent_info2).2
  obtain ⟨n, hnn⟩ : ∃ n, rs.length = n := ⟨_, rfl⟩
  have LE0 : LEz (fun _ => False) w AE n rs := ⟨hnn ▸ Lz.of_own h.oe (fun _ h => h.elim), fun r hr => (h.els r hr).mono fun _ _ h => h.elim⟩
  have B4 := Lib.hid (At.new w 42 zE)
  have BW := Lib.hid ((Below.refl w.heap.size w).alloc (Nat.le_refl _) (.cells zE 42))
  have c3 : (w.alloc (.cells zE 42)).cell? ⟨g, 3, none⟩ = some (.slice AE n cE) := by
    rw [← hnn]
    exact (BW.out.cell (p := ⟨g, 3, none⟩) h.box.lt).trans h.cells.2.2.2.1
  have HF := Lib.hid (bsf_any _ AE n cE rs t _ (LE0.below BW.out) (by omega) hr)
  have gl : g < w.heap.size := h.box.lt
  obtain ⟨r, hrk⟩ : ∃ r, rs[k] = r := ⟨_, rfl⟩
  obtain ⟨p1, p2⟩ := hP _ (List.getElem_mem hk)
  rw [hrk] at ht p1 p2 ⊢
  have HT := Lib.hid ht
  have HRK := Lib.hid hrk
  have HN := Lib.hid hnn
  have HR := Lib.hid hr
  have HL := Lib.hid LE0
  clear h LE0 hP hr ht hrk hnn
  go_enter Tryd.func28, Tryd.ntmps28
  go_wp2_with (first
    | (go_at_call 51; refine HF.out.mono ?_
       rintro e w1 ⟨i, f, hb, hf, rfl, hb1⟩
       obtain rfl : i = k := by
         by_cases h1 : i < k
         · have h2 := hb.hi i (by omega) (Nat.le_refl _)
           have h3 := HR.out i k h1 hk
           rw [HRK.out, HT.out] at h3
           omega
         · by_cases h1 : k < i
           · have h2 := hb.lo k hk h1
             rw [HRK.out, HT.out] at h2
             omega
           · omega
       obtain rfl : f = true := hf.2 ⟨hk, by rw [HRK.out]; exact HT.out⟩
       have W1 := Lib.hid (BW.out.trans (hb1.mono BW.out.size))
       have A1 := Lib.hid (B4.out.under hb1 B4.out.lt)
       have d3 : w1.cell? ⟨g, 3, none⟩ = some (.slice AE n cE) := (hb1.cell (p := ⟨g, 3, none⟩) (Nat.lt_of_lt_of_le gl BW.out.size)).trans c3
       obtain ⟨b, o, hl, hA, _, _, hR, hel⟩ := (HL.out.below W1.out).at (k := i) (by rw [← HN.out]; exact hk)
       rw [HRK.out] at hR hel
       have R1 := Lib.hid hR
       have EL1 := Lib.hid hel
       subst hA
       have hin : i < n := by rw [← HN.out]; exact hk
       clear hb hf hb1 hR hel)
    | refine wpList_load_er 26 (.tmp 25) rfl rfl rfl b (o + i * 13) rfl r R1.out ?_
    | (go_at_call 34; refine (twin_any _ r _ EL1.out p1 p2).mono ?_
       rintro e z2 ⟨r2, hre, hnp2, hna2, rfl, hel2, hb2⟩
       have HRE := Lib.hid hre
       have HNP := Lib.hid hnp2
       have HNA := Lib.hid hna2
       have A2 := Lib.hid (A1.out.under hb2 A1.out.lt)
       have W2 := Lib.hid (W1.out.trans (hb2.mono W1.out.size))
       have EL2 := Lib.hid (hel2.mono (Y := fun q => q < w.heap.size ∨ q = w.heap.size) (fun q _ hq => by have := A1.out.lt; rcases hq with hq | hq <;> omega))
       clear hre hel2 hb2 hnp2 hna2)
    | (refine wpList_store_at 42 (.tmp 4) (.tmp 27) rfl rfl rfl w.heap.size rfl (erA r2) zE 13 rfl strE rfl rfl (erA_one _) A2.out ?_
       intro w5 h5 g5
       have H5 := Lib.hid h5
       have W5 := Lib.hid (W2.out.grown g5 W2.out.size (fun k hk => by injection hk with hk; omega))
       have EL5 := Lib.hid (EL2.out.kept (w' := w5) ((Mod.refl _ z2).grown g5 (fun k hk => .inl (.inr (by injection hk with hk; exact hk.symm)))))
       clear h5 g5))
  refine bodyPost_ret (v := .tuple #[.agg (erA r2), .bool true]) (results_at2 rfl H5.out strE rfl Tryd.results28 rfl) rfl ?_
  have h1 := EL1.out.lenP
  have h2 := EL1.out.lenA
  exact ⟨r2, HRE.out, by rw [HNP.out, h1], by rw [HNA.out, h2], rfl, EL5.out.mono fun _ _ h => .inl h, W5.out⟩
set_option maxHeartbeats 1600000 in
theorem find_no (h : LogAt X B w g gd base size rs fo ws vE vW) (hn : rs.length ≤ 1000) (hr : Ris rs) (t : Nat) (ht : ∀ (k : Nat) (hk : k < rs.length), rs[k].e.lsn ≠ t) :
    Calls Tryd.prog 28 #[.pointer (some ⟨g, 0, none⟩), .int .u64 (t : Int)] w (FindN w) := by
  obtain ⟨AE, cE, AW, cW, rfl, rfl, hcE, hcE2, _⟩ := h.sl
  have hzero := (zero_of_info ent_info2).1
  have hinfo := Lib.hid (zero_of_info ent_info2).2
  obtain ⟨n, hnn⟩ : ∃ n, rs.length = n := ⟨_, rfl⟩
  have LE0 : LEz (fun _ => False) w AE n rs := ⟨hnn ▸ Lz.of_own h.oe (fun _ h => h.elim), fun r hr => (h.els r hr).mono fun _ _ h => h.elim⟩
  have B4 := Lib.hid (At.new w 42 zE)
  have BW := Lib.hid ((Below.refl w.heap.size w).alloc (Nat.le_refl _) (.cells zE 42))
  have c3 : (w.alloc (.cells zE 42)).cell? ⟨g, 3, none⟩ = some (.slice AE n cE) := by
    rw [← hnn]
    exact (BW.out.cell (p := ⟨g, 3, none⟩) h.box.lt).trans h.cells.2.2.2.1
  have HF := Lib.hid (bsf_any _ AE n cE rs t _ (LE0.below BW.out) (by omega) hr)
  have HT := Lib.hid ht
  clear h LE0 hr ht hnn
  go_enter Tryd.func28, Tryd.ntmps28
  go_wp2_with (first
    | (go_at_call 51; refine HF.out.mono ?_
       rintro e w1 ⟨i, f, _, hf, rfl, hb1⟩
       obtain rfl : f = false := by
         cases f
         · rfl
         · obtain ⟨hi, h⟩ := hf.1 rfl
           exact absurd h (HT.out i hi)
       have W1 := Lib.hid (BW.out.trans (hb1.mono BW.out.size))
       have A1 := Lib.hid (B4.out.under hb1 B4.out.lt)
       clear hf hb1)
    | (refine wpList_store_at 42 (.tmp 4) (.tmp 19) rfl rfl rfl w.heap.size rfl zE zE 13 rfl strE rfl rfl zz_one A1.out ?_
       intro w5 h5 g5
       have H5 := Lib.hid h5
       have W5 := Lib.hid (W1.out.grown g5 W1.out.size (fun k hk => by injection hk with hk; omega))
       clear h5 g5))
  refine bodyPost_ret (v := .tuple #[.agg zE, .bool false]) (results_at2 rfl H5.out strE rfl Tryd.results28 rfl) rfl ?_
  exact ⟨rfl, W5.out⟩
end
end Go.Proofs.YthicidpdgggbjaaDoor
