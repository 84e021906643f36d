/-
  The document's answers: which cuts are right, which of some numbers is the middle, whether two lists are one.
  Conditions: at most 100000 numbers.
-/
import Derived.Test.YtjbohnnknfcjeaaSB
namespace Go.Proofs.Ytjbohnnknfcjeaa
open Go.RowKit
attribute [local go_sem] Oper.semAt_some
set_option maxRecDepth 20000

theorem wrap_nat {k : Nat} (h : k < 9223372036854775808) : IntKind.i64.wrap (k : Int) = (k : Int) := by
  rw [IntKind.wrap_i64]
  omega
/-- Whether the cuts are right. -/
noncomputable def okB (l : List Nat) : Bool := @decide (l.length ≤ 7 ∧ Asc l) (Classical.propDecidable _)
theorem okB_true {l : List Nat} : okB l = true ↔ l.length ≤ 7 ∧ Asc l := by unfold okB; exact @decide_eq_true_iff _ (Classical.propDecidable _)
theorem okB_no {l : List Nat} (h : ¬ (l.length ≤ 7 ∧ Asc l)) : okB l = false := by unfold okB; exact @decide_eq_false _ (Classical.propDecidable _) h
theorem okB_yes {l : List Nat} (h : l.length ≤ 7 ∧ Asc l) : okB l = true := okB_true.2 h
theorem below_n {B : Nat} {w w' : World} (h : Below B w w') (n : Nat) : Below B w (w'.drewN n) := ⟨h.os, h.tape, h.output, h.size, h.block⟩
theorem below_cell {w wz : World} (h : Below w.heap.size w wz) {b k : Nat} (hb : b < w.heap.size) {v : Value} (hc : w.cell? ⟨b, k, none⟩ = some v) : wz.cell? ⟨b, k, none⟩ = some v := (h.cell (p := ⟨b, k, none⟩) hb).trans hc
set_option maxHeartbeats 6400000 in
theorem rRight_any (A : Option Addr) (n c : Nat) (l : List Nat) (w : World) (h : Lz (fun _ => False) w 1 A n (UC l)) :
    Calls Try.prog 9 #[.slice A n c] w (RetB w (.bool (okB l))) := by
  have hlen := h.ulen
  have HL := Lib.hid h
  clear h
  by_cases h7 : 7 < n
  · have HN := Lib.hid (okB_no (l := l) (fun h => by omega))
    go_enter Try.func9, Try.ntmps9
    go_wp2_with fail
    go_ret
    exact ⟨by rw [HN.out]; rfl, Below.refl _ _⟩
  go_enter Try.func9, Try.ntmps9
  go_wp2_with fail
  go_loopw [2, 3] (fun v2 vi wr => ∃ k : Nat, k ≤ n ∧ v2 = .bool false ∧ vi = .int .i64 (k : Int) ∧ Hid (AscK l k) ∧ Hid (Below w.heap.size w wr)) (fun _ i _ => n - (intOf i).toNat)
  case atStart => exact ⟨0, Nat.zero_le _, rfl, by go_num, Lib.hid (fun i _ hi => absurd hi (Nat.not_lt_zero _)), Lib.hid (Below.refl _ w)⟩
  case round =>
    obtain ⟨k, hk, rfl, rfl, HA, HB⟩ := hrel
    by_cases hlt : k < n
    · obtain ⟨b, o, hl, rfl, hb, hc⟩ := HL.out.uc hlt
      obtain ⟨x, hx⟩ : ∃ x, l[k] = x := ⟨_, rfl⟩
      rw [hx] at hc
      have HX := Lib.hid hx
      clear hx
      by_cases h0 : x = 0
      · subst h0
        have HN : Hid (okB l = false) := okB_no (fun h => by have := h.2.pos hl; rw [HX.out] at this; omega)
        go_upto_region 6 with fail
        refine wp_region_held_drew (S := Below w.heap.size w) (by kernel_rfl) HB.out.drew (fun hS => ?_)
        refine tk 0 hS ?_
        refine tk 1 hS ?_
        refine tk 2 hS ?_
        refine tk 3 hS ?_ (hy := by intro wz hz; have q1 := below_cell hz hb hc; go_simp <;> with_reducible rfl)
        refine tk 4 hS ?_
        refine tk 5 hS ?_
        refine sk 6 hS ?_
        refine sk 7 hS ?_
        refine sk 8 hS ?_
        refine sk 9 hS ?_
        refine sk 10 hS ?_
        refine sk 11 hS ?_
        refine sk 12 hS ?_
        refine sk 13 hS ?_
        refine sk 14 hS ?_
        refine sk 15 hS ?_
        refine sk 16 hS ?_
        refine sk 17 hS ?_
        refine sk 18 hS ?_
        refine sk 19 hS ?_
        refine tk 20 hS ?_
        refine wpAnyH_done (by kernel_rfl) ?_ _
        have HS := Lib.hid hS
        clear hS
        go_wp2_with fail
        go_ret
        exact ⟨by rw [HN.out]; rfl, HS.out⟩
      · have e0 : ((x : Int) == 0) = false := by
          have : (x : Int) ≠ 0 := by omega
          simpa using this
        have HNZ := Lib.hid h0
        clear h0
        by_cases hk0 : k = 0
        · subst hk0
          rw [Nat.add_zero] at hc
          have HA1 : Hid (AscK l 1) := HA.out.next hl (by rw [HX.out, lastK_zero]; have := HNZ.out; omega)
          go_upto_region 6 with fail
          refine wp_region_held_drew (S := Below w.heap.size w) (by kernel_rfl) HB.out.drew (fun hS => ?_)
          refine tk 0 hS ?_
          refine tk 1 hS ?_
          refine tk 2 hS ?_
          refine tk 3 hS ?_ (hy := by intro wz hz; have q1 := below_cell hz hb hc; go_simp <;> with_reducible rfl)
          refine tk 4 hS ?_
          refine tk 5 hS ?_
          refine tk 6 hS ?_
          refine tk 7 hS ?_
          refine tk 8 hS ?_
          refine sk 9 hS ?_
          refine sk 10 hS ?_
          refine sk 11 hS ?_
          refine sk 12 hS ?_
          refine sk 13 hS ?_
          refine sk 14 hS ?_
          refine sk 15 hS ?_
          refine sk 16 hS ?_
          refine sk 17 hS ?_
          refine sk 18 hS ?_
          refine tk 19 hS ?_
          refine tk 20 hS ?_
          refine wpAnyH_done (by kernel_rfl) ?_ _
          have HS := Lib.hid hS
          clear hS
          go_wp2_with fail
          exact ⟨⟨1, by omega, rfl, by go_num, HA1, HS⟩, by simp [intOf]; omega⟩
        · obtain ⟨p, rfl⟩ : ∃ p, k = p + 1 := ⟨k - 1, by omega⟩
          obtain ⟨k, hkp⟩ : ∃ k, p + 1 = k := ⟨_, rfl⟩
          obtain ⟨b', o', hl2, ho, _, hc2⟩ := HL.out.uc (k := p) (by omega)
          injection ho with ho
          injection ho with ho1 ho2
          subst ho1 ho2
          obtain ⟨y, hy⟩ : ∃ y, l[p] = y := ⟨_, rfl⟩
          rw [hy] at hc2
          have HLK : Hid (lastK l (p + 1) = y) := by show _ = _; rw [lastK_succ hl2, hy]
          have ep : (k : Int) - 1 = (p : Int) := by omega
          have wp := wrap_nat (k := p) (by omega)
          have xp : p < k ∧ k ≤ p + 1 := by omega
          obtain ⟨z1, z2⟩ := xp
          have hkn : k < n := by omega
          have hpn : p < n := by omega
          have hk0' : decide ((0 : Int) < (k : Int)) = true := by simp; omega
          have hk0n : decide (0 < k) = true := by simp; omega
          have HKP := Lib.hid hkp
          obtain ⟨cg, hcg⟩ : ∃ cg, decide ((x : Int) ≤ (y : Int)) = cg := ⟨_, rfl⟩
          have hcn : decide (x ≤ y) = cg := by rw [← hcg]; exact decide_eq_decide.2 (by omega)
          have HCN := Lib.hid hcn
          rw [hkp] at hc ⊢
          clear hk0 hy hk hlt
          cases cg
          · have HA1 : Hid (AscK l (p + 2)) := HA.out.next hl (by rw [HX.out, HLK.out]; have := of_decide_eq_false HCN.out; omega)
            clear hkp
            go_upto_region 6 with fail
            refine wp_region_held_drew (S := Below w.heap.size w) (by kernel_rfl) HB.out.drew (fun hS => ?_)
            refine tk 0 hS ?_
            refine tk 1 hS ?_
            refine tk 2 hS ?_
            refine tk 3 hS ?_ (hy := by intro wz hz; have q1 := below_cell hz hb hc; have q2 := below_cell hz hb hc2; go_simp <;> with_reducible rfl)
            refine tk 4 hS ?_
            refine tk 5 hS ?_
            refine tk 6 hS ?_
            refine tk 7 hS ?_
            refine tk 8 hS ?_
            refine tk 9 hS ?_
            refine tk 10 hS ?_
            refine tk 11 hS ?_
            refine tk 12 hS ?_ (hy := by intro wz hz; have q1 := below_cell hz hb hc; have q2 := below_cell hz hb hc2; go_simp <;> with_reducible rfl)
            refine tk 13 hS ?_
            refine tk 14 hS ?_
            refine tk 15 hS ?_
            refine tk 16 hS ?_
            refine tk 17 hS ?_ (hy := by intro wz hz; have q1 := below_cell hz hb hc; have q2 := below_cell hz hb hc2; go_simp <;> with_reducible rfl)
            refine tk 18 hS ?_
            refine tk 19 hS ?_
            refine tk 20 hS ?_
            refine wpAnyH_done (by kernel_rfl) ?_ _
            have HS := Lib.hid hS
            clear hS
            go_wp2_with fail
            exact ⟨⟨k + 1, by omega, rfl, by go_num, by rw [← HKP.out]; exact HA1, HS⟩, by simp [intOf]; omega⟩
          · have HN : Hid (okB l = false) := okB_no (fun h => by have := h.2 (p + 1) hl; rw [HX.out, HLK.out] at this; have := of_decide_eq_true HCN.out; omega)
            clear hkp
            go_upto_region 6 with fail
            refine wp_region_held_drew (S := Below w.heap.size w) (by kernel_rfl) HB.out.drew (fun hS => ?_)
            refine tk 0 hS ?_
            refine tk 1 hS ?_
            refine tk 2 hS ?_
            refine tk 3 hS ?_ (hy := by intro wz hz; have q1 := below_cell hz hb hc; have q2 := below_cell hz hb hc2; go_simp <;> with_reducible rfl)
            refine tk 4 hS ?_
            refine tk 5 hS ?_
            refine tk 6 hS ?_
            refine tk 7 hS ?_
            refine tk 8 hS ?_
            refine tk 9 hS ?_
            refine tk 10 hS ?_
            refine tk 11 hS ?_
            refine tk 12 hS ?_ (hy := by intro wz hz; have q1 := below_cell hz hb hc; have q2 := below_cell hz hb hc2; go_simp <;> with_reducible rfl)
            refine tk 13 hS ?_
            refine tk 14 hS ?_
            refine tk 15 hS ?_
            refine tk 16 hS ?_
            refine tk 17 hS ?_ (hy := by intro wz hz; have q1 := below_cell hz hb hc; have q2 := below_cell hz hb hc2; go_simp <;> with_reducible rfl)
            refine tk 18 hS ?_
            refine tk 19 hS ?_
            refine tk 20 hS ?_
            refine wpAnyH_done (by kernel_rfl) ?_ _
            have HS := Lib.hid hS
            clear hS
            go_wp2_with fail
            go_ret
            exact ⟨by rw [HN.out]; rfl, HS.out⟩
    · obtain rfl : k = n := by omega
      have HN : Hid (okB l = true) := okB_yes ⟨by omega, AscK.all (by rw [hlen]; exact HA.out)⟩
      go_wp2_with fail
      go_ret
      exact ⟨by rw [HN.out]; rfl, HB.out⟩
/-- As far as the first k the lists are one. -/
theorem take_next_eq {l m : List Nat} {k : Nat} (h : l.take k = m.take k) (hl : k < l.length) (hm : k < m.length) (e : l[k] = m[k]) : l.take (k + 1) = m.take (k + 1) := by
  rw [List.take_add_one, List.take_add_one, h, List.getElem?_eq_getElem hl, List.getElem?_eq_getElem hm, e]
set_option maxHeartbeats 6400000 in
theorem rSame_any (A : Option Addr) (n c : Nat) (l : List Nat) (B : Option Addr) (m d : Nat) (r : List Nat) (w : World) (h : Lz (fun _ => False) w 1 A n (UC l)) (h2 : Lz (fun _ => False) w 1 B m (UC r)) (hn : n ≤ 100000) (hm : m ≤ 100000) :
    Calls Try.prog 13 #[.slice A n c, .slice B m d] w (RetB w (.bool (decide (l = r)))) := by
  have hlen := h.ulen
  have hlen2 := h2.ulen
  have HL := Lib.hid h
  have HR := Lib.hid h2
  clear h h2
  by_cases hnm : n = m
  case neg =>
    have e0 : ((n : Int) == (m : Int)) = false := by
      have : (n : Int) ≠ (m : Int) := by omega
      simpa using this
    have e1 : ((n : Int) != (m : Int)) = true := by unfold bne; rw [e0]; rfl
    have HNE : Hid (decide (l = r) = false) := decide_eq_false (fun e => hnm (by rw [← hlen, ← hlen2, e]))
    clear hnm
    go_enter Try.func13, Try.ntmps13
    go_wp2_with fail
    go_ret
    exact ⟨by rw [HNE.out]; rfl, Below.refl _ _⟩
  subst hnm
  go_enter Try.func13, Try.ntmps13
  go_wp2_with fail
  go_loopw [4, 5] (fun v2 vi wr => ∃ k : Nat, k ≤ n ∧ v2 = .bool false ∧ vi = .int .i64 (k : Int) ∧ Hid (l.take k = r.take k) ∧ Hid (Below w.heap.size w wr)) (fun _ i _ => n - (intOf i).toNat)
  case atStart => exact ⟨0, Nat.zero_le _, rfl, by go_num, Lib.hid rfl, Lib.hid (Below.refl _ w)⟩
  case round =>
    obtain ⟨k, hk, rfl, rfl, HA, HB⟩ := hrel
    by_cases hlt : k < n
    · obtain ⟨b, o, hl, rfl, hb, hc⟩ := HL.out.uc hlt
      obtain ⟨b2, o2, hl2, rfl, hb2, hc2⟩ := HR.out.uc hlt
      obtain ⟨x, hx⟩ : ∃ x, l[k] = x := ⟨_, rfl⟩
      obtain ⟨y, hy⟩ : ∃ y, r[k] = y := ⟨_, rfl⟩
      rw [hx] at hc
      rw [hy] at hc2
      have q1 := below_cell HB.out.drew hb hc
      have q2 := below_cell HB.out.drew hb2 hc2
      have q1' := below_cell HB.out hb hc
      have q2' := below_cell HB.out hb2 hc2
      have HX := Lib.hid hx
      have HY := Lib.hid hy
      have HDR := Lib.hid (fun k => below_n HB.out k)
      clear hx hy hc hc2
      obtain ⟨cg, hcg⟩ : ∃ cg, ((x : Int) != (y : Int)) = cg := ⟨_, rfl⟩
      have hcn : (x != y) = cg := by rw [← hcg, nat_bne]
      have HCN := Lib.hid hcn
      clear hcn
      cases cg
      · have HA1 : Hid (l.take (k + 1) = r.take (k + 1)) := take_next_eq HA.out hl hl2 (by rw [HX.out, HY.out]; simpa using HCN.out)
        go_upto_region 6 with fail
        go_quiet (fail)
        go_wp2_with fail
        exact ⟨⟨k + 1, by omega, rfl, by go_num, HA1, Lib.hid (HDR.out _)⟩, by simp [intOf]; omega⟩
      · have HNE : Hid (decide (l = r) = false) := decide_eq_false (fun e => by
          have h1 : l[k] = r[k] := by simp only [e]
          rw [HX.out, HY.out] at h1
          simp [h1] at HCN
          exact absurd HCN.out (by simp))
        go_upto_region 6 with fail
        go_quiet (fail)
        go_wp2_with fail
        go_ret
        exact ⟨by rw [HNE.out]; rfl, HDR.out _⟩
    · obtain rfl : k = n := by omega
      have HE : Hid (decide (l = r) = true) := decide_eq_true (by have := HA.out; rwa [List.take_of_length_le (by omega), List.take_of_length_le (by omega)] at this)
      go_wp2_with fail
      go_ret
      exact ⟨by rw [HE.out]; rfl, HB.out⟩
end Go.Proofs.Ytjbohnnknfcjeaa
