/-
  Middle: the number that divides some most evenly.
  Conditions: at most 100000 numbers.
-/
import Derived.Test.YtjbohnnknfcjeaaSL
import Derived.Test.YtjbohnnknfcjeaaSE
namespace Go.Proofs.Ytjbohnnknfcjeaa
open Go.RowKit
attribute [local go_sem] Oper.semAt_some
set_option maxRecDepth 20000

/-- The number in the middle comes back. -/
def MidE (w : World) (l : List Nat) (e : Ending) (z : World) : Prop := ∃ (x : Nat) (ok : Bool), e = .returned (.tuple #[.int .u32 (x : Int), .bool ok]) ∧ MidR l x ok ∧ Below w.heap.size w z
set_option maxHeartbeats 12800000 in
theorem Middle_any (A : Option Addr) (n c : Nat) (l : List Nat) (w : World) (h : Lz (fun _ => False) w 1 A n (UC l)) (hn : n ≤ 99999) :
    Calls Try.prog 18 #[.slice A n c] w (MidE w l) := by
  have hlen := h.ulen
  have HBW : Hid (Below w.heap.size w (w.alloc (.cells #[.slice A n c] 22))) := (Below.refl _ w).alloc (Nat.le_refl _) _
  have HSO := Lib.hid (Sorted_any w.heap.size A n c l (by omega) (w.alloc (.cells #[.slice A n c] 22)) ((At.new w 22 #[.slice A n c]).cell 0) (h.below HBW.out))
  clear h
  go_enter Try.func18, Try.ntmps18
  go_upto_region 2 with (first
    | (go_at_call 24; refine (Values_any A n c w).mono ?_; rintro e z ⟨rfl, rfl⟩)
    | (go_at_call 23; refine HSO.out.mono ?_; rintro e w1 ⟨B, m, d, r, rfl, hrm, hrs, hrp, hrr⟩; have HRM := Lib.hid hrm; have HRS := Lib.hid hrs; have HRP := Lib.hid hrp; have HRR := Lib.hid hrr; clear hrm hrs hrp hrr))
  have HW1 : Hid (Below w.heap.size w w1) := HBW.out.trans (HRR.out.below.mono HBW.out.size)
  have HL := Lib.hid (HRR.out.lz HRM.out)
  have hm9 : m ≤ 99999 := by rw [← HRM.out, HRP.out.length_eq]; omega
  have HM9 : Hid (m ≤ 100000) := by show m ≤ _; omega
  clear HSO HBW HRR hlen hn
  go_wp2_with fail
  go_loopw [5, 6] (fun vb vi wr => ∃ (i b : Nat), 1 ≤ i ∧ i ≤ m + 1 ∧ (b < m ∨ b = 0) ∧ vb = .int .i64 (b : Int) ∧ vi = .int .i64 (i : Int) ∧ (m ≤ i ∨ i < m) ∧ Hid (MdK r i b) ∧ Hid (Below w1.heap.size w1 wr)) (fun _ i _ => m + 1 - (intOf i).toNat)
  case atStart => exact ⟨1, 0, Nat.le_refl _, by omega, .inr rfl, rfl, rfl, by omega, Lib.hid (MdK.start r), Lib.hid (Below.refl _ w1)⟩
  case round =>
    obtain ⟨i, b, hi1, him, hbm, rfl, rfl, _, HK, HB⟩ := hrel
    by_cases hlt : i < m
    · obtain ⟨p, hp⟩ : ∃ p, p + 1 = i := ⟨i - 1, by omega⟩
      obtain ⟨bb, o, hl, rfl, hbb, hc⟩ := HL.out.uc hlt
      obtain ⟨b', o', hl2, ho, _, hc2⟩ := HL.out.uc (k := p) (by omega)
      injection ho with ho
      injection ho with ho1 ho2
      subst ho1 ho2
      obtain ⟨x, hx⟩ : ∃ x, r[i] = x := ⟨_, rfl⟩
      obtain ⟨y, hy⟩ : ∃ y, r[p] = y := ⟨_, rfl⟩
      rw [hx] at hc
      rw [hy] at hc2
      have HX : Hid (∀ h : p + 1 < r.length, r[p + 1] = x) := fun _ => by subst hp; exact hx
      have HY := Lib.hid hy
      have HPI := Lib.hid hp
      have HKI : Hid (MdK r (p + 1) b) := by rw [← hp] at HK; exact HK
      have hl3 : p + 1 < r.length := by rw [HRM.out]; omega
      have ep : (i : Int) - 1 = (p : Int) := by omega
      have wp := wrap_nat (k := p) (by omega)
      have hpm : p < m := by omega
      have hbi : b ≤ 100000 := by omega
      obtain ⟨cg, hcg⟩ : ∃ cg, decide ((y : Int) < (x : Int)) = cg := ⟨_, rfl⟩
      have hcn : decide (y < x) = cg := by rw [← hcg]; exact decide_eq_decide.2 (by omega)
      have HCN := Lib.hid hcn
      clear hx hy hp hl
      cases cg
      · have HK1 : Hid (MdK r (p + 2) b) := HKI.out.keep hl3 (.inl (by rw [HX.out hl3, HY.out]; have := of_decide_eq_false HCN.out; omega))
        go_upto_region 6 with fail
        refine wp_region_held_drew (S := Below w1.heap.size w1) (by kernel_rfl) HB.out.drew (fun hS => ?_)
        refine tk 0 hS ?_
        refine tk 1 hS ?_
        refine tk 2 hS ?_
        refine tk 3 hS ?_ (hy := by intro wz hz; have q1 := below_cell hz hbb hc; have q2 := below_cell hz hbb hc2; go_simp <;> with_reducible rfl)
        refine tk 4 hS ?_
        refine tk 5 hS ?_
        refine tk 6 hS ?_
        refine tk 7 hS ?_
        refine tk 8 hS ?_ (hy := by intro wz hz; have q1 := below_cell hz hbb hc; have q2 := below_cell hz hbb hc2; go_simp <;> with_reducible rfl)
        refine tk 9 hS ?_
        refine tk 10 hS ?_
        refine sk 11 hS ?_
        refine sk 12 hS ?_
        refine sk 13 hS ?_
        refine sk 14 hS ?_
        refine sk 15 hS ?_
        refine sk 16 hS ?_
        refine sk 17 hS ?_
        refine sk 18 hS ?_
        refine sk 19 hS ?_
        refine tk 20 hS ?_
        refine wpAnyH_done (by kernel_rfl) ?_ _
        have HS := Lib.hid hS
        clear hS
        go_wp2_with fail
        exact ⟨⟨i + 1, b, by omega, by omega, hbm, rfl, by go_num, by omega, by rw [← HPI.out]; exact HK1, HS⟩, by simp [intOf]; omega⟩
      · obtain ⟨gi, hgi⟩ : ∃ gi, gapN i m = gi := ⟨_, rfl⟩
        obtain ⟨gb, hgb⟩ : ∃ gb, gapN b m = gb := ⟨_, rfl⟩
        have HGI := Lib.hid hgi
        have HGB := Lib.hid hgb
        obtain ⟨c2, hc2e⟩ : ∃ c2, decide ((gi : Int) < (gb : Int)) = c2 := ⟨_, rfl⟩
        have hc2n : decide (gi < gb) = c2 := by rw [← hc2e]; exact decide_eq_decide.2 (by omega)
        have HC2 := Lib.hid hc2n
        cases c2
        · have HK1 : Hid (MdK r (p + 2) b) := HKI.out.keep hl3 (.inr (by rw [HRM.out, HPI.out, HGI.out, HGB.out]; have := of_decide_eq_false HC2.out; omega))
          go_upto_region 6 with fail
          refine wp_region_held_drew (S := Below w1.heap.size w1) (by kernel_rfl) HB.out.drew (fun hS => ?_)
          refine tk 0 hS ?_
          refine tk 1 hS ?_
          refine tk 2 hS ?_
          refine tk 3 hS ?_ (hy := by intro wz hz; have q1 := below_cell hz hbb hc; have q2 := below_cell hz hbb hc2; go_simp <;> with_reducible rfl)
          refine tk 4 hS ?_
          refine tk 5 hS ?_
          refine tk 6 hS ?_
          refine tk 7 hS ?_
          refine tk 8 hS ?_ (hy := by intro wz hz; have q1 := below_cell hz hbb hc; have q2 := below_cell hz hbb hc2; go_simp <;> with_reducible rfl)
          refine tk 9 hS ?_
          refine tk 10 hS ?_
          refine tk 11 hS ?_
          refine tk 12 hS ?_
          refine tk 13 hS ?_
          refine tk 15 hS ?_
          refine tk 16 hS ?_
          refine tk 17 hS ?_
          refine wpAnyH_ready (rs := [14]) (by kernel_rfl) (by simp) ?_
          refine AllReadyH.cons rfl (fun K hK => ?_) AllReadyH.nil
          go_simp
          refine (gap_any i m (by omega) HM9.out _).mono ?_
          rintro e y9 ⟨rfl, rfl⟩
          have hb : True := trivial
          refine hK.out _ _ (hS) (fun hT => ?_)
          clear hK hb hS
          have hS := hT
          clear hT
          refine wpAnyH_ready (rs := [18]) (by kernel_rfl) (by simp) ?_
          refine AllReadyH.cons rfl (fun K hK => ?_) AllReadyH.nil
          go_simp
          refine (gap_any b m (by omega) HM9.out _).mono ?_
          rintro e y9 ⟨rfl, rfl⟩
          have hb : True := trivial
          refine hK.out _ _ (hS) (fun hT => ?_)
          clear hK hb hS
          have hS := hT
          clear hT
          refine tk 19 hS ?_
          refine tk 20 hS ?_
          refine wpAnyH_done (by kernel_rfl) ?_ _
          have HS := Lib.hid hS
          clear hS
          go_wp2_with fail
          exact ⟨⟨i + 1, b, by omega, by omega, hbm, rfl, by go_num, by omega, by rw [← HPI.out]; exact HK1, HS⟩, by simp [intOf]; omega⟩
        · have HK1 : Hid (MdK r (p + 2) (p + 1)) := HKI.out.take hl3 (by rw [HX.out hl3, HY.out]; exact of_decide_eq_true HCN.out) (by rw [HRM.out, HPI.out, HGI.out, HGB.out]; exact of_decide_eq_true HC2.out)
          go_upto_region 6 with fail
          refine wp_region_held_drew (S := Below w1.heap.size w1) (by kernel_rfl) HB.out.drew (fun hS => ?_)
          refine tk 0 hS ?_
          refine tk 1 hS ?_
          refine tk 2 hS ?_
          refine tk 3 hS ?_ (hy := by intro wz hz; have q1 := below_cell hz hbb hc; have q2 := below_cell hz hbb hc2; go_simp <;> with_reducible rfl)
          refine tk 4 hS ?_
          refine tk 5 hS ?_
          refine tk 6 hS ?_
          refine tk 7 hS ?_
          refine tk 8 hS ?_ (hy := by intro wz hz; have q1 := below_cell hz hbb hc; have q2 := below_cell hz hbb hc2; go_simp <;> with_reducible rfl)
          refine tk 9 hS ?_
          refine tk 10 hS ?_
          refine tk 11 hS ?_
          refine tk 12 hS ?_
          refine tk 13 hS ?_
          refine tk 15 hS ?_
          refine tk 16 hS ?_
          refine tk 17 hS ?_
          refine wpAnyH_ready (rs := [14]) (by kernel_rfl) (by simp) ?_
          refine AllReadyH.cons rfl (fun K hK => ?_) AllReadyH.nil
          go_simp
          refine (gap_any i m (by omega) HM9.out _).mono ?_
          rintro e y9 ⟨rfl, rfl⟩
          have hb : True := trivial
          refine hK.out _ _ (hS) (fun hT => ?_)
          clear hK hb hS
          have hS := hT
          clear hT
          refine wpAnyH_ready (rs := [18]) (by kernel_rfl) (by simp) ?_
          refine AllReadyH.cons rfl (fun K hK => ?_) AllReadyH.nil
          go_simp
          refine (gap_any b m (by omega) HM9.out _).mono ?_
          rintro e y9 ⟨rfl, rfl⟩
          have hb : True := trivial
          refine hK.out _ _ (hS) (fun hT => ?_)
          clear hK hb hS
          have hS := hT
          clear hT
          refine tk 19 hS ?_
          refine tk 20 hS ?_
          refine wpAnyH_done (by kernel_rfl) ?_ _
          have HS := Lib.hid hS
          clear hS
          go_wp2_with fail
          exact ⟨⟨i + 1, i, by omega, by omega, .inl hlt, rfl, by go_num, by omega, by have := HK1.out; rw [HPI.out] at this; exact Lib.hid (by rw [← HPI.out]; rw [HPI.out]; exact (show MdK r (i + 1) i by rw [← HPI.out]; exact HK1.out)), HS⟩, by simp [intOf]; omega⟩
    · have hdone := HK.out.done HRS.out (by rw [HRM.out]; omega) (by rw [HRM.out]; exact hbm)
      by_cases hb0 : b = 0
      · subst hb0
        have HR : Hid (MidR l 0 false) := by
          show MidR l 0 false
          have h1 := hdone.perm HRP.out
          simpa using h1
        clear hdone
        go_wp2_with fail
        go_ret2
        exact ⟨0, false, rfl, HR.out, HW1.out.trans (HB.out.mono HW1.out.size)⟩
      · have hbm2 : b < m := by omega
        have e0 : ((b : Int) == 0) = false := by
          have : (b : Int) ≠ 0 := by omega
          simpa using this
        obtain ⟨bb, o, hl, rfl, hbb, hc⟩ := HL.out.uc hbm2
        have hbl : b < r.length := by rw [HRM.out]; exact hbm2
        rw [dif_pos ⟨hbl, Nat.pos_of_ne_zero hb0⟩, decide_eq_true (Nat.pos_of_ne_zero hb0)] at hdone
        have HR := Lib.hid (hdone.perm HRP.out)
        have q1 := below_cell HB.out hbb hc
        generalize r[b] = y at q1 HR hdone hc
        clear hdone hb0
        go_wp2_with fail
        go_ret2
        exact ⟨y, true, rfl, HR.out, HW1.out.trans (HB.out.mono HW1.out.size)⟩
end Go.Proofs.Ytjbohnnknfcjeaa
