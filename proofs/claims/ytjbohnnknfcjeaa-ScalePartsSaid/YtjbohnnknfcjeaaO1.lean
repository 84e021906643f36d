/-
  slices.insertionSortOrdered of numbers.
  Conditions: fewer than 2^62 numbers.
-/
import Derived.Test.YtjbohnnknfcjeaaO0
import Derived.Sort.WalkA
namespace Go.Proofs.Ytjbohnnknfcjeaa
open Go.RowKit Go.Shelf Go.Sort
attribute [local go_sem] Oper.semAt_some
set_option maxRecDepth 20000

set_option maxHeartbeats 6400000 in
theorem insO_any (g n cap a b : Nat) (pad : List Value) (d : Array Nat) (w : World) (h : Nr w g pad d) (hn : d.size = n) (hab : a ≤ b) (hb : b ≤ n) (hs : n < 4611686018427387904) :
    Calls Try.prog 34 #[.slice (some ⟨g, 0, none⟩) n cap, .int .i64 (a : Int), .int .i64 (b : Int)] w (fun e w' => e = .returned (.tuple #[]) ∧ Nq w g pad (insertionSort ltN d a b) w') := by
  have H0 := Lib.hid (Nq.refl h)
  have HN := Lib.hid hn
  clear h hn
  obtain ⟨a1, ha1⟩ : ∃ a1, a + 1 = a1 := ⟨_, rfl⟩
  have ea : (a : Int) + 1 = (a1 : Int) := by omega
  have HA1 := Lib.hid ha1
  have haa : a < a1 ∧ a1 ≤ b + 1 := by omega
  clear ha1
  go_enter Try.func34, Try.ntmps34
  go_wp2_with fail
  go_loopw [6] (fun vi wr => ∃ (i : Nat) (dk : Array Nat), vi = .int .i64 (i : Int) ∧ a < i ∧ i ≤ b + 1 ∧ Hid (dk.size = n) ∧ Hid (Nq w g pad dk wr) ∧ Hid (insOuter ltN a b i dk = insOuter ltN a b (a + 1) d)) (fun vi _ => b + 1 - (intOf vi).toNat)
  case atStart => exact ⟨a1, d, by go_num, haa.1, haa.2, HN, H0, Lib.hid (by rw [HA1.out])⟩
  case round =>
    obtain ⟨i, dk, rfl, hai, hib, HSK, HK, HO⟩ := hrel
    by_cases hlt : i < b
    · go_wp2_with fail
      go_loopw [7] (fun vj wr2 => ∃ (j : Nat) (dj : Array Nat), vj = .int .i64 (j : Int) ∧ a ≤ j ∧ j ≤ i ∧ Hid (dj.size = n) ∧ Hid (Nq w g pad dj wr2) ∧ Hid (insInner ltN a j dj = insInner ltN a i dk)) (fun vj _ => (intOf vj).toNat)
      case atStart => exact ⟨i, dk, rfl, by omega, Nat.le_refl _, HSK, HK, Lib.hid rfl⟩
      case round =>
        obtain ⟨j, dj, rfl, haj, hji, HSJ, HJ, HI⟩ := hrel
        by_cases hja : a < j
        · obtain ⟨j1, hj1⟩ : ∃ j1, j = j1 + 1 := ⟨j - 1, by omega⟩
          have ej : (j : Int) - 1 = (j1 : Int) := by omega
          have hjn : j < dj.size := by rw [HSJ.out]; omega
          have hj1n : j1 < dj.size := by rw [HSJ.out]; omega
          obtain ⟨x, hx⟩ : ∃ x, dj[j]! = x := ⟨_, rfl⟩
          obtain ⟨y, hy⟩ : ∃ y, dj[j1]! = y := ⟨_, rfl⟩
          have PX : Hid (∀ wz, Nr wz g pad dj → wz.cell? ⟨g, j, none⟩ = some (.int .u32 (x : Int))) := fun wz hz => by rw [← hx]; exact hz.cell hjn
          have PY : Hid (∀ wz, Nr wz g pad dj → wz.cell? ⟨g, j1, none⟩ = some (.int .u32 (y : Int))) := fun wz hz => by rw [← hy]; exact hz.cell hj1n
          have HX := Lib.hid hx
          have HY := Lib.hid hy
          obtain ⟨bl, hbl⟩ : ∃ bl, ltN x y = bl := ⟨_, rfl⟩
          have HLT := Lib.hid hbl
          have HJN := Lib.hid hjn
          have HJ1N := Lib.hid hj1n
          have hjx : j < n := by omega
          have hj1x : j1 < n := by omega
          have HJ1 := Lib.hid hj1
          have hj1p : j1 < j := by omega
          have wj1 := wrapN (k := j1) (by omega)
          clear hx hy hbl hjn hj1n hj1
          go_upto_region 4 with fail
          refine wp_region_held_drew (S := fun wz => Nr wz g pad dj) (by kernel_rfl) HJ.out.nr.drew (fun hS => ?_)
          refine tk 0 hS ?_
          refine tk 1 hS ?_
          refine tk 2 hS ?_
          refine tk 3 hS ?_
          refine tk 4 hS ?_
          refine tk 5 hS ?_
          refine tk 6 hS ?_
          refine tk 7 hS ?_ (hy := by intro wz hz; have p1 := PX.out wz hz; have p2 := PY.out wz hz; go_simp <;> with_reducible rfl)
          refine tk 8 hS ?_
          refine tk 9 hS ?_
          refine tk 10 hS ?_
          refine tk 11 hS ?_
          refine tk 12 hS ?_ (hy := by intro wz hz; have p1 := PX.out wz hz; have p2 := PY.out wz hz; go_simp <;> with_reducible rfl)
          refine wpAnyH_ready (rs := [13]) (by kernel_rfl) (by simp) ?_
          refine AllReadyH.cons rfl (fun K hK => ?_) AllReadyH.nil
          go_simp
          refine (less_any x y _).mono ?_
          rintro e y9 ⟨rfl, hy9⟩
          subst hy9
          have hb : True := trivial
          rw [HLT.out]
          refine hK.out _ _ (hS) (fun hT => ?_)
          clear hK hb hS
          have hS := hT
          clear hT
          refine tk 14 hS ?_
          refine wpAnyH_done (by kernel_rfl) ?_ _
          have HS := Lib.hid hS
          clear hS
          have OUT : Hid (ltN dj[j]! dj[j - 1]! = bl) := by
            show _ = _
            rw [show j - 1 = j1 from by have := HJ1.out; omega, HX.out, HY.out, HLT.out]
          cases bl
          · go_wp2_with fail
            exact ⟨⟨i + 1, dj, by go_num, by omega, by omega, HSJ, Lib.hid HJ.out.drew, Lib.hid (by rw [← HO.out, insOuter_go _ _ _ _ _ hlt, ← HI.out, insInner_stop _ _ _ _ (Or.inr OUT.out)])⟩, by simp [intOf]; omega⟩
          · have q1 : wr.cell? ⟨g, j, none⟩ = some (.int .u32 (x : Int)) := PX.out wr HJ.out.nr
            have q2 : wr.cell? ⟨g, j1, none⟩ = some (.int .u32 (y : Int)) := PY.out wr HJ.out.nr
            have f1 : wr.frozen? ⟨g, j, none⟩ = false := HJ.out.nr.frozen j
            have f2 : wr.frozen? ⟨g, j1, none⟩ = false := HJ.out.nr.frozen j1
            have hne : j ≠ j1 := by omega
            have SW := Lib.hid (HJ.out.swp HJN.out HJ1N.out)
            rw [HX.out, HY.out] at SW
            go_wp2_with fail
            go_region
            all_goals go_wp2_with fail
            all_goals exact ⟨⟨j1, swp dj j j1, by go_num, by omega, by omega, Lib.hid (by rw [size_swp]; exact HSJ.out), Lib.hid SW.out.drew.drew, Lib.hid (by rw [← HI.out, insInner_go ltN a j dj hja OUT.out, show j - 1 = j1 from by have := HJ1.out; omega])⟩, by simp [intOf]; omega⟩
        · go_upto_region 4 with fail
          refine wp_region_held_drew (S := fun wz => Nr wz g pad dj) (by kernel_rfl) HJ.out.nr.drew (fun hS => ?_)
          refine tk 0 hS ?_
          refine tk 1 hS ?_
          refine tk 2 hS ?_
          refine tk 3 hS ?_
          refine sk 4 hS ?_
          refine sk 5 hS ?_
          refine sk 6 hS ?_
          refine sk 7 hS ?_
          refine sk 8 hS ?_
          refine sk 9 hS ?_
          refine sk 10 hS ?_
          refine sk 11 hS ?_
          refine sk 12 hS ?_
          refine sk 13 hS ?_
          refine tk 14 hS ?_
          refine wpAnyH_done (by kernel_rfl) ?_ _
          clear hS
          go_wp2_with fail
          exact ⟨⟨i + 1, dj, by go_num, by omega, by omega, HSJ, Lib.hid HJ.out.drew, Lib.hid (by rw [← HO.out, insOuter_go _ _ _ _ _ hlt, ← HI.out, insInner_stop _ _ _ _ (Or.inl (by omega))])⟩, by simp [intOf]; omega⟩
    · go_wp2_with fail
      go_end0
      exact ⟨rfl, by unfold insertionSort; rw [← HO.out, insOuter_stop _ _ _ _ _ hlt]; exact HK.out⟩
end Go.Proofs.Ytjbohnnknfcjeaa
