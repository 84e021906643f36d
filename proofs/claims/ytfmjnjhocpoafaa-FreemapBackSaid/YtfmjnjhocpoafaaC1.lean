/-
  The walk of Take, over every map.
  Conditions: maps of at most 120 pages.
-/
import Derived.Test.YtfmjnjhocpoafaaC0
namespace Go.Proofs.Ytfmjnjhocpoafaa
open Go.RowKit

set_option maxHeartbeats 800000 in
theorem take_neg (l : List Bool) (n : Int) (h : n < 0) (w : World) :
    Calls Try.prog 10 #[.agg #[.int .i64 (l.length : Nat), .int .u64 (lo l : Nat), .int .u64 (hi l : Nat)], .int .i64 n] w fun e w' => e = .returned (.tuple #[.agg #[.int .i64 (l.length : Nat), .int .u64 (lo l : Nat), .int .u64 (hi l : Nat)], .slice none 0 0, .int .i64 1]) ∧ Below w.heap.size w w' := by
  go_enter Try.func10, Try.ntmps10
  go_wp2_with fail
  exact bodyPost_ret (v := .tuple #[.agg #[.int .i64 (l.length : Nat), .int .u64 (lo l : Nat), .int .u64 (hi l : Nat)], .slice none 0 0, .int .i64 1]) (by simp [results, Try.results10, go_sem]) rfl
    ⟨rfl, ((Below.refl _ _).alloc (Nat.le_refl _) _).alloc (by simp) _⟩
set_option maxHeartbeats 800000 in
theorem take_full (l : List Bool) (n : Int) (hn : l.length ≤ 120) (h : ((fr l).length : Int) < n) (w : World) :
    Calls Try.prog 10 #[.agg #[.int .i64 (l.length : Nat), .int .u64 (lo l : Nat), .int .u64 (hi l : Nat)], .int .i64 n] w fun e w' => e = .returned (.tuple #[.agg #[.int .i64 (l.length : Nat), .int .u64 (lo l : Nat), .int .u64 (hi l : Nat)], .slice none 0 0, .int .i64 6]) ∧ Below w.heap.size w w' := by
  obtain ⟨f, hf⟩ : ∃ f, f = (fr l).length := ⟨_, rfl⟩
  rw [← hf] at h
  have HF := Lib.hid hf
  clear hf
  go_enter Try.func10, Try.ntmps10
  go_wp2_with fail
  refine (free_any l hn _).mono ?_
  rw [show (pg l false l.length).length = f from HF.out.symm]
  rintro e w1 ⟨rfl, h1⟩
  obtain ⟨hc1, hf1⟩ := keep (N := w.heap.size + 2) h1 (by simp)
  have z1 : w.heap.size + 2 ≤ w1.heap.size := by have := h1.size; simp at this; omega
  have B1 := Lib.hid (chain (((Below.refl w.heap.size w).alloc (Nat.le_refl _) _).alloc (by simp) _) h1 (Nat.le_refl _))
  clear h1
  go_wp2_with fail
  exact bodyPost_ret (v := .tuple #[.agg #[.int .i64 (l.length : Nat), .int .u64 (lo l : Nat), .int .u64 (hi l : Nat)], .slice none 0 0, .int .i64 6]) (by simp [results, Try.results10, go_sem, hc1]) rfl
    ⟨rfl, ((B1.out.setCell (by simp) _).setCell (by simp) _).setCell (by simp) _⟩

/-- Between two rounds of Take's loop. -/
structure TkI (w : World) (l : List Bool) (n b k : Nat) (L : List Nat) (W : World) : Prop where
  m : Row W w.heap.size 27 (C3 (takeL l k))
  r : Row W (w.heap.size + 1) 27 [.int .i64 0, .int .u64 0, .int .u64 0]
  s : Row W b 3 (IN L)
  old : Below w.heap.size w W
  len : L.length = n
  is : ∀ j, j < k → L[j]? = (fr l)[j]?
def TkR (w : World) (l : List Bool) (n b : Nat) (v : Value) (W : World) : Prop := ∃ k L, k ≤ n ∧ v = .int .i64 ((k : Nat) : Int) ∧ Hid (TkI w l n b k L W)
/-- What Take returns. -/
def Took (w : World) (l : List Bool) (n : Nat) (e : Ending) (w' : World) : Prop :=
  ∃ b, e = .returned (.tuple #[.agg #[.int .i64 ((takeL l n).length : Nat), .int .u64 (lo (takeL l n) : Nat), .int .u64 (hi (takeL l n) : Nat)], .slice (some ⟨b, 0, none⟩) n n, .int .i64 0]) ∧ w.heap.size ≤ b ∧ Row w' b 3 (IN ((fr l).take n)) ∧ Below w.heap.size w w'

set_option maxHeartbeats 2000000 in
theorem take_ok (l : List Bool) (n : Nat) (hn : l.length ≤ 120) (h : n ≤ (fr l).length) (w : World) :
    Calls Try.prog 10 #[.agg #[.int .i64 (l.length : Nat), .int .u64 (lo l : Nat), .int .u64 (hi l : Nat)], .int .i64 n] w (Took w l n) := by
  have hfl := pg_le l false l.length
  obtain ⟨f, hf⟩ : ∃ f, f = (fr l).length := ⟨_, rfl⟩
  have hnf : n ≤ f := by omega
  have hf120 : f ≤ 120 := by have : f ≤ l.length := by rw [hf]; exact hfl
                             omega
  have HF := Lib.hid hf
  have hmk := make_ints n (by omega)
  have d0 : decide ((n : Int) < 0) = false := by simp
  have d1 : decide (f < n) = false := by simp; omega
  have d2 : decide ((f : Int) < (n : Int)) = false := by simp; omega
  clear hf h hfl
  go_enter Try.func10, Try.ntmps10
  go_wp2_with fail
  refine (free_any l hn _).mono ?_
  rw [show (pg l false l.length).length = f from HF.out.symm]
  rintro e w1 ⟨rfl, h1⟩
  have hI : Hid (TkI w l n w1.heap.size 0 (List.replicate n 0) (w1.alloc (.cells (IN (List.replicate n 0)).toArray 3))) := by
    refine ⟨?_, ?_, Row.new w1 3 _, ?_, by simp, fun j hj => by omega⟩
    · exact (Row.below ((Row.new3 w l).alloc _) h1).alloc _
    · refine (Row.below ?_ h1).alloc _
      have := Row.new (w.alloc (.cells #[.int .i64 (l.length : Nat), .int .u64 (lo l : Nat), .int .u64 (hi l : Nat)] 27)) 27 [.int .i64 0, .int .u64 0, .int .u64 0]
      rwa [World.size_alloc] at this
    · exact (chain (((Below.refl w.heap.size w).alloc (Nat.le_refl _) _).alloc (by simp) _) h1 (Nat.le_refl _)).alloc (by have := h1.size; simp at this; omega) _
  have hb0 : w.heap.size + 2 ≤ w1.heap.size := by have := h1.size; simp at this; omega
  clear h1
  go_wp2_with fail
  obtain ⟨b, hb⟩ : ∃ b, b = w1.heap.size := ⟨_, rfl⟩
  rw [← hb] at hI hb0 ⊢
  clear hb
  go_loopw [21] (fun v wr => TkR w l n b v wr) (fun v _ => n - (intOf v).toNat)
  case atStart => exact ⟨0, _, Nat.zero_le _, rfl, hI⟩
  case round =>
    clear hI
    obtain ⟨k, L, hk, rfl, hI⟩ := hrel
    obtain ⟨m0, m1, m2⟩ := hI.out.m.cells3
    by_cases hlt : k < n
    · have hkf : k < (fr l).length := by have := HF.out; omega
      have HFI := Lib.hid (takeL_first l k hkf)
      have HL := Lib.hid (takeL_setL l k hkf)
      have HX := Lib.hid (show (fr l)[k]? = some (fr l)[k] from List.getElem?_eq_getElem hkf)
      generalize (fr l)[k] = x at HFI HL HX
      have hkL : k < L.length := by rw [hI.out.len]; exact hlt
      have hn2 : (takeL l k).length ≤ 120 := by rw [takeL_length]; exact hn
      go_wp2_with fail
      refine (first_any (takeL l k) hn2 _).mono ?_
      rw [show firstI (pg (takeL l k) false (takeL l k).length) = (x : Int) from HFI.out]
      rintro e w2 ⟨rfl, h2⟩
      have hJ := Lib.hid (show Row w2 b 3 (IN L) from hI.out.s.below h2)
      have hM := Lib.hid (show Row w2 w.heap.size 27 (C3 (takeL l k)) from hI.out.m.below h2)
      have hQ := Lib.hid (show Row w2 (w.heap.size + 1) 27 [.int .i64 0, .int .u64 0, .int .u64 0] from hI.out.r.below h2)
      have hO := Lib.hid (chain hI.out.old h2 (Nat.le_refl _))
      have cs := hJ.out.cell k
      have fs := hJ.out.frozen k
      rw [IN_get L k hkL] at cs
      clear h2 m0 m1 m2
      go_wp2_with fail
      have hR1 := Lib.hid (show Row (w2.setCell ⟨b, k, none⟩ (.int .i64 (x : Int))) b 3 (IN (L.set k x)) by rw [← IN_set]; exact hJ.out.set k _)
      have hM2 := Lib.hid (show Row (w2.setCell ⟨b, k, none⟩ (.int .i64 (x : Int))) w.heap.size 27 (C3 (takeL l k)) from hM.out.other (by omega) _ _)
      have hQ2 := Lib.hid (show Row (w2.setCell ⟨b, k, none⟩ (.int .i64 (x : Int))) (w.heap.size + 1) 27 [.int .i64 0, .int .u64 0, .int .u64 0] from hQ.out.other (by omega) _ _)
      have hO2 := Lib.hid (show Below w.heap.size w (w2.setCell ⟨b, k, none⟩ (.int .i64 (x : Int))) from hO.out.setCell (by simp; omega) _)
      have hLS := Lib.hid (show ∀ j, j < k + 1 → (L.set k x)[j]? = (fr l)[j]? from fun j hj => by
        by_cases e : j = k
        · subst e
          rw [List.getElem?_set_self hkL]
          exact HX.out.symm
        · rw [List.getElem?_set_ne (by omega)]
          exact hI.out.is j (by omega))
      have hLN := Lib.hid (show (L.set k x).length = n by rw [List.length_set]; exact hI.out.len)
      obtain ⟨m0, m1, m2⟩ := hM2.out.cells3
      clear hJ hM hQ hO cs fs hI
      generalize w2.setCell ⟨b, k, none⟩ (.int .i64 (x : Int)) = w3 at hR1 hM2 hQ2 hO2 m0 m1 m2 ⊢
      refine wp_region_held_drew (S := fun z => Row z b 3 (IN (L.set k x))) (by kernel_rfl) hR1.out.drew (fun hS => ?_)
      refine takeH (i := 1) (d := 31) (v := ?va1) rfl (by kernel_rfl) (by kernel_rfl) (by kernel_rfl) (fun _ _ _ h => h) rfl (by rfl) ?ya1 hS ?ra1
      case ya1 => (intro wz hz; have cz := hz.cell k; rw [IN_get _ k (by simp; omega)] at cz; simp only [List.getElem_set_self] at cz; go_simp <;> with_reducible rfl)
      simp only [List.setIfInBounds_toArray, List.set_cons_zero, List.set_cons_succ]
      refine takeH (i := 2) (d := 32) (v := ?va2) rfl (by kernel_rfl) (by kernel_rfl) (by kernel_rfl) (fun _ _ _ h => h) rfl (by rfl) ?ya2 hS ?ra2
      case ya2 => (intro wz hz; have cz := hz.cell k; rw [IN_get _ k (by simp; omega)] at cz; simp only [List.getElem_set_self] at cz; go_simp <;> with_reducible rfl)
      simp only [List.setIfInBounds_toArray, List.set_cons_zero, List.set_cons_succ]
      refine takeH (i := 3) (d := 33) (v := ?va3) rfl (by kernel_rfl) (by kernel_rfl) (by kernel_rfl) (fun _ _ _ h => h) rfl (by rfl) ?ya3 hS ?ra3
      case ya3 => (intro wz hz; have cz := hz.cell k; rw [IN_get _ k (by simp; omega)] at cz; simp only [List.getElem_set_self] at cz; go_simp <;> with_reducible rfl)
      simp only [List.setIfInBounds_toArray, List.set_cons_zero, List.set_cons_succ]
      refine takeH (i := 4) (d := 34) (v := ?va4) rfl (by kernel_rfl) (by kernel_rfl) (by kernel_rfl) (fun _ _ _ h => h) rfl (by rfl) ?ya4 hS ?ra4
      case ya4 => (intro wz hz; have cz := hz.cell k; rw [IN_get _ k (by simp; omega)] at cz; simp only [List.getElem_set_self] at cz; go_simp <;> with_reducible rfl)
      simp only [List.setIfInBounds_toArray, List.set_cons_zero, List.set_cons_succ]
      refine wpAnyH_ready (rs := [0]) (by kernel_rfl) (by simp) ?_
      refine AllReadyH.cons rfl (fun K hK => ?_) AllReadyH.nil
      go_simp
      skip
      refine hK.out _ _ (hS) (fun hT => ?_)
      clear hK  hS
      have hS := hT
      clear hT
      refine wpAnyH_ready (rs := [5]) (by kernel_rfl) (by simp) ?_
      refine AllReadyH.cons rfl (fun K hK => ?_) AllReadyH.nil
      go_simp
      refine (set_yes HL.out.1 HL.out.2 hn2 _).mono ?_
      rintro e w4 ⟨rfl, h4⟩
      have hb4 := Lib.hid h4
      clear h4
      obtain ⟨g0, g1, g2⟩ := (hM2.out.drew.below hb4.out).frozen3
      obtain ⟨j0, j1, j2⟩ := (hM2.out.drew.below hb4.out).cells3
      refine hK.out _ _ (hS.below hb4.out) (fun hT => ?_)
      clear hK  hS
      have hS := hT
      clear hT
      refine takeH (i := 6) (d := 29) (v := ?va6) rfl (by kernel_rfl) (by kernel_rfl) (by kernel_rfl) (fun _ _ _ h => h) rfl (by rfl) ?ya6 hS ?ra6
      case ya6 => (intro wz hz; have cz := hz.cell k; rw [IN_get _ k (by simp; omega)] at cz; simp only [List.getElem_set_self] at cz; go_simp <;> with_reducible rfl)
      simp only [List.setIfInBounds_toArray, List.set_cons_zero, List.set_cons_succ]
      refine takeH (i := 7) (d := 36) (v := ?va7) rfl (by kernel_rfl) (by kernel_rfl) (by kernel_rfl) (fun _ _ _ h => h) rfl (by rfl) ?ya7 hS ?ra7
      case ya7 => (intro wz hz; have cz := hz.cell k; rw [IN_get _ k (by simp; omega)] at cz; simp only [List.getElem_set_self] at cz; go_simp <;> with_reducible rfl)
      simp only [List.setIfInBounds_toArray, List.set_cons_zero, List.set_cons_succ]
      refine takeH (i := 8) (d := 37) (v := ?va8) rfl (by kernel_rfl) (by kernel_rfl) (by kernel_rfl) (fun _ _ _ h => h) rfl (by rfl) ?ya8 hS ?ra8
      case ya8 => (intro wz hz; have cz := hz.cell k; rw [IN_get _ k (by simp; omega)] at cz; simp only [List.getElem_set_self] at cz; go_simp <;> with_reducible rfl)
      simp only [List.setIfInBounds_toArray, List.set_cons_zero, List.set_cons_succ]
      refine wpAnyH_ready (rs := [9]) (by kernel_rfl) (by simp) ?_
      refine AllReadyH.cons rfl (fun K hK => ?_) AllReadyH.nil
      go_simp
      skip
      refine hK.out _ _ (hS.other3 (by omega) _ _ _) (fun hT => ?_)
      clear hK  hS
      have hS := hT
      clear hT
      refine wpAnyH_done (by kernel_rfl) ?_ _
      have hI2 : Hid (TkI w l n b (k + 1) (L.set k x) (((w4.setCell ⟨w.heap.size, 0, none⟩ (.int .i64 ((takeL l (k + 1)).length : Nat))).setCell ⟨w.heap.size, 1, none⟩ (.int .u64 (lo (takeL l (k + 1)) : Nat))).setCell ⟨w.heap.size, 2, none⟩ (.int .u64 (hi (takeL l (k + 1)) : Nat)))) :=
        ⟨(hM2.out.drew.below hb4.out).set3 _, (hQ2.out.drew.below hb4.out).other3 (by omega) _ _ _, hS, ((chain hO2.out.drew hb4.out (Nat.le_refl _)).setCell (by simp) _ |>.setCell (by simp) _ |>.setCell (by simp) _), hLN.out, hLS.out⟩
      clear hS hM2 hQ2 hb4 hO2 hLN hLS
      go_wp2_with fail
      go_roundw
      case rel => exact ⟨k + 1, _, by omega, by go_num, hI2⟩
      case measure => simp [intOf]; omega
    · obtain ⟨f0, f1, f2⟩ := hI.out.r.frozen3
      have r0 := hI.out.r.cell 0
      have r1 := hI.out.r.cell 1
      have r2 := hI.out.r.cell 2
      simp only [List.getElem?_cons_zero, List.getElem?_cons_succ] at r0 r1 r2
      obtain rfl : k = n := by omega
      have hL : L = (fr l).take k := by
        refine List.ext_getElem? fun j => ?_
        rw [List.getElem?_take]
        split
        · rename_i hj
          exact hI.out.is j hj
        · exact List.getElem?_eq_none (by rw [hI.out.len]; omega)
      go_wp2_with fail
      exact bodyPost_ret (v := .tuple #[.agg #[.int .i64 ((takeL l k).length : Nat), .int .u64 (lo (takeL l k) : Nat), .int .u64 (hi (takeL l k) : Nat)], .slice (some ⟨b, 0, none⟩) k k, .int .i64 0]) (by simp [results, Try.results10, go_sem, r0, r1, r2]) rfl
        ⟨b, rfl, by omega, by rw [← hL]; exact hI.out.s.other3 (by omega) _ _ _, ((hI.out.old.setCell (by simp) _).setCell (by simp) _).setCell (by simp) _⟩
end Go.Proofs.Ytfmjnjhocpoafaa
