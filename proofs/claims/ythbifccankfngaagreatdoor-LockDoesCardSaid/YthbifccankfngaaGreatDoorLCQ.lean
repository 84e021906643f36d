/-
  The law LockDoes whatever came in.
  Conditions: none beyond those that each theorem names.
-/
import Derived.Test.YthbifccankfngaaGreatDoorLC0Q
import Derived.Test.YthbifccankfngaaGreatDoorL10Q
namespace Go.Proofs.YthbifccankfngaaGreatDoor
open Go.RowKit Go.Shelf
attribute [local go_sem] Oper.semAt_some
set_option maxRecDepth 20000

set_option maxHeartbeats 12800000 in
theorem does_small (AO : Option Addr) (N cO : Nat) (os : List Opx) (w : World) (hO : OZ w AO N os) (hi : ∀ o ∈ os, OpOk o) (hT : Tab w) (hN60 : N ≤ 60) :
    Calls Tryz.prog 3 #[.slice AO N cO] w (RetB w (.bool true)) := by
  have d1 : decide ((60 : Int) < (N : Int)) = false := by simp; omega
  have HO := Lib.hid hO
  have HI := Lib.hid hi
  have HTB := Lib.hid hT
  clear hO hi hT
  go_enter Tryz.func3, Tryz.ntmps3
  go_wp2_with fail
  refine (new_any w).mono ?_
  rintro e z1 ⟨g, X0, rfl, hg, hx, hb⟩
  have HG := Lib.hid hg
  have HX := Lib.hid hx
  have HB := Lib.hid hb
  clear hg hx hb
  go_upto_region 7 with ((with_reducible show wpList _ _ _ (⟨none, _, _, _, _, _⟩ :: _) _ _); refine wpList_store_new 28 (.tmp 4) (.tmp 14) rfl rfl rfl z1.heap.size z1 rfl rfl (rtA none none 0 0 0 0) (rtA none none 0 0 0 0) 2 rfl strT rfl rfl (rtA_one _ _ _ _ _ _) rfl ?_)
  have hal : Below z1.heap.size z1 (z1.alloc (.cells (rtA none none 0 0 0 0) 28)) := (Below.refl _ z1).alloc (Nat.le_refl _) _
  have L0 := Lib.hid (lds_start HTB.out HG.out HX.out HB.out hal (At.new z1 _ _))
  have hwb := HB.out.size
  generalize z1.alloc (.cells (rtA none none 0 0 0 0) 28) = z2 at L0 ⊢
  generalize z1.heap.size = b4 at L0 hwb ⊢
  clear hal HG HX HB
  go_wp2_with fail
  go_loopw [5, 6] (fun v i z => LdL w g b4 N v i z) (fun _ i _ => N - (intOf i).toNat)
  case atStart => exact ⟨0, X0, emptyS, none, 0, 0, none, 0, 0, ⟨[], []⟩, Nat.zero_le _, rfl, rfl, L0⟩
  case round =>
    clear L0
    obtain ⟨k, X, s, A1, n1, c1, A2, n2, c2, u, hk, rfl, rfl, HL⟩ := hrel
    by_cases hlt : k < N
    · obtain ⟨bO, oO, hl, rfl, hbO, hr⟩ := HO.out.at hlt
      obtain ⟨o, ho⟩ : ∃ o, os[k] = o := ⟨_, rfl⟩
      have HOK : Hid (OpOk o) := ho ▸ HI.out _ (List.getElem_mem hl)
      rw [ho] at hr
      have R0 := Lib.hid hr
      have hbr : bO < wr.heap.size := Nat.lt_of_lt_of_le hbO HL.out.low.size
      have RD : Hid (wr.drew.rangeAt bO (oO + k * 5) (opV o)) := pl_rangeAt_block R0.out (HL.out.low.drew.block bO hbO)
      have C0 := Lib.hid ((Below.refl wr.heap.size wr).drew)
      have A4D := Lib.hid (HL.out.below C0.out).box
      have HDO := Lib.hid (do_ready HL.out (by omega) o HOK.out)
      clear hr ho
      go_upto_region 11 with fail
      refine wp_region_held_drew (S := fun wz => wz.rangeAt bO (oO + k * 5) (opV o)) (by kernel_rfl) RD.out (fun hS => ?_)
      refine takeH (i := 0) (d := 22) (v := ?vaa0) rfl (by kernel_rfl) (by kernel_rfl) (by kernel_rfl) (fun _ _ _ h => h) rfl (by rfl) ?yaa0 hS ?raa0
      case yaa0 => (intro wz hz; go_simp <;> with_reducible rfl)
      simp only [List.setIfInBounds_toArray, List.set_cons_zero, List.set_cons_succ]
      refine takeH (i := 2) (d := 24) (v := ?vaa2) rfl (by kernel_rfl) (by kernel_rfl) (by kernel_rfl) (fun _ _ _ h => h) rfl (by rfl) ?yaa2 hS ?raa2
      case yaa2 => (intro wz hz; go_simp <;> with_reducible rfl)
      simp only [List.setIfInBounds_toArray, List.set_cons_zero, List.set_cons_succ]
      refine takeH (i := 3) (d := 25) (v := ?vaa3) rfl (by kernel_rfl) (by kernel_rfl) (by kernel_rfl) (fun _ _ _ h => h) rfl (by rfl) ?yaa3 hS ?raa3
      case yaa3 => (intro wz hz; go_simp <;> with_reducible rfl)
      simp only [List.setIfInBounds_toArray, List.set_cons_zero, List.set_cons_succ]
      refine takeH (i := 4) (d := 26) (v := ?vaa4) rfl (by kernel_rfl) (by kernel_rfl) (by kernel_rfl) (fun _ _ _ h => h) rfl (by rfl) ?yaa4 hS ?raa4
      case yaa4 => (intro wz hz; go_simp <;> with_reducible rfl)
      simp only [List.setIfInBounds_toArray, List.set_cons_zero, List.set_cons_succ]
      refine takeH (i := 5) (d := 27) (v := .agg (opA o)) rfl (by kernel_rfl) (by kernel_rfl) (by kernel_rfl) (fun _ _ _ h => h) rfl (by rfl) ?yaa5 hS ?raa5
      case yaa5 => (intro wz hz; exact exec_load_in 35 (.tmp 26) rfl bO (oO + k * 5) rfl (opV o) 5 strOp rfl hz)
      simp only [List.setIfInBounds_toArray, List.set_cons_zero, List.set_cons_succ]
      refine wpAnyH_ready (rs := [1]) (by kernel_rfl) (by simp) ?_
      refine AllReadyH.cons rfl (fun K hK => ?_) AllReadyH.nil
      rw [if_pos (by rfl)]
      refine wp_exec 23 rfl (exec_load_at 28 (.tmp 4) rfl b4 rfl (rtA A1 A2 n1 c1 n2 c2) 2 strT rfl A4D.out) ?_
      refine hK.out _ _ (hS) (fun hT => ?_)
      clear hK hS
      have hS := hT
      clear hT
      refine wpAnyH_ready (rs := [6]) (by kernel_rfl) (by simp) ?_
      refine AllReadyH.cons rfl (fun K hK => ?_) AllReadyH.nil
      go_simp
      refine (HDO.out _ C0.out).mono ?_
      rintro e y ⟨X', s', B1, m1, d1, B2, m2, d2, u', rfl, h2, q1, q2, q3, q4⟩
      have H2 := Lib.hid h2
      have Q1 := Lib.hid q1
      have Q2 := Lib.hid q2
      have Q3 := Lib.hid q3
      have Q4 := Lib.hid q4
      have RY : Hid (y.rangeAt bO (oO + k * 5) (opV o)) := pl_rangeAt_block R0.out (q1.block bO hbO)
      clear h2 q1 q2 q3 q4
      refine hK.out _ _ (RY.out) (fun hT => ?_)
      clear hK hS
      have hS := hT
      clear hT
      refine takeH (i := 7) (d := 21) (v := ?vaab7) rfl (by kernel_rfl) (by kernel_rfl) (by kernel_rfl) (fun _ _ _ h => h) rfl (by rfl) ?yaab7 hS ?raab7
      case yaab7 => (intro wz hz; go_simp <;> with_reducible rfl)
      simp only [List.setIfInBounds_toArray, List.set_cons_zero, List.set_cons_succ]
      refine takeH (i := 8) (d := 29) (v := ?vaab8) rfl (by kernel_rfl) (by kernel_rfl) (by kernel_rfl) (fun _ _ _ h => h) rfl (by rfl) ?yaab8 hS ?raab8
      case yaab8 => (intro wz hz; go_simp <;> with_reducible rfl)
      simp only [List.setIfInBounds_toArray, List.set_cons_zero, List.set_cons_succ]
      refine takeH (i := 9) (d := 30) (v := ?vaab9) rfl (by kernel_rfl) (by kernel_rfl) (by kernel_rfl) (fun _ _ _ h => h) rfl (by rfl) ?yaab9 hS ?raab9
      case yaab9 => (intro wz hz; go_simp <;> with_reducible rfl)
      simp only [List.setIfInBounds_toArray, List.set_cons_zero, List.set_cons_succ]
      refine wpAnyH_ready (rs := [10]) (by kernel_rfl) (by simp) ?_
      refine AllReadyH.cons rfl (fun K hK => ?_) AllReadyH.nil
      rw [if_pos (by rfl)]
      refine wp_store_at 28 (.tmp 4) (.tmp 29) rfl rfl b4 rfl (rtA B1 B2 m1 d1 m2 d2) (rtA A1 A2 n1 c1 n2 c2) 2 rfl strT rfl rfl (rtA_one _ _ _ _ _ _) Q2.out ?_
      intro w9 ha9 hg9
      have HL9 := Lib.hid (LdS.put HTB.out hwb H2.out Q1.out Q2.out Q3.out Q4.out ha9 hg9)
      have R9 : Hid (w9.rangeAt bO (oO + k * 5) (opV o)) := pl_rangeAt_block R0.out (HL9.out.low.block bO hbO)
      clear ha9 hg9
      refine hK.out _ _ (R9.out) (fun hT => ?_)
      clear hK hS
      have hS := hT
      clear hT
      dsimp only [Act.put]
      refine takeH (i := 11) (d := 5) (v := ?vaac11) rfl (by kernel_rfl) (by kernel_rfl) (by kernel_rfl) (fun _ _ _ h => h) rfl (by rfl) ?yaac11 hS ?raac11
      case yaac11 => (intro wz hz; go_simp <;> with_reducible rfl)
      simp only [List.setIfInBounds_toArray, List.set_cons_zero, List.set_cons_succ]
      refine wpAnyH_done (by kernel_rfl) ?_ _
      clear hS R9 RY H2 Q1 Q2 Q3 Q4
      go_upto_region 12 with fail
      refine wp_region_held_drew (S := Below w9.heap.size w9) (by kernel_rfl) ((Below.refl _ w9).drew) (fun hS => ?_)
      refine takeH (i := 0) (d := 31) (v := ?vsx0) rfl (by kernel_rfl) (by kernel_rfl) (by kernel_rfl) (fun _ _ _ h => h) rfl (by rfl) ?ysx0 hS ?rsx0
      case ysx0 => (intro wz hz; go_simp <;> with_reducible rfl)
      simp only [List.setIfInBounds_toArray, List.set_cons_zero, List.set_cons_succ]
      refine takeH (i := 1) (d := 32) (v := ?vsx1) rfl (by kernel_rfl) (by kernel_rfl) (by kernel_rfl) (fun _ _ _ h => h) rfl (by rfl) ?ysx1 hS ?rsx1
      case ysx1 => (intro wz hz; go_simp <;> with_reducible rfl)
      simp only [List.setIfInBounds_toArray, List.set_cons_zero, List.set_cons_succ]
      refine takeH (i := 2) (d := 33) (v := ?vsx2) rfl (by kernel_rfl) (by kernel_rfl) (by kernel_rfl) (fun _ _ _ h => h) rfl (by rfl) ?ysx2 hS ?rsx2
      case ysx2 => (intro wz hz; go_simp <;> with_reducible rfl)
      simp only [List.setIfInBounds_toArray, List.set_cons_zero, List.set_cons_succ]
      refine takeH (i := 3) (d := 34) (v := ?vsx3) rfl (by kernel_rfl) (by kernel_rfl) (by kernel_rfl) (fun _ _ _ h => h) rfl (by rfl) ?ysx3 hS ?rsx3
      case ysx3 => (intro wz hz; go_simp <;> with_reducible rfl)
      simp only [List.setIfInBounds_toArray, List.set_cons_zero, List.set_cons_succ]
      refine takeH (i := 4) (d := 35) (v := .agg (rtA B1 B2 m1 d1 m2 d2)) rfl (by kernel_rfl) (by kernel_rfl) (by kernel_rfl) (fun _ _ _ h => h) rfl (by rfl) ?ysx4 hS ?rsx4
      case ysx4 => (intro wz hz; exact exec_load_at 28 (.tmp 4) rfl b4 rfl (rtA B1 B2 m1 d1 m2 d2) 2 strT rfl (HL9.out.below hz).box)
      simp only [List.setIfInBounds_toArray, List.set_cons_zero, List.set_cons_succ]
      refine takeH (i := 5) (d := 36) (v := ?vsx5) rfl (by kernel_rfl) (by kernel_rfl) (by kernel_rfl) (fun _ _ _ h => h) rfl (by rfl) ?ysx5 hS ?rsx5
      case ysx5 => (intro wz hz; go_simp <;> with_reducible rfl)
      simp only [List.setIfInBounds_toArray, List.set_cons_zero, List.set_cons_succ]
      refine wpAnyH_ready (rs := [6]) (by kernel_rfl) (by simp) ?_
      refine AllReadyH.cons rfl (fun K hK => ?_) AllReadyH.nil
      go_simp
      refine (txns_any _ N cO os _ (HO.out.below (HL9.out.low.trans (hS.mono HL9.out.low.size))) hN60).mono ?_
      rintro e y1 ⟨AX, cX, rfl, hlx, hb⟩
      have HLX := Lib.hid hlx
      have Y1 := Lib.hid (hS.trans (hb.mono hS.size))
      clear hlx
      refine hK.out _ _ (Y1.out) (fun hT => ?_)
      clear hK hb hS
      have hS := hT
      clear hT
      refine wpAnyH_ready (rs := [7]) (by kernel_rfl) (by simp) ?_
      refine AllReadyH.cons rfl (fun K hK => ?_) AllReadyH.nil
      go_simp
      refine (same_any g X' s' B1 B2 AX m1 d1 m2 d2 (N + 1) cX u' (txL os) _ ((HL9.out.below hS).two.mono (by omega)) HLX.out (by omega) (txL_ok HI.out)).mono ?_
      rintro e y2 ⟨rfl, hb⟩
      have Y2 := Lib.hid (hS.trans (hb.mono hS.size))
      refine hK.out _ _ (Y2.out) (fun hT => ?_)
      clear hK hb hS
      have hS := hT
      clear hT
      refine takeH (i := 8) (d := 39) (v := ?vsx8) rfl (by kernel_rfl) (by kernel_rfl) (by kernel_rfl) (fun _ _ _ h => h) rfl (by rfl) ?ysx8 hS ?rsx8
      case ysx8 => (intro wz hz; go_simp <;> with_reducible rfl)
      simp only [List.setIfInBounds_toArray, List.set_cons_zero, List.set_cons_succ]
      refine takeH (i := 9) (d := 40) (v := ?vsx9) rfl (by kernel_rfl) (by kernel_rfl) (by kernel_rfl) (fun _ _ _ h => h) rfl (by rfl) ?ysx9 hS ?rsx9
      case ysx9 => (intro wz hz; go_simp <;> with_reducible rfl)
      simp only [List.setIfInBounds_toArray, List.set_cons_zero, List.set_cons_succ]
      refine wpAnyH_done (by kernel_rfl) ?_ _
      have HL8 := Lib.hid (HL9.out.below hS)
      clear hS Y1 Y2 HLX HL9
      go_wp2_with fail
      exact ⟨⟨k + 1, X', s', B1, m1, d1, B2, m2, d2, u', by omega, rfl, by go_num, HL8⟩, by simp [intOf]; omega⟩
    · obtain rfl : k = N := by omega
      go_wp2_with fail
      refine (works_any wr (HL.out.two.tb)).mono ?_
      rintro e z9 ⟨rfl, hb9⟩
      have LW := Lib.hid (HL.out.low.trans (hb9.mono HL.out.low.size))
      clear hb9
      go_wp2_with fail
      go_ret
      exact ⟨rfl, LW.out⟩
set_option maxHeartbeats 1600000 in
theorem does_big (AO : Option Addr) (N cO : Nat) (w : World) (hT : Tab w) (hN60 : 60 < N) : Calls Tryz.prog 3 #[.slice AO N cO] w (RetB w (.bool true)) := by
  have d1 : decide ((60 : Int) < (N : Int)) = true := by simp; omega
  have HW := Lib.hid (works_any w hT)
  go_enter Tryz.func3, Tryz.ntmps3
  go_wp2_with fail
  refine HW.out.mono ?_
  rintro e z9 ⟨rfl, hb9⟩
  have LW := Lib.hid hb9
  clear hb9
  go_wp2_with fail
  go_ret
  exact ⟨rfl, LW.out⟩
theorem does_law (AO : Option Addr) (cO : Nat) (os : List Opx) (w : World) (hO : OZ w AO os.length os) (hi : ∀ o ∈ os, OpOk o) (hT : Tab w) : Calls Tryz.prog 3 #[.slice AO os.length cO] w (RetB w (.bool true)) := by
  by_cases h : os.length ≤ 60
  · exact does_small AO _ cO os w hO hi hT h
  · exact does_big AO _ cO w hT (by omega)
end Go.Proofs.YthbifccankfngaaGreatDoor
