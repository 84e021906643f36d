/-
  Walks: slices.Equal of pages and of numbers.
  Conditions: slices of at most 1000 elements.
-/
import Derived.Test.YtihlmjknhgnjpaaDoorS0
import Derived.Deep.QuietTactic
import Derived.BigQuiet
import Derived.RegionTactic
namespace Go.Proofs.YtihlmjknhgnjpaaDoor
open Go.RowKit
set_option maxRecDepth 8000

theorem ret_bool {a b : Bool} (h : a = b) : Ending.returned (.bool a) = .returned (.bool b) := by rw [h]
theorem sameIs_refl (l : List Im) : sameIs l l = true := (sameIs_iff l l).2 rfl
theorem sameIs_ne {l1 l2 : List Im} (h : l1 ≠ l2) : sameIs l1 l2 = false := by
  cases hq : sameIs l1 l2 with
  | false => rfl
  | true => exact absurd ((sameIs_iff l1 l2).1 hq) h

set_option maxHeartbeats 800000 in
theorem eqI_any (B1 n1 c1 B2 n2 c2 : Nat) (A1 A2 : Option Addr) (l1 l2 : List Im) (w : World) (h1 : LI w B1 A1 n1 l1) (h2 : LI w B2 A2 n2 l2) (hn1 : n1 ≤ 1000) (hn2 : n2 ≤ 1000) :
    Calls Tryd.prog 28 #[.slice A1 n1 c1, .slice A2 n2 c2] w fun e w' => e = .returned (.bool (sameIs l1 l2)) ∧ ∃ m, w' = w.drewN m := by
  have hl1 := h1.len
  have hl2 := h2.len
  by_cases hne : n1 = n2
  · subst hne
    have HL1 := Lib.hid hl1
    have HL2 := Lib.hid hl2
    have H1 := Lib.hid h1
    have H2 := Lib.hid h2
    clear hl1 hl2 h1 h2
    go_enter Tryd.func28, Tryd.ntmps28
    go_wp2
    go_loopw [13] (fun i wr => ∃ k : Nat, k ≤ n1 ∧ i = .int .i64 k ∧ Hid (l1.take k = l2.take k) ∧ Hid (∃ m, wr = w.drewN m)) (fun i _ => n1 - (intOf i).toNat)
    case atStart => exact ⟨0, Nat.zero_le _, rfl, Lib.hid rfl, Lib.hid ⟨0, rfl⟩⟩
    case round =>
      obtain ⟨k, hk, rfl, hE, hB⟩ := hrel
      obtain ⟨m, rfl⟩ := hB.out
      clear hB
      by_cases hlt : k < n1
      · obtain ⟨b1, o1, k1, rfl, _, hr1⟩ := H1.out.at hlt
        obtain ⟨b2, o2, k2, rfl, _, hr2⟩ := H2.out.at hlt
        have R1 := Lib.hid hr1
        have R2 := Lib.hid hr2
        have e1 := Lib.hid (take_snocI l1 k k1)
        have e2 := Lib.hid (take_snocI l2 k k2)
        clear hr1 hr2
        generalize l1[k] = x1 at *
        generalize l2[k] = x2 at *
        go_wp2_with fail
        refine wp_region_held_drew (S := fun z => ∃ m2, z = w.drewN m2) (by kernel_rfl) ⟨m + 1, rfl⟩ (fun hS => ?_)
        refine takeH (i := 0) (d := 16) (v := ?vg0) rfl (by kernel_rfl) (by kernel_rfl) (by kernel_rfl) (fun _ _ _ h => h) rfl (by rfl) ?yg0 hS ?rg0
        case yg0 => (intro wz hz; go_simp <;> with_reducible rfl)
        simp only [List.setIfInBounds_toArray, List.set_cons_zero, List.set_cons_succ]
        refine takeH (i := 1) (d := 17) (v := ?vg1) rfl (by kernel_rfl) (by kernel_rfl) (by kernel_rfl) (fun _ _ _ h => h) rfl (by rfl) ?yg1 hS ?rg1
        case yg1 => (intro wz hz; go_simp <;> with_reducible rfl)
        simp only [List.setIfInBounds_toArray, List.set_cons_zero, List.set_cons_succ]
        refine takeH (i := 2) (d := 18) (v := ?vg2) rfl (by kernel_rfl) (by kernel_rfl) (by kernel_rfl) (fun _ _ _ h => h) rfl (by rfl) ?yg2 hS ?rg2
        case yg2 => (intro wz hz; go_simp <;> with_reducible rfl)
        simp only [List.setIfInBounds_toArray, List.set_cons_zero, List.set_cons_succ]
        refine takeH (i := 3) (d := 19) (v := .agg (imA x1)) rfl (by kernel_rfl) (by kernel_rfl) (by kernel_rfl) (fun _ _ _ h => h) rfl (by rfl) ?yg3 hS ?rg3
        case yg3 => (intro wz hz; obtain ⟨m2, rfl⟩ := hz; exact exec_load_im (.tmp 18) rfl b1 (o1 + k * 225) rfl x1 R1.out)
        simp only [List.setIfInBounds_toArray, List.set_cons_zero, List.set_cons_succ]
        refine takeH (i := 4) (d := 20) (v := ?vg4) rfl (by kernel_rfl) (by kernel_rfl) (by kernel_rfl) (fun _ _ _ h => h) rfl (by rfl) ?yg4 hS ?rg4
        case yg4 => (intro wz hz; go_simp <;> with_reducible rfl)
        simp only [List.setIfInBounds_toArray, List.set_cons_zero, List.set_cons_succ]
        refine takeH (i := 5) (d := 21) (v := ?vg5) rfl (by kernel_rfl) (by kernel_rfl) (by kernel_rfl) (fun _ _ _ h => h) rfl (by rfl) ?yg5 hS ?rg5
        case yg5 => (intro wz hz; go_simp <;> with_reducible rfl)
        simp only [List.setIfInBounds_toArray, List.set_cons_zero, List.set_cons_succ]
        refine takeH (i := 6) (d := 22) (v := ?vg6) rfl (by kernel_rfl) (by kernel_rfl) (by kernel_rfl) (fun _ _ _ h => h) rfl (by rfl) ?yg6 hS ?rg6
        case yg6 => (intro wz hz; go_simp <;> with_reducible rfl)
        simp only [List.setIfInBounds_toArray, List.set_cons_zero, List.set_cons_succ]
        refine takeH (i := 7) (d := 23) (v := .agg (imA x2)) rfl (by kernel_rfl) (by kernel_rfl) (by kernel_rfl) (fun _ _ _ h => h) rfl (by rfl) ?yg7 hS ?rg7
        case yg7 => (intro wz hz; obtain ⟨m2, rfl⟩ := hz; exact exec_load_im (.tmp 22) rfl b2 (o2 + k * 225) rfl x2 R2.out)
        simp only [List.setIfInBounds_toArray, List.set_cons_zero, List.set_cons_succ]
        refine takeH (i := 8) (d := 24) (v := .bool (!(sameI x1 x2))) rfl (by kernel_rfl) (by kernel_rfl) (by kernel_rfl) (fun _ _ _ h => h) rfl (by rfl) ?yg8 hS ?rg8
        case yg8 => (intro wz hz; exact exec_neq_im (.tmp 19) (.tmp 23) rfl x1 x2 _ rfl rfl)
        simp only [List.setIfInBounds_toArray, List.set_cons_zero, List.set_cons_succ]
        refine wpAnyH_done (by kernel_rfl) ?_ _
        have HS := Lib.hid hS
        clear hS
        obtain ⟨q, hq⟩ : ∃ q, (!(sameI x1 x2)) = q := ⟨_, rfl⟩
        rw [hq]
        have HQ := Lib.hid hq
        clear hq
        cases q
        · obtain rfl : x1 = x2 := (sameI_iff _ _).1 (by simpa using HQ.out)
          go_wp2_with fail
          refine ⟨⟨k + 1, by omega, by go_num, ?_, HS⟩, by simp [intOf]; omega⟩
          show _ = _
          rw [e1.out, e2.out, hE.out]
        · have HX := Lib.hid (show ¬ x1 = x2 from fun e => by have := HQ.out; rw [(sameI_iff _ _).2 e] at this; cases this)
          go_wp2_with fail
          go_ret
          refine ⟨ret_bool ?_, HS.out⟩
          rw [eq_comm]
          apply sameIs_ne
          rintro rfl
          have h1 := e1.out
          rw [e2.out] at h1
          have := (List.append_inj' h1 rfl).2
          injection this with this
          exact HX.out this.symm
      · obtain rfl : k = n1 := by omega
        go_wp2_with fail
        go_ret
        refine ⟨ret_bool ?_, m, rfl⟩
        have h := hE.out
        rw [List.take_of_length_le (by rw [HL1.out]; exact Nat.le_refl _), List.take_of_length_le (by rw [HL2.out]; exact Nat.le_refl _)] at h
        rw [h, sameIs_refl]
  · have hlne : Hid (l1 ≠ l2) := fun e => hne (by rw [← hl1, ← hl2, e])
    have hd : ((n1 : Int) == (n2 : Int)) = false := by rw [beq_eq_false_iff_ne]; omega
    have hd2 : ((n1 : Int) != (n2 : Int)) = true := by rw [bne_iff_ne]; omega
    clear hl1 hl2 h1 h2
    go_enter Tryd.func28, Tryd.ntmps28
    go_wp2_with fail
    go_ret
    exact ⟨ret_bool (sameIs_ne hlne.out).symm, 0, rfl⟩

set_option maxHeartbeats 800000 in
theorem eqU_any (B1 n1 c1 B2 n2 c2 : Nat) (A1 A2 : Option Addr) (l1 l2 : List Nat) (w : World) (h1 : Lies w B1 1 A1 n1 (UC l1)) (h2 : Lies w B2 1 A2 n2 (UC l2)) (hn1 : n1 ≤ 1000) (hn2 : n2 ≤ 1000) :
    Calls Tryd.prog 29 #[.slice A1 n1 c1, .slice A2 n2 c2] w fun e w' => e = .returned (.bool (l1 == l2)) ∧ ∃ m, w' = w.drewN m := by
  have hl1 : l1.length = n1 := by have := h1.len; rw [UC_length] at this; omega
  have hl2 : l2.length = n2 := by have := h2.len; rw [UC_length] at this; omega
  by_cases hne : n1 = n2
  · subst hne
    have HL1 := Lib.hid hl1
    have HL2 := Lib.hid hl2
    have H1 := Lib.hid h1
    have H2 := Lib.hid h2
    clear hl1 hl2 h1 h2
    go_enter Tryd.func29, Tryd.ntmps29
    go_wp2
    go_loopw [13] (fun i wr => ∃ k : Nat, k ≤ n1 ∧ i = .int .i64 k ∧ Hid (l1.take k = l2.take k) ∧ Hid (∃ m, wr = w.drewN m)) (fun i _ => n1 - (intOf i).toNat)
    case atStart => exact ⟨0, Nat.zero_le _, rfl, Lib.hid rfl, Lib.hid ⟨0, rfl⟩⟩
    case round =>
      obtain ⟨k, hk, rfl, hE, hB⟩ := hrel
      obtain ⟨m, rfl⟩ := hB.out
      clear hB
      by_cases hlt : k < n1
      · have k1 : k < l1.length := by rw [HL1.out]; exact hlt
        have k2 : k < l2.length := by rw [HL2.out]; exact hlt
        obtain ⟨a1, u1, rfl, _, hx1, hc1⟩ := H1.out.get hlt
        obtain ⟨a2, u2, rfl, _, hx2, hc2⟩ := H2.out.get hlt
        rw [UC_get l1 k k1] at hx1
        injection hx1 with hx1
        subst hx1
        rw [UC_get l2 k k2] at hx2
        injection hx2 with hx2
        subst hx2
        have e1 := Lib.hid (take_snocN l1 k k1)
        have e2 := Lib.hid (take_snocN l2 k k2)
        generalize l1[k] = x1 at *
        generalize l2[k] = x2 at *
        by_cases hx : x1 = x2
        · have hq : ((x1 : Int) != (x2 : Int)) = false := by rw [hx]; simp
          have HX := Lib.hid hx
          clear hx
          go_wp2_with fail
          go_quiet (fail)
          go_wp2_with fail
          refine ⟨⟨k + 1, by omega, by go_num, ?_, Lib.hid ⟨_, rfl⟩⟩, by simp [intOf]; omega⟩
          show _ = _
          rw [e1.out, e2.out, hE.out, HX.out]
        · have hq : ((x1 : Int) != (x2 : Int)) = true := by rw [bne_iff_ne]; omega
          have HX := Lib.hid hx
          clear hx
          go_wp2_with fail
          go_quiet (fail)
          go_wp2_with fail
          go_ret
          refine ⟨ret_bool ?_, m + nq, by simp [World.drewN, Nat.add_assoc]⟩
          rw [eq_comm, beq_eq_false_iff_ne]
          rintro rfl
          have h1 := e1.out
          rw [e2.out] at h1
          have := (List.append_inj' h1 rfl).2
          injection this with this
          exact HX.out this.symm
      · obtain rfl : k = n1 := by omega
        go_wp2_with fail
        go_ret
        refine ⟨ret_bool ?_, m, rfl⟩
        have h := hE.out
        rw [List.take_of_length_le (by rw [HL1.out]; exact Nat.le_refl _), List.take_of_length_le (by rw [HL2.out]; exact Nat.le_refl _)] at h
        rw [h]
        simp
  · have hlne : Hid (l1 ≠ l2) := fun e => hne (by rw [← hl1, ← hl2, e])
    have hd : ((n1 : Int) == (n2 : Int)) = false := by rw [beq_eq_false_iff_ne]; omega
    have hd2 : ((n1 : Int) != (n2 : Int)) = true := by rw [bne_iff_ne]; omega
    clear hl1 hl2 h1 h2
    go_enter Tryd.func29, Tryd.ntmps29
    go_wp2_with fail
    go_ret
    exact ⟨ret_bool (beq_eq_false_iff_ne.2 hlne.out).symm, 0, rfl⟩
end Go.Proofs.YtihlmjknhgnjpaaDoor
