/-
  The walk of the reference's Same.
  Conditions: slices of at most 100000 elements.
-/
import Derived.Test.YthicidpdgggbjaaDoorPA1Q
import Derived.Test.YthicidpdgggbjaaDoorQ2
namespace Go.Proofs.YthicidpdgggbjaaDoor
open Go.RowKit

section
variable {P : Program}
theorem exec_load {op : Oper} {a : Act} {w : World} (ty : TypeId) (x : Operand) (ho : op.op = .load ty x) (b o : Nat) (hx : a.eval x = .pointer (some ⟨b, o, none⟩)) (cs : List Value) (d : TypeDesc) (hc : w.rangeAt b o cs)
    (hu : P.underlying ty = some d) (hd : d.isRow = true) (hi : (P.info? ty).map (·.size) = some cs.length) : (execOp a.eval op).run P w = .ok (.value (.agg cs.toArray)) w := by
  unfold execOp
  simp only [ho, hx, Instr.loadAt, Instr.sureAddr, Sem.run_bind, Sem.run_pure, Result.andThen_ok, run_loadVar_mid w b o ty cs d hc hu hd hi]
end
theorem pl_take_snoc {α : Type} (l : List α) (k : Nat) (h : k < l.length) : l.take (k + 1) = l.take k ++ [l[k]] := List.take_succ_eq_append_getElem h
theorem row_new (w : World) (c : List Value) (t : TypeId) : ∀ j u, c[j]? = some u → (w.alloc (.cells c.toArray t)).cell? ((⟨w.heap.size, 0, none⟩ : Addr).add j) = some u := fun j u hu => by
  rw [add_plain, cell_of_row _ _ _ _ _ _ (heap_alloc_new w _)]
  simpa using hu

theorem pl_ret_bool {a b : Bool} (h : a = b) : Ending.returned (.bool a) = .returned (.bool b) := by rw [h]
theorem beq_sec (a b : Sect) : (a.toList == b.toList) = (a == b) := by
  rw [Bool.eq_iff_iff, beq_iff_eq, beq_iff_eq, Vector.toList_inj]
theorem neq_sec (a b : Sect) (w : World) : (binOp .neq 68 (.agg (secA a)) (.agg (secA b))).run Tryd.prog w = .ok (.bool (!(a == b))) w := by
  obtain ⟨i, hi⟩ := pl_info5
  have := run_neq_row 64 Tryd.underlying68 hi pl_cells5 Tryd.underlying5 a.toList b.toList (by simp) (by simp) w
  rw [beq_sec] at this
  exact this
theorem guard48 : Tryd.prog.eqGuardType Tryd.prog.depth 68 = false := by kernel_rfl
theorem exec_neq {op : Oper} {a : Act} (u v : Operand) (ho : op.op = .binOp .neq 68 u v 68) (x y : Sect) (w : World) (hu : a.eval u = .agg (secA x)) (hv : a.eval v = .agg (secA y)) :
    (execOp a.eval op).run Tryd.prog w = .ok (.value (.bool (!(x == y)))) w := by
  unfold execOp
  simp only [ho, hu, hv, Sem.run_bind, run_eqGuard_agg w .neq 68 u v _ _ guard48, Result.andThen_ok, neq_sec, Sem.run_pure]

theorem flat_range {w : World} {b o : Nat} {l : List Sect} {k : Nat} (h : w.rangeAt b o (flat l)) (hk : k < l.length) : w.rangeAt b (o + k * 64) (sec l[k]) := fun j v hv => by
  have hj : j < 64 := by
    have := (List.getElem?_eq_some_iff.1 hv).1
    rwa [sec_length] at this
  rw [Nat.add_assoc]
  refine h _ v ?_
  have e : l = l.take k ++ ([l[k]] ++ l.drop (k + 1)) := by simp
  rw [e, flat_append, flat_append, List.getElem?_append_right (by rw [flat_length, List.length_take]; omega), List.getElem?_append_left (by rw [flat_length, flat_length, List.length_take]; simp; omega), flat_single, flat_length, List.length_take, Nat.min_eq_left (by omega), show k * 64 + j - k * 64 = j from by omega]
  exact hv

set_option maxHeartbeats 400000 in
theorem pl_same_any (X Y : Nat → Prop) (n1 c1 n2 c2 : Nat) (A1 A2 : Option Addr) (l1 l2 : List Sect) (w : World) (h1 : Lz X w 64 A1 n1 (flat l1)) (h2 : Lz Y w 64 A2 n2 (flat l2)) (hn1 : n1 ≤ 100000) (hn2 : n2 ≤ 100000) :
    Calls Tryd.prog 17 #[.slice A1 n1 c1, .slice A2 n2 c2] w fun e w' => e = .returned (.bool (l1 == l2)) ∧ ∃ m, w' = w.drewN m := by
  have hl1 : l1.length = n1 := by have := h1.len; rw [flat_length] at this; omega
  have hl2 : l2.length = n2 := by have := h2.len; rw [flat_length] at this; omega
  by_cases hne : n1 = n2
  · subst hne
    have HL1 := Lib.hid hl1
    have HL2 := Lib.hid hl2
    have H1 := Lib.hid h1
    have H2 := Lib.hid h2
    clear hl1 hl2 h1 h2
    go_enter Tryd.func17, Tryd.ntmps17
    go_wp2
    go_loopw [5] (fun i wr => ∃ k : Nat, k ≤ n1 ∧ i = .int .i64 k ∧ Hid (l1.take k = l2.take k) ∧ Hid (∃ m, wr = w.drewN m)) (fun i _ => n1 - (intOf i).toNat)
    case atStart => exact ⟨0, Nat.zero_le _, rfl, Lib.hid rfl, Lib.hid ⟨0, rfl⟩⟩
    case round =>
      obtain ⟨k, hk, rfl, hE, hB⟩ := hrel
      obtain ⟨m, rfl⟩ := hB.out
      clear hB
      by_cases hlt : k < n1
      · have k1 : k < l1.length := by rw [HL1.out]; exact hlt
        have k2 : k < l2.length := by rw [HL2.out]; exact hlt
        obtain ⟨b1, o1, rfl, _, _, hr1⟩ := H1.out.spot (by omega)
        obtain ⟨b2, o2, rfl, _, _, hr2⟩ := H2.out.spot (by omega)
        have R1 := Lib.hid (flat_range hr1 k1)
        have R2 := Lib.hid (flat_range hr2 k2)
        have e1 := Lib.hid (pl_take_snoc l1 k k1)
        have e2 := Lib.hid (pl_take_snoc l2 k k2)
        have hlen := Lib.hid (show (l1.take k).length = k by rw [List.length_take]; omega)
        have hlen2 := Lib.hid (show (l2.take k).length = k by rw [List.length_take]; omega)
        clear hr1 hr2
        generalize l1[k] = x1 at *
        generalize l2[k] = x2 at *
        go_wp2_with fail
        refine wp_region_held_drew (S := fun z => ∃ m2, z = w.drewN m2) (by kernel_rfl) ⟨m + 1, rfl⟩ (fun hS => ?_)
        refine takeH (i := 0) (d := 17) (v := ?vg0) rfl (by kernel_rfl) (by kernel_rfl) (by kernel_rfl) (fun _ _ _ h => h) rfl (by rfl) ?yg0 hS ?rg0
        case yg0 => (intro wz hz; go_simp <;> with_reducible rfl)
        simp only [List.setIfInBounds_toArray, List.set_cons_zero, List.set_cons_succ]
        refine takeH (i := 1) (d := 18) (v := ?vg1) rfl (by kernel_rfl) (by kernel_rfl) (by kernel_rfl) (fun _ _ _ h => h) rfl (by rfl) ?yg1 hS ?rg1
        case yg1 => (intro wz hz; go_simp <;> with_reducible rfl)
        simp only [List.setIfInBounds_toArray, List.set_cons_zero, List.set_cons_succ]
        refine takeH (i := 2) (d := 19) (v := ?vg2) rfl (by kernel_rfl) (by kernel_rfl) (by kernel_rfl) (fun _ _ _ h => h) rfl (by rfl) ?yg2 hS ?rg2
        case yg2 => (intro wz hz; go_simp <;> with_reducible rfl)
        simp only [List.setIfInBounds_toArray, List.set_cons_zero, List.set_cons_succ]
        refine takeH (i := 3) (d := 20) (v := .agg (secA x1)) rfl (by kernel_rfl) (by kernel_rfl) (by kernel_rfl) (fun _ _ _ h => h) rfl (by rfl) ?yg3 hS ?rg3
        case yg3 => (intro wz hz; obtain ⟨m2, rfl⟩ := hz; exact exec_load 68 (.tmp 19) rfl b1 (o1 + k * 64) rfl (sec x1) _ R1.out Tryd.underlying68 rfl (by rw [sec_length]; exact arr_size))
        simp only [List.setIfInBounds_toArray, List.set_cons_zero, List.set_cons_succ]
        refine takeH (i := 4) (d := 21) (v := ?vg4) rfl (by kernel_rfl) (by kernel_rfl) (by kernel_rfl) (fun _ _ _ h => h) rfl (by rfl) ?yg4 hS ?rg4
        case yg4 => (intro wz hz; go_simp <;> with_reducible rfl)
        simp only [List.setIfInBounds_toArray, List.set_cons_zero, List.set_cons_succ]
        refine takeH (i := 5) (d := 22) (v := ?vg5) rfl (by kernel_rfl) (by kernel_rfl) (by kernel_rfl) (fun _ _ _ h => h) rfl (by rfl) ?yg5 hS ?rg5
        case yg5 => (intro wz hz; go_simp <;> with_reducible rfl)
        simp only [List.setIfInBounds_toArray, List.set_cons_zero, List.set_cons_succ]
        refine takeH (i := 6) (d := 23) (v := ?vg6) rfl (by kernel_rfl) (by kernel_rfl) (by kernel_rfl) (fun _ _ _ h => h) rfl (by rfl) ?yg6 hS ?rg6
        case yg6 => (intro wz hz; go_simp <;> with_reducible rfl)
        simp only [List.setIfInBounds_toArray, List.set_cons_zero, List.set_cons_succ]
        refine takeH (i := 7) (d := 24) (v := .agg (secA x2)) rfl (by kernel_rfl) (by kernel_rfl) (by kernel_rfl) (fun _ _ _ h => h) rfl (by rfl) ?yg7 hS ?rg7
        case yg7 => (intro wz hz; obtain ⟨m2, rfl⟩ := hz; exact exec_load 68 (.tmp 23) rfl b2 (o2 + k * 64) rfl (sec x2) _ R2.out Tryd.underlying68 rfl (by rw [sec_length]; exact arr_size))
        simp only [List.setIfInBounds_toArray, List.set_cons_zero, List.set_cons_succ]
        refine takeH (i := 8) (d := 25) (v := .bool (!(x1 == x2))) rfl (by kernel_rfl) (by kernel_rfl) (by kernel_rfl) (fun _ _ _ h => h) rfl (by rfl) ?yg8 hS ?rg8
        case yg8 => (intro wz hz; exact exec_neq (.tmp 20) (.tmp 24) rfl x1 x2 _ rfl rfl)
        simp only [List.setIfInBounds_toArray, List.set_cons_zero, List.set_cons_succ]
        refine wpAnyH_done (by kernel_rfl) ?_ _
        have HS := Lib.hid hS
        clear hS
        obtain ⟨q, hq⟩ : ∃ q, (!(x1 == x2)) = q := ⟨_, rfl⟩
        rw [hq]
        have HQ := Lib.hid hq
        clear hq
        cases q
        · obtain rfl : x1 = x2 := by simpa using HQ.out
          go_wp2_with fail
          refine ⟨⟨k + 1, by omega, by go_num, ?_, HS⟩, by simp [intOf]; omega⟩
          show _ = _
          rw [e1.out, e2.out, hE.out]
        · have HX := Lib.hid (show ¬ x1 = x2 by simpa using HQ.out)
          go_wp2_with fail
          go_ret
          refine ⟨pl_ret_bool ?_, HS.out⟩
          rw [eq_comm, beq_eq_false_iff_ne]
          rintro rfl
          have h1 := e1.out
          rw [e2.out] at h1
          have := (List.append_inj' h1 rfl).2
          injection this with this
          exact HX.out this.symm
      · obtain rfl : k = n1 := by omega
        go_wp2_with fail
        go_ret
        refine ⟨pl_ret_bool ?_, m, rfl⟩
        have h := hE.out
        rw [List.take_of_length_le (by rw [HL1.out]; exact Nat.le_refl _), List.take_of_length_le (by rw [HL2.out]; exact Nat.le_refl _)] at h
        rw [h]
        simp
  · have hlne : Hid (l1 ≠ l2) := fun e => hne (by rw [← hl1, ← hl2, e])
    have hd : ((n1 : Int) == (n2 : Int)) = false := by rw [beq_eq_false_iff_ne]; omega
    have hd2 : ((n1 : Int) != (n2 : Int)) = true := by rw [bne_iff_ne]; omega
    clear hl1 hl2 h1 h2
    go_enter Tryd.func17, Tryd.ntmps17
    go_wp2_with fail
    go_ret
    refine ⟨pl_ret_bool ?_, 0, rfl⟩
    rw [eq_comm, beq_eq_false_iff_ne]
    exact hlne.out
end Go.Proofs.YthicidpdgggbjaaDoor
