/-
  Image, and the law's look at the sectors beside the log.
  Conditions: disks of at most 100000 sectors.
-/
import Derived.Test.YthicidpdgggbjaaDoorK18Q
namespace Go.Proofs.YthicidpdgggbjaaDoor
open Go.RowKit
set_option maxRecDepth 8000

section
variable (X : Nat → Prop) (gd gs : Nat) (S : List Sect) (nw fu : Int) (kp : List Bool) (dn : Bool) (w : World)
set_option maxHeartbeats 800000 in
theorem image_any (h : Plat X w gd gs S nw fu kp dn) (hn : S.length ≤ 100000) : Calls Tryd.prog 39 #[.pointer (some ⟨gd, 0, none⟩)] w (RetS w S) := by
  obtain ⟨cap, sp, A, c, h⟩ := h
  have CL := Lib.hid (cloneS_any (fun _ => False) S.length cap (some ⟨gs, 0, none⟩) S w (h.sect (fun _ h => h.elim)) hn)
  have c0 := h.cell0
  clear h
  go_enter Tryd.func39, Tryd.ntmps39
  go_wp2_with (go_at_call 64; refine CL.out.mono ?_; rintro e w1 ⟨A1, c1, rfl, ho, hb⟩; have HO := Lib.hid ho; have HB := Lib.hid hb; clear ho hb)
  go_ret
  exact ⟨A1, c1, rfl, HO.out, HB.out⟩
end
theorem wpList_load_secG {ops : Array Oper} {rest : List Oper} {op : Oper} {a : Act} {w : World} {Q : Exit → Act → World → Prop} (d : Nat) (x : Operand) (hop : op.dst = some d) (hw : Region.wanted op (yielded ops a.tmps) = true) (ho : op.op = .load 68 x)
    (b o : Nat) (hx : a.eval x = .pointer (some ⟨b, o, none⟩)) (v : Sect) (hc : w.rangeAt b o (sec v))
    (h : wpList Tryd.prog ops Q rest (a.put (some d) (.agg (secA v))) w) : wpList Tryd.prog ops Q (op :: rest) a w := by
  rw [wpList, if_pos hw]
  left
  refine wp_load_mid 68 x ho b o hx (sec v) _ hc Tryd.underlying68 rfl (by rw [sec_length]; exact arr_size) ?_
  rw [hop]
  exact h
theorem wpList_neqG {ops : Array Oper} {rest : List Oper} {op : Oper} {a : Act} {w : World} {Q : Exit → Act → World → Prop} (d : Nat) (u v : Operand) (hop : op.dst = some d) (hw : Region.wanted op (yielded ops a.tmps) = true) (ho : op.op = .binOp .neq 68 u v 68) (x y : Sect) (hu : a.eval u = .agg (secA x)) (hv : a.eval v = .agg (secA y))
    (h : wpList Tryd.prog ops Q rest (a.put (some d) (.bool (!(x == y)))) w) : wpList Tryd.prog ops Q (op :: rest) a w := by
  rw [wpList, if_pos hw]
  left
  unfold Oper.wp
  rw [exec_neq u v ho x y w hu hv]
  simp only [Oper.upon]
  rw [hop]
  exact h

set_option maxHeartbeats 1600000 in
theorem clean_any (X : Nat → Prop) (gd gs : Nat) (S : List Sect) (nw fu : Int) (kp : List Bool) (dn : Bool) (w : World) (size us : Nat) (h : Plat X w gd gs S nw fu kp dn) (hn : S.length ≤ 100000) (hs : S.length = size + 4) (hu : us ≤ 100000)
    (hz : ∀ k, k < S.length → (k < 2 ∨ 2 + us ≤ k) → S[k]? = some zsec) : Calls Tryd.prog 15 #[.pointer (some ⟨gd, 0, none⟩), .int .i64 (size : Int), .int .i64 (us : Int)] w fun e w' => e = .returned (.bool true) ∧ Below w.heap.size w w' := by
  have IM := Lib.hid (image_any X gd gs S nw fu kp dn w h hn)
  have HZ := Lib.hid hz
  obtain ⟨N, hN⟩ : ∃ N, N = S.length := ⟨_, rfl⟩
  have e0 : (size : Int) + 4 = (N : Int) := by omega
  have e4 : IntKind.i64.wrap (N : Int) = (N : Int) := by rw [IntKind.wrap_i64]; omega
  have hzz : (zsec == zsec) = true := beq_self_eq_true _
  obtain ⟨ue, hue⟩ : ∃ ue, ue = 2 + us := ⟨_, rfl⟩
  have e1 : 2 + (us : Int) = (ue : Int) := by omega
  have hue2 : ue ≤ 200000 := by omega
  have hN2 : N ≤ 100000 := by omega
  have HN := Lib.hid hN
  have HU := Lib.hid hue
  clear h hz hN hn hs hue
  go_enter Tryd.func15, Tryd.ntmps15
  go_wp2_with (go_at_call 39; refine IM.out.mono ?_; rintro e w1 ⟨A1, c1, rfl, ho, hb⟩; have HO := Lib.hid (Lz.of_own (X := fun _ => False) ho (fun _ h => h.elim)); have HB := Lib.hid hb; clear ho hb; rw [← HN.out])
  go_loopw [8] (fun i z => ∃ k : Nat, k ≤ N ∧ i = .int .i64 (k : Int) ∧ z = w1) (fun i _ => N - (intOf i).toNat)
  case atStart => exact ⟨0, Nat.zero_le _, rfl, rfl⟩
  case round =>
    obtain ⟨k, hk0, rfl, hw⟩ := hrel
    subst hw
    by_cases hlt : k < N
    · have hkl : k < S.length := by rw [← HN.out]; exact hlt
      by_cases h2 : k < 2
      · have d2 : decide ((k : Int) < 2) = true := decide_eq_true (by omega)
        obtain ⟨b, o, ha, _, hlb, hr⟩ := HO.out.spot (by omega)
        have R1 := Lib.hid (flat_range hr hkl)
        have hzk : S[k] = zsec := by have := HZ.out k hkl (.inl h2); rw [List.getElem?_eq_getElem hkl] at this; injection this
        rw [hzk] at R1
        subst ha
        clear hr hzk
        go_wp2_with (first
          | refine wpList_load_secG 29 (.tmp 28) rfl (by rfl) rfl b (o + k * 64) rfl zsec R1.out ?_
          | refine wpList_neqG 31 (.tmp 29) (.tmp 30) rfl (by rfl) rfl zsec zsec rfl rfl ?_)
        exact ⟨⟨k + 1, hlt, by go_num, trivial⟩, by simp [intOf]; omega⟩
      · have d2 : decide ((k : Int) < 2) = false := decide_eq_false (by omega)
        by_cases h3 : ue ≤ k
        · have d3 : decide ((ue : Int) ≤ (k : Int)) = true := decide_eq_true (by omega)
          obtain ⟨b, o, ha, _, hlb, hr⟩ := HO.out.spot (by omega)
          have R1 := Lib.hid (flat_range hr hkl)
          have hzk : S[k] = zsec := by have := HZ.out k hkl (.inr (by rw [← HU.out]; exact h3)); rw [List.getElem?_eq_getElem hkl] at this; injection this
          rw [hzk] at R1
          subst ha
          clear hr hzk
          go_wp2_with (first
            | refine wpList_load_secG 29 (.tmp 28) rfl (by rfl) rfl b (o + k * 64) rfl zsec R1.out ?_
            | refine wpList_neqG 31 (.tmp 29) (.tmp 30) rfl (by rfl) rfl zsec zsec rfl rfl ?_)
          exact ⟨⟨k + 1, hlt, by go_num, trivial⟩, by simp [intOf]; omega⟩
        · have d3 : decide ((ue : Int) ≤ (k : Int)) = false := decide_eq_false (by omega)
          go_wp2_with fail
          exact ⟨⟨k + 1, hlt, by go_num, trivial⟩, by simp [intOf]; omega⟩
    · obtain rfl : k = N := by omega
      go_wp2_with fail
      go_ret
      exact ⟨rfl, HB.out⟩
end Go.Proofs.YthicidpdgggbjaaDoor
