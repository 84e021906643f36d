/-
  The walk of Write.
  Conditions: disks of at most 100000 sectors.
-/
import Derived.Test.YthicidpdgggbjaaDoorPB4Q
namespace Go.Proofs.YthicidpdgggbjaaDoor
open Go.RowKit

theorem wpList_copy_sec {ops : Array Oper} {rest : List Oper} {op : Oper} {a : Act} {w : World} {Q : Exit → Act → World → Prop} (r : Nat) (d s : Operand) (hop : op.dst = some r) (hgd : op.guard = none)
    (ho : op.op = .call { callee := .builtin .copy, args := #[d, s], argTypes := #[62, 62] }) (X : Nat → Prop)
    (b o n dCap sCap : Nat) (A : Option Addr) (l : List Sect) (hd : a.eval d = .slice (some ⟨b, o, none⟩) n dCap) (hs : a.eval s = .slice A n sCap) (hsrc : Lz X w 64 A n (flat l)) (ht : w.there b o (n * 64))
    (h : ∀ w', w' = w.setCells b o (flat l) → wpList Tryd.prog ops Q rest (a.put (some r) (goInt n)) w') : wpList Tryd.prog ops Q (op :: rest) a w := by
  refine wpList_plain hgd fun K hK => ?_
  have hrun := run_copy_many (P := Tryd.prog) w 62 62 op.type 68 64 b o n dCap sCap A (flat l) Tryd.underlying62 arr_size hsrc.len X hsrc (by rw [hsrc.len]; exact ht) (flat_one l)
  unfold Oper.wp
  simp [execOp, ho, resolve, invoke, builtin, hd, hs, hrun, Result.andThen]
  simp only [Oper.upon]
  rw [hop]
  exact hK _ _ (h _ rfl)

/-- What Write leaves. -/
def Wrote (X : Nat → Prop) (w : World) (g gs : Nat) (S : List Sect) (wr fu : Int) (kp : List Bool) (dn : Bool) (code : Int) (e : Ending) (w' : World) : Prop :=
  e = .returned (.int .i64 code) ∧ Plat X w' g gs S wr fu kp dn ∧ Mod (pl_own g gs) w w'
theorem put_writes {X : Nat → Prop} {w : World} {g gs : Nat} {S : List Sect} {wr fu : Int} {kp : List Bool} {dn : Bool} (h : Plat X w g gs S wr fu kp dn) (v : Int) : Plat X (w.setCell ⟨g, 1, none⟩ (.int .i64 v)) g gs S v fu kp dn := by
  obtain ⟨cap, sp, A, c, h⟩ := h
  exact ⟨cap, sp, A, c, h.put 1 _ (by rfl) h.cap1 h.cap2 h.lies h.c1 h.c2⟩
theorem put_fuse {X : Nat → Prop} {w : World} {g gs : Nat} {S : List Sect} {wr fu : Int} {kp : List Bool} {dn : Bool} (h : Plat X w g gs S wr fu kp dn) (v : Int) : Plat X (w.setCell ⟨g, 2, none⟩ (.int .i64 v)) g gs S wr v kp dn := by
  obtain ⟨cap, sp, A, c, h⟩ := h
  exact ⟨cap, sp, A, c, h.put 2 _ (by rfl) h.cap1 h.cap2 h.lies h.c1 h.c2⟩

section
variable (X : Nat → Prop) (g gs : Nat) (S : List Sect) (nw fu : Int) (kp : List Bool) (dn : Bool) (w : World)
set_option maxHeartbeats 400000 in
theorem write_no (p : Int) (n c : Nat) (L : Option Addr) (code : Int) (h0 : (code == 0) = false) (hc : Calls Tryd.prog 61 #[.pointer (some ⟨g, 0, none⟩), .int .i64 p, .int .i64 n] w fun e w' => e = .returned (.tuple #[.slice none 0 0, .int .i64 code]) ∧ w = w') :
    Calls Tryd.prog 35 #[.pointer (some ⟨g, 0, none⟩), .int .i64 p, .slice L n c] w fun e w' => e = .returned (.int .i64 code) ∧ w = w' := by
  have CU := Lib.hid hc
  have h1 : (code != 0) = true := by rw [bne, h0]; rfl
  clear hc
  go_enter Tryd.func35, Tryd.ntmps35
  go_wp2_with (go_at_call 61; refine CU.out.mono ?_; rintro e w1 ⟨rfl, rfl⟩)
  go_ret
  exact ⟨rfl, rfl⟩

set_option maxHeartbeats 800000 in
theorem write_torn_core (p o n c : Nat) (l : List Sect) (L : Option Addr)
    (cu : Calls Tryd.prog 61 #[.pointer (some ⟨g, 0, none⟩), .int .i64 p, .int .i64 n] w fun e w' => e = .returned (.tuple #[.slice (some ⟨gs, o, none⟩) n n, .int .i64 0]) ∧ w = w')
    (te : Calls Tryd.prog 62 #[.pointer (some ⟨g, 0, none⟩), .slice (some ⟨gs, o, none⟩) n n, .slice L n c] w (Fused X w g gs (upd S p l (fun j => kp.getD j false)) nw (-1) [] true))
    (h2 : w.cell? ⟨g, 2, none⟩ = some (.int .i64 0)) :
    Calls Tryd.prog 35 #[.pointer (some ⟨g, 0, none⟩), .int .i64 p, .slice L n c] w (Wrote X w g gs (upd S p l (fun j => kp.getD j false)) nw (-1) [] true 4) := by
  have CU := Lib.hid cu
  have TE := Lib.hid te
  clear cu te
  go_enter Tryd.func35, Tryd.ntmps35
  go_wp2_with (first
    | (go_at_call 61; refine CU.out.mono ?_; rintro e w1 ⟨rfl, rfl⟩)
    | (go_at_call 62; refine TE.out.mono ?_; rintro e w1 ⟨rfl, hp, hm⟩; have HP := Lib.hid hp; have HM := Lib.hid hm; clear hp hm))
  go_ret
  exact ⟨rfl, HP.out, HM.out⟩
theorem write_torn (p n c : Nat) (l : List Sect) (L : Option Addr) (h : Plat X w g gs S nw 0 kp false) (hn : S.length ≤ 100000) (hln : l.length = n) (hp : p < S.length) (hi : p + n ≤ S.length) (hL : Lz (pl_own g gs) w 64 L n (flat l)) (hkp : kp.length ≤ 100000) (hX : ∀ k, X k → k < w.heap.size) :
    Calls Tryd.prog 35 #[.pointer (some ⟨g, 0, none⟩), .int .i64 p, .slice L n c] w (Wrote X w g gs (upd S p l (fun j => kp.getD j false)) nw (-1) [] true 4) :=
  write_torn_core X g gs S nw kp w p _ n c l L (cut_ok X g gs S nw 0 kp w p n h hn hp hi) (tear_any X g gs S nw 0 kp false w p _ n c l L h hn hln hi (fun h => by rw [if_neg (by omega)]) hL hkp hX) (box_cells h).2.2.1

set_option maxHeartbeats 1600000 in
theorem write_ok_core (p o n c : Nat) (l : List Sect) (L : Option Addr) (h : Plat X w g gs S nw fu kp false) (hln : l.length = n) (hi : p + n ≤ S.length) (ho : 0 < n → o = p * 64) (hL : Lz (pl_own g gs) w 64 L n (flat l))
    (cu : Calls Tryd.prog 61 #[.pointer (some ⟨g, 0, none⟩), .int .i64 p, .int .i64 n] w fun e w' => e = .returned (.tuple #[.slice (some ⟨gs, o, none⟩) n n, .int .i64 0]) ∧ w = w')
    (hf0 : fu ≠ 0) (hf1 : -9223372036854775808 ≤ fu) (hf2 : fu ≤ 9223372036854775807) (hw0 : 0 ≤ nw) (hw1 : nw ≤ 1000000) :
    Calls Tryd.prog 35 #[.pointer (some ⟨g, 0, none⟩), .int .i64 p, .slice L n c] w (Wrote X w g gs (upd S p l (fun _ => true)) (nw + 1) (if 0 < fu then fu - 1 else fu) kp false 0) := by
  have CU := Lib.hid cu
  have HL := Lib.hid hL
  have b2 := (box_cells h).2.2.1
  have HT : Hid (w.there gs o (n * 64)) := by
    obtain ⟨cap, sp, A, c, h⟩ := h
    by_cases h0 : 0 < n
    · rw [ho h0]
      exact h.there p n hi
    · intro j hj
      omega
  have LAY : Hid (Plat X (w.setCells gs o (flat l)) g gs (upd S p l (fun _ => true)) nw fu kp false) := by
    show Plat _ _ _ _ _ _ _ _ _
    obtain ⟨cap, sp, A, c, h⟩ := h
    have := h.lay p l (by omega)
    rw [upd_full S p l (fun _ => true) (fun _ _ => rfl) (by omega)] at this
    by_cases h0 : 0 < n
    · rw [ho h0]
      exact ⟨_, _, _, _, this⟩
    · obtain rfl : l = [] := List.eq_nil_of_length_eq_zero (by omega)
      exact ⟨_, _, _, _, this⟩
  have HMO : Hid (Mod (pl_own g gs) w (w.setCells gs o (flat l))) := (Mod.refl _ _).setCells (.inl (.inr rfl)) _ _
  have q0 : (fu == 0) = false := by simpa using hf0
  clear cu hL h ho hln
  by_cases hpos : 0 < fu
  · have d1 : decide (0 < fu) = true := by simpa using hpos
    rw [if_pos hpos]
    go_enter Tryd.func35, Tryd.ntmps35
    go_wp2_with (first
      | (go_at_call 61; refine CU.out.mono ?_; rintro e w1 ⟨rfl, rfl⟩)
      | (refine wpList_copy_sec 31 (.tmp 29) (.tmp 30) rfl rfl rfl (pl_own g gs) gs o n n c L l rfl rfl HL.out HT.out ?_; intro w9 hW; rw [← hW] at LAY HMO; clear hW; obtain ⟨_, _, e2, f2, e1, f1⟩ := box_cells LAY.out))
    go_ret
    exact ⟨rfl, put_fuse (put_writes LAY.out _) _, (HMO.out.setCell (.inl (.inl rfl)) _).setCell (.inl (.inl rfl)) _⟩
  · have d1 : decide (0 < fu) = false := by simpa using hpos
    rw [if_neg hpos]
    go_enter Tryd.func35, Tryd.ntmps35
    go_wp2_with (first
      | (go_at_call 61; refine CU.out.mono ?_; rintro e w1 ⟨rfl, rfl⟩)
      | (refine wpList_copy_sec 31 (.tmp 29) (.tmp 30) rfl rfl rfl (pl_own g gs) gs o n n c L l rfl rfl HL.out HT.out ?_; intro w9 hW; rw [← hW] at LAY HMO; clear hW; obtain ⟨_, _, e2, f2, e1, f1⟩ := box_cells LAY.out))
    go_ret
    exact ⟨rfl, put_writes LAY.out _, HMO.out.setCell (.inl (.inl rfl)) _⟩
theorem write_ok (p n c : Nat) (l : List Sect) (L : Option Addr) (h : Plat X w g gs S nw fu kp false) (hn : S.length ≤ 100000) (hln : l.length = n) (hp : p < S.length) (hi : p + n ≤ S.length) (hL : Lz (pl_own g gs) w 64 L n (flat l))
    (hf0 : fu ≠ 0) (hf1 : -9223372036854775808 ≤ fu) (hf2 : fu ≤ 9223372036854775807) (hw0 : 0 ≤ nw) (hw1 : nw ≤ 1000000) :
    Calls Tryd.prog 35 #[.pointer (some ⟨g, 0, none⟩), .int .i64 p, .slice L n c] w (Wrote X w g gs (upd S p l (fun _ => true)) (nw + 1) (if 0 < fu then fu - 1 else fu) kp false 0) :=
  write_ok_core X g gs S nw fu kp w p _ n c l L h hln hi (fun h => by rw [if_neg (by omega)]) hL (cut_ok X g gs S nw fu kp w p n h hn hp hi) hf0 hf1 hf2 hw0 hw1
end
end Go.Proofs.YthicidpdgggbjaaDoor
