/-
  The example's closed values; Same; a load behind a guard.
  Conditions: none.
-/
import Derived.Test.YtjbohnnknfcjeaaSJ
import Derived.Test.YtjbohnnknfcjeaaSN
namespace Go.Proofs.Ytjbohnnknfcjeaa
open Go.RowKit
attribute [local go_sem] Oper.semAt_some
set_option maxRecDepth 20000

theorem wpList_load_atG {ops : Array Oper} {rest : List Oper} {op : Oper} {a : Act} {w : World} {Q : Exit → Act → World → Prop} (ty d : Nat) (x : Operand) (hop : op.dst = some d) (hw : Region.wanted op (yielded ops a.tmps) = true) (ho : op.op = .load ty x) (g : Nat) (hx : a.eval x = .pointer (some ⟨g, 0, none⟩)) (cs : Array Value) (n : Nat) (hs : Str ty n) (hn : cs.size = n)
    (hc : At w g ty cs) (h : wpList Try.prog ops Q rest (a.put (some d) (.agg cs)) w) : wpList Try.prog ops Q (op :: rest) a w := by
  rw [wpList, if_pos hw]
  left
  unfold Oper.wp
  rw [exec_load_at ty x ho g hx cs n hs hn hc]
  simp only [Oper.upon]
  rw [hop]
  exact h
def w1L : List Nat := [10, 20]
def w2L : List Nat := [10, 15, 20]
theorem ok_w1 : okB w1L = true := okB_yes ⟨by decide, Asc.of (by decide) (by decide)⟩
theorem ok_no : okB [10, 10] = false := okB_no fun h => absurd (h.2 1 (by decide)) (by decide)
theorem gd_w1 : Gd w1L := ⟨by decide, Asc.of (by decide) (by decide), by unfold U32; decide⟩
theorem gd_w2 : Gd w2L := ⟨by decide, Asc.of (by decide) (by decide), by unfold U32; decide⟩
theorem cut_w1 : cutN w1L 15 = (w2L, 1, 0) := by decide
theorem cut_w1' : cutN w1L 20 = (w1L, 0, 8) := by decide
theorem at_w1 : atN w1L 10 = 1 := by decide
theorem at_w1' : atN w1L 9 = 0 := by decide
theorem least_w2 : leastN w2L 1 = 10 := by decide
theorem most_w2 : mostN w2L 1 = 14 := by decide
theorem mid_a : MidR [5, 1, 9, 9] 9 true := .inl ⟨rfl, by decide, by decide, by decide⟩
theorem mid_b : MidR [3, 3] 0 false := .inr ⟨rfl, rfl, by unfold NoMid; decide⟩
theorem mid_a_is {x : Nat} {ok : Bool} (h : MidR [5, 1, 9, 9] x ok) : x = 9 ∧ ok = true := h.one mid_a
theorem mid_b_is {x : Nat} {ok : Bool} (h : MidR [3, 3] x ok) : x = 0 ∧ ok = false := h.one mid_b
theorem ofV_w1 : ofV w1L = .tuple #[.agg (scA w1L), .bool true] := ofV_yes ok_w1
theorem ofV_no' : ofV [10, 10] = .tuple #[.agg zS, .bool false] := ofV_no ok_no
theorem cutV_w1 : cutV w1L 15 = .tuple #[.agg (scA w2L), .int .i64 1, .int .i64 0] := by unfold cutV; rw [cut_w1]; rfl
theorem cutV_w1' : cutV w1L 20 = .tuple #[.agg (scA w1L), .int .i64 0, .int .i64 8] := by unfold cutV; rw [cut_w1']; rfl
theorem eq_w11 (W : World) : (binOp .eql 27 (.agg (scA w1L)) (.agg (scA w1L))).run Try.prog W = .ok (.bool true) W := by kernel_rfl
theorem eq_w12 (W : World) : (binOp .eql 27 (.agg (scA w1L)) (.agg (scA w2L))).run Try.prog W = .ok (.bool false) W := by kernel_rfl
theorem sz_w1 : (scA w1L).size = 8 := rfl
theorem sz_w2 : (scA w2L).size = 8 := rfl
set_option maxHeartbeats 1600000 in
theorem sSame_any (a b : List Nat) (ha : a.length ≤ 7) (hb : b.length ≤ 7) (t : Bool) (he : ∀ W, (binOp .eql 27 (.agg (scA a)) (.agg (scA b))).run Try.prog W = .ok (.bool t) W) (w : World) : Calls Try.prog 20 #[.agg (scA a), .agg (scA b)] w (RetB w (.bool t)) := by
  have HA8 : Hid ((scA a).size = 8) := scA_size ha
  have HB8 : Hid ((scA b).size = 8) := scA_size hb
  have HB : Hid (Below w.heap.size w ((w.alloc (.cells (scA a) 27)).alloc (.cells (scA b) 27))) := ((Below.refl _ w).alloc (Nat.le_refl _) _).alloc (by simp) _
  have HA2 : Hid (At ((w.alloc (.cells (scA a) 27)).alloc (.cells (scA b) 27)) w.heap.size 27 (scA a)) := (At.new w _ _).alloc _
  have HA3 : Hid (At ((w.alloc (.cells (scA a) 27)).alloc (.cells (scA b) 27)) (w.heap.size + 1) 27 (scA b)) := by
    have := At.new (w.alloc (.cells (scA a) 27)) 27 (scA b)
    rwa [World.size_alloc] at this
  go_enter Try.func20, Try.ntmps20
  go_upto_region 1 with fail
  generalize (w.alloc (.cells (scA a) 27)).alloc (.cells (scA b) 27) = w1 at HB HA2 HA3 ⊢
  go_wp2_with (first
    | (refine wpList_load_at 27 5 (.tmp 2) rfl rfl rfl w.heap.size rfl (scA a) 8 strS HA8.out HA2.out ?_)
    | (refine wpList_load_at 27 6 (.tmp 3) rfl rfl rfl (w.heap.size + 1) rfl (scA b) 8 strS HB8.out HA3.out ?_))
  go_ret
  exact ⟨rfl, HB.out⟩
end Go.Proofs.Ytjbohnnknfcjeaa
