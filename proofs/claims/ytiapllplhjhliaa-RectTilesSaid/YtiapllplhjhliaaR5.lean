/-
  The iterator that rect.Touched makes: the tiles that the rectangle touches, rising; each once; it stops where a round says so.
  Conditions: coordinates are those of a uint32.
-/
import Derived.Test.YtiapllplhjhliaaR4
import Derived.Shelf.Abstract
import Derived.Shelf.RegionOpen
import Derived.WalkKit
import Derived.OwnWalkIn
import Derived.TacticsInMore
import Derived.LoopNIn
import Derived.LoopIn
namespace Go.Proofs.Ytiapllplhjhliaa
open Go.RowKit Go.Shelf
attribute [local go_sem] Oper.semAt_some

theorem tch_skip {x0 y0 x1 y1 : Int} {k m : Nat} (hkm : k ≤ m) (h : ∀ t : Nat, k ≤ t → t < m → touchB x0 y0 x1 y1 (t : Int) = false) : tch x0 y0 x1 y1 m = tch x0 y0 x1 y1 k := by
  induction m with
  | zero => rw [show k = 0 by omega]
  | succ m ih =>
    by_cases e : k = m + 1
    · rw [e]
    · rw [tch_no (h m (by omega) (by omega))]
      exact ih (by omega) fun t a b => h t a (by omega)
theorem tch_pre {x0 y0 x1 y1 : Int} {k m : Nat} (hkm : k ≤ m) : tch x0 y0 x1 y1 k <+: tch x0 y0 x1 y1 m := by
  induction m with
  | zero => rw [show k = 0 by omega]; exact List.prefix_refl _
  | succ m ih =>
    by_cases e : k = m + 1
    · rw [e]; exact List.prefix_refl _
    · refine (ih (by omega)).trans ?_
      cases h : touchB x0 y0 x1 y1 (m : Int)
      · rw [tch_no h]; exact List.prefix_refl _
      · rw [tch_yes h]; exact List.prefix_append _ _

theorem below_grown {w w' : World} (h : Below w.heap.size w w') : w.grownBy w' none := ⟨h.os, h.tape, h.output, h.size, fun k hk _ => h.block k hk⟩

/-- The box of the rectangle that the iterator reads. -/
def Box4 (W : World) (Bn : Nat) (x0 y0 x1 y1 : Int) : Prop := W.heap[Bn]? = some (.cells #[.int .u32 x0, .int .u32 y0, .int .u32 x1, .int .u32 y1] 24 (0, 0))
theorem Box4.cells {W : World} {Bn : Nat} {x0 y0 x1 y1 : Int} (h : Box4 W Bn x0 y0 x1 y1) :
    W.cell? ⟨Bn, 0, none⟩ = some (.int .u32 x0) ∧ W.cell? ⟨Bn, 1, none⟩ = some (.int .u32 y0) ∧ W.cell? ⟨Bn, 2, none⟩ = some (.int .u32 x1) ∧ W.cell? ⟨Bn, 3, none⟩ = some (.int .u32 y1) := by
  unfold Box4 at h
  simp [World.cell?, h]

theorem wcall {P : Program} {f : FuncId} {args : Array Value} {w : World} {R : Ending → World → Prop} {n m : Nat} (h : Calls P f args w R) :
    Fence.wide.fn f ∧ (Fence.wide.depth.isSome = true → 1 ≤ n) ∧ CallsIn Fence.wide m P f args w R := ⟨trivial, (fun h => by cases h), callsIn_wide.2 h⟩
theorem line_is {x : Int} {q : Nat} (h : x / 536870912 = (q : Int)) (h0 : 0 ≤ x) (h1 : x < 4294967296) (w : World) : Calls Try.prog 22 #[.int .u32 x] w fun e w' => e = .returned (.int .i64 (q : Int)) ∧ w = w' := by
  rw [← h]; exact line_any x w h0 h1
theorem number_is {c r k : Nat} (h : k = r * 8 + c) (h1 : c ≤ 7) (h3 : r ≤ 7) (w : World) : Calls Try.prog 21 #[.int .i64 (c : Int), .int .i64 (r : Int)] w fun e w' => e = .returned (.int .i64 (k : Int)) ∧ w = w' := by
  have : (k : Int) = (r : Int) * 8 + (c : Int) := by omega
  rw [this]; exact number_any _ _ w (by omega) (by omega) (by omega) (by omega)

/-- What holds at the head of a loop of the iterator. -/
def At (J : List Nat → World → Prop) (Bn : Nat) (x0 y0 x1 y1 : Int) (k : Nat) (W : World) : Prop := J (tch x0 y0 x1 y1 k) W ∧ Box4 W Bn x0 y0 x1 y1
def RowR (J : List Nat → World → Prop) (Bn : Nat) (x0 y0 x1 y1 : Int) (a b : Nat) (v : Value) (W : World) : Prop := ∃ r : Nat, a ≤ r ∧ r ≤ b + 1 ∧ v = .int .i64 (r : Int) ∧ Hid (At J Bn x0 y0 x1 y1 (r * 8) W)
def ColR (J : List Nat → World → Prop) (Bn : Nat) (x0 y0 x1 y1 : Int) (r a b : Nat) (v : Value) (W : World) : Prop := ∃ c : Nat, a ≤ c ∧ c ≤ b + 1 ∧ v = .int .i64 (c : Int) ∧ Hid (At J Bn x0 y0 x1 y1 (r * 8 + c) W)
def IterEnd (J Jx : List Nat → World → Prop) (L : List Nat) (e : Ending) (W' : World) : Prop := (∃ v, e = .returned v) ∧ ((∃ ys, ys = L ∧ J ys W') ∨ (∃ pre, pre <+: L ∧ Jx pre W'))
theorem u4_quot {x : Int} (h0 : 0 ≤ x) (h1 : x < 4294967296) : ∃ q : Nat, x / 536870912 = (q : Int) ∧ q ≤ 7 := ⟨(x / 536870912).toNat, by omega, by omega⟩

set_option maxRecDepth 100000 in
set_option maxHeartbeats 2000000 in
theorem iter_empty (n : Nat) (l Bn : Nat) (x0 y0 x1 y1 : Int) (he : emptyB x0 y0 x1 y1 = true) (J Jx : List Nat → World → Prop)
    (W : World) (hJ : AbidesFrom W.heap.size J) (hB : Box4 W Bn x0 y0 x1 y1) (h0 : J [] W) :
    CallsIn Fence.wide n Try.prog 26 #[.func (.yield l) #[] #[], .pointer (some ⟨Bn, 0, none⟩)] W (IterEnd J Jx (tch x0 y0 x1 y1 64)) := by
  obtain ⟨c0, c1, c2, c3⟩ := hB.cells
  have HE := Lib.hid he
  clear he
  refine callsIn_of_wp Try.func26 rfl trivial ?_ rfl
  simp only [Try.ntmps26, List.size_toArray, List.length_cons, List.length_nil, Nat.reduceAdd, Nat.reduceSub, Array.replicate_succ, Array.replicate_zero, List.push_toArray, List.append_toArray, List.nil_append, List.cons_append]
  gi_wp2_with fail
  refine wcall ((empty_is HE.out _).mono ?_)
  rintro e w1 ⟨rfl, hb⟩
  have HB := Lib.hid hb
  clear hb
  gi_wp2_with fail
  refine bodyPost_ret (results_none rfl _ _ _) rfl ?_
  refine ⟨⟨_, rfl⟩, .inl ⟨_, rfl, ?_⟩⟩
  rw [tch_skip (Nat.zero_le 64) fun t _ _ => by unfold touchB; rw [HE.out]; rfl]
  exact hJ [] _ _ none h0 (below_grown HB.out) (fun r e => by cases e)

set_option maxRecDepth 100000 in
set_option maxHeartbeats 4000000 in
theorem iter_full (n : Nat) (l Bn : Nat) (x0 y0 x1 y1 : Int) (hu : U4 x0 y0 x1 y1) (he : emptyB x0 y0 x1 y1 = false) (J Jx : List Nat → World → Prop)
    (hY : ∀ pre x W, J pre W → pre.length < (tch x0 y0 x1 y1 64).length → YieldAt Fence.wide (n - 1) Try.prog l #[.int .i64 ((x : Nat) : Int)] W fun e W' =>
      (e = .returned (.bool true) ∧ J (pre ++ [x]) W' ∧ W'.heap[Bn]? = W.heap[Bn]?) ∨ (e = .returned (.bool false) ∧ Jx (pre ++ [x]) W'))
    (W : World) (hJ : AbidesFrom W.heap.size J) (hB : Box4 W Bn x0 y0 x1 y1) (h0 : J [] W) :
    CallsIn Fence.wide n Try.prog 26 #[.func (.yield l) #[] #[], .pointer (some ⟨Bn, 0, none⟩)] W (IterEnd J Jx (tch x0 y0 x1 y1 64)) := by
  obtain ⟨c0, c1, c2, c3⟩ := hB.cells
  obtain ⟨a, b, c, d, e, f, g, h⟩ := hu
  obtain ⟨qx0, ex0, lx0⟩ := u4_quot a b
  obtain ⟨qy0, ey0, ly0⟩ := u4_quot c d
  obtain ⟨qx1, ex1, lx1⟩ := u4_quot e f
  obtain ⟨qy1, ey1, ly1⟩ := u4_quot g h
  have hne : x0 ≤ x1 ∧ y0 ≤ y1 := by unfold emptyB at he; simp at he; exact he
  have hqx : qx0 ≤ qx1 := by omega
  have hqy : qy0 ≤ qy1 := by omega
  have HT : Hid (∀ t : Nat, touchB x0 y0 x1 y1 t = (decide (qx0 ≤ t % 8) && decide (t % 8 ≤ qx1) && decide (qy0 ≤ t / 8) && decide (t / 8 ≤ qy1))) := fun t => by
    unfold touchB
    rw [he, ex0, ey0, ex1, ey1, Bool.eq_iff_iff]
    simp
    omega
  have HX0 := Lib.hid ex0
  have HY0 := Lib.hid ey0
  have HX1 := Lib.hid ex1
  have HY1 := Lib.hid ey1
  have HE := Lib.hid he
  clear he ex0 ey0 ex1 ey1 hne
  refine callsIn_of_wp Try.func26 rfl trivial ?_ rfl
  simp only [Try.ntmps26, List.size_toArray, List.length_cons, List.length_nil, Nat.reduceAdd, Nat.reduceSub, Array.replicate_succ, Array.replicate_zero, List.push_toArray, List.append_toArray, List.nil_append, List.cons_append]
  gi_wp2_with fail
  refine wcall ((empty_is HE.out _).mono ?_)
  rintro e w1 ⟨rfl, hb⟩
  have hA : Hid (At J Bn x0 y0 x1 y1 (qy0 * 8) w1) := by
    refine ⟨?_, (hb.block Bn (Array.getElem?_eq_some_iff.1 hB).1).trans hB⟩
    rw [tch_skip (Nat.zero_le (qy0 * 8)) fun t _ ht => by rw [HT.out]; simp; omega]
    exact hJ [] _ _ none h0 (below_grown hb) (fun r e => by cases e)
  clear hb c0 c1 c2 c3 h0
  obtain ⟨c0, c1, c2, c3⟩ := hA.out.2.cells
  gi_wp2_with fail
  refine wcall ((line_is HY0.out c d _).mono ?_)
  rintro e w' ⟨rfl, rfl⟩
  clear c0 c1 c2 c3
  gi_wp2_with fail
  gi_loopw [3] (fun v wr => RowR J Bn x0 y0 x1 y1 qy0 qy1 v wr) (fun v _ => qy1 + 1 - (intOf v).toNat)
  case atStart => exact ⟨qy0, Nat.le_refl _, by omega, rfl, hA⟩
  case round =>
    clear hA
    obtain ⟨r, hr0, hr1, rfl, hA⟩ := hrel
    obtain ⟨c0, c1, c2, c3⟩ := hA.out.2.cells
    by_cases hlt : r ≤ qy1
    · gi_wp2_with fail
      refine wcall ((line_is HY1.out g h _).mono ?_)
      rintro e w' ⟨rfl, rfl⟩
      gi_wp2_with fail
      refine wcall ((line_is HX0.out a b _).mono ?_)
      rintro e w' ⟨rfl, rfl⟩
      clear c0 c1 c2 c3
      gi_wp2_with fail
      gi_loopw [4] (fun v wr => ColR J Bn x0 y0 x1 y1 r qx0 qx1 v wr) (fun v _ => qx1 + 1 - (intOf v).toNat)
      case atStart =>
        refine ⟨qx0, Nat.le_refl _, by omega, rfl, Lib.hid ⟨?_, hA.out.2⟩⟩
        rw [tch_skip (k := r * 8) (m := r * 8 + qx0) (by omega) fun t _ ht => by rw [HT.out]; simp; omega]
        exact hA.out.1
      case round =>
        clear hA
        obtain ⟨k, hk0, hk1, rfl, hA⟩ := hrel
        obtain ⟨c0, c1, c2, c3⟩ := hA.out.2.cells
        by_cases hkt : k ≤ qx1
        · obtain ⟨q, hq⟩ : ∃ q : Nat, q = r * 8 + k := ⟨_, rfl⟩
          have hyes : tch x0 y0 x1 y1 (q + 1) = tch x0 y0 x1 y1 q ++ [q] := tch_yes (by rw [HT.out]; simp; omega)
          have hlen : (tch x0 y0 x1 y1 q).length < (tch x0 y0 x1 y1 64).length := by
            have := (tch_pre (x0 := x0) (y0 := y0) (x1 := x1) (y1 := y1) (show q + 1 ≤ 64 by omega)).length_le
            rw [hyes] at this
            simp at this
            omega
          obtain ⟨fn, tmps, assign, body, hy, hR⟩ := hY _ q _ (by have := hA.out.1; rw [← hq] at this; exact this) hlen
          have HQ := Lib.hid hq
          have HY := Lib.hid hyes
          clear hq hyes hlen
          gi_wp2_with fail
          refine wcall ((line_is HX1.out e f _).mono ?_)
          rintro e w' ⟨rfl, rfl⟩
          gi_wp2_with fail
          refine wcall ((number_is HQ.out (by omega) (by omega) _).mono ?_)
          rintro e w' ⟨rfl, rfl⟩
          gi_wp2_with fail
          refine ⟨(fun h => by cases h), hR.mono ?_⟩
          clear hy hR
          rintro e w2 (⟨rfl, hJ2, hk2⟩ | ⟨rfl, hJx⟩)
          · have hA2 : Hid (At J Bn x0 y0 x1 y1 (q + 1) w2) := ⟨by rw [HY.out]; exact hJ2, hk2.trans hA.out.2⟩
            clear hJ2 hk2
            gi_wp2_with fail
            go_roundw
            case rel => exact ⟨k + 1, by omega, by omega, by go_num, by have := HQ.out; rw [show r * 8 + (k + 1) = q + 1 by omega]; exact hA2⟩
            case measure => simp [intOf]; omega
          · have HX := Lib.hid hJx
            clear hJx
            gi_wp2_with fail
            refine bodyPost_ret (results_none rfl _ _ _) rfl ?_
            refine ⟨⟨_, rfl⟩, .inr ⟨_, ?_, HX.out⟩⟩
            rw [← HY.out]
            exact tch_pre (by have := HQ.out; omega)
        · gi_wp2_with fail
          refine wcall ((line_is HX1.out e f _).mono ?_)
          rintro e w' ⟨rfl, rfl⟩
          gi_wp2_with fail
          go_roundw
          case rel =>
            refine ⟨r + 1, by omega, by omega, by go_num, Lib.hid ⟨?_, hA.out.2⟩⟩
            rw [tch_skip (k := r * 8 + k) (m := (r + 1) * 8) (by omega) fun t _ ht => by rw [HT.out]; simp; omega]
            exact hA.out.1
          case measure => simp [intOf]; omega
    · gi_wp2_with fail
      refine wcall ((line_is HY1.out g h _).mono ?_)
      rintro e w' ⟨rfl, rfl⟩
      gi_wp2_with fail
      go_end0
      refine ⟨⟨_, rfl⟩, .inl ⟨_, rfl, ?_⟩⟩
      rw [tch_skip (k := r * 8) (m := 64) (by omega) fun t _ ht => by rw [HT.out]; simp; omega]
      exact hA.out.1
end Go.Proofs.Ytiapllplhjhliaa
