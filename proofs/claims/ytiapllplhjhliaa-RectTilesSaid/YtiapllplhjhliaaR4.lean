/-
  The walk of the document's Touched: the tiles that a rectangle touches, in a new slice, rising.
  Conditions: coordinates are those of a uint32.
-/
import Derived.Test.YtiapllplhjhliaaR3
import Derived.OwnWalk
namespace Go.Proofs.Ytiapllplhjhliaa
open Go.RowKit

/-- The numbers below k that the rectangle touches, rising. -/
def tch (x0 y0 x1 y1 : Int) (k : Nat) : List Nat := (List.range k).filter fun t => touchB x0 y0 x1 y1 (t : Int)
/-- Numbers as the cells of a []int. -/
def IC (l : List Nat) : List Value := l.map fun n : Nat => Value.int .i64 (n : Int)
theorem IC_length (l : List Nat) : (IC l).length = l.length := by simp [IC]
theorem IC_snoc (l : List Nat) (k : Nat) : IC (l ++ [k]) = IC l ++ [.int .i64 (k : Int)] := by simp [IC]
theorem tch_le (x0 y0 x1 y1 : Int) (k : Nat) : (tch x0 y0 x1 y1 k).length ≤ k := by
  have := List.length_filter_le (fun t : Nat => touchB x0 y0 x1 y1 (t : Int)) (List.range k)
  simpa [tch] using this
theorem tch_yes {x0 y0 x1 y1 : Int} {k : Nat} (h : touchB x0 y0 x1 y1 (k : Int) = true) : tch x0 y0 x1 y1 (k + 1) = tch x0 y0 x1 y1 k ++ [k] := by
  simp [tch, List.range_succ, List.filter_append, h]
theorem tch_no {x0 y0 x1 y1 : Int} {k : Nat} (h : touchB x0 y0 x1 y1 (k : Int) = false) : tch x0 y0 x1 y1 (k + 1) = tch x0 y0 x1 y1 k := by
  simp [tch, List.range_succ, List.filter_append, h]
theorem int_info : (Try.prog.info? 3).map (fun i => (i.zero, i.size, i.bytes)) = some (some (.int .i64 0), 1, 8) := by kernel_rfl

/-- A row of the call's own holds the numbers xs; what lay below B lies on. -/
structure Owned (w0 : World) (B : Nat) (u : Value) (xs : List Nat) (w : World) : Prop where
  row : w.ownsRow B 3 1 u xs.length (IC xs)
  old : Below B w0 w
  low : B ≤ w.heap.size
theorem Owned.call {w0 w w' : World} {B : Nat} {u : Value} {xs : List Nat} (h : Owned w0 B u xs w) (hb : Below w.heap.size w w') : Owned w0 B u xs w' := by
  refine ⟨?_, h.old.trans (hb.mono h.low), Nat.le_trans h.low hb.size⟩
  refine ⟨h.row.1, ?_⟩
  rcases h.row.2 with hn | ⟨g, cap, cur, hv, hbg, hg, rest⟩
  · exact .inl hn
  · exact .inr ⟨g, cap, cur, hv, hbg, (hb.block g (Array.getElem?_eq_some_iff.1 hg).1).trans hg, rest⟩

def TchR (w0 : World) (B : Nat) (x0 y0 x1 y1 : Int) (u i : Value) (w : World) : Prop :=
  ∃ k : Nat, k ≤ 64 ∧ i = .int .i64 k ∧ Hid (Owned w0 B u (tch x0 y0 x1 y1 k) w)
def Gives (w0 : World) (xs : List Nat) (e : Ending) (w : World) : Prop := ∃ u, e = .returned u ∧ Owned w0 w0.heap.size u xs w

set_option maxHeartbeats 1000000 in
theorem refTouched_any (x0 y0 x1 y1 : Int) (w : World) (hu : U4 x0 y0 x1 y1) :
    Calls Try.prog 18 #[.agg #[.int .u32 x0, .int .u32 y0, .int .u32 x1, .int .u32 y1]] w (Gives w (tch x0 y0 x1 y1 64)) := by
  obtain ⟨i0, hi0, hz0, hz1, hz2⟩ := info_parts int_info
  go_enter Try.func18, Try.ntmps18
  go_wp2_with fail
  obtain ⟨W, hW⟩ : ∃ W, w.alloc (.cells #[.int .u32 x0, .int .u32 y0, .int .u32 x1, .int .u32 y1] 24) = W := ⟨_, rfl⟩
  have hsz : W.heap.size = w.heap.size + 1 := by rw [← hW]; simp
  have hbl : Below w.heap.size w W := by rw [← hW]; exact (Below.refl _ _).alloc (Nat.le_refl _) _
  have c0 : W.cell? ⟨w.heap.size, 0, none⟩ = some (.int .u32 x0) := by rw [← hW, World.cell?_alloc_at _ _ _ _ rfl]; rfl
  have c1 : W.cell? ⟨w.heap.size, 1, none⟩ = some (.int .u32 y0) := by rw [← hW, World.cell?_alloc_at _ _ _ _ rfl]; rfl
  have c2 : W.cell? ⟨w.heap.size, 2, none⟩ = some (.int .u32 x1) := by rw [← hW, World.cell?_alloc_at _ _ _ _ rfl]; rfl
  have c3 : W.cell? ⟨w.heap.size, 3, none⟩ = some (.int .u32 y1) := by rw [← hW, World.cell?_alloc_at _ _ _ _ rfl]; rfl
  rw [hW]
  clear hW
  have HZ := Lib.hid hsz
  clear hsz
  go_loopw [3, 4] (fun u i wr => TchR W W.heap.size x0 y0 x1 y1 u i wr) (fun _ i _ => 64 - (intOf i).toNat)
  case atStart => exact ⟨0, by omega, rfl, Lib.hid ⟨World.ownsRow_nil W W.heap.size 3 1, Below.refl _ _, Nat.le_refl _⟩⟩
  case round =>
    obtain ⟨k, hk, rfl, ho⟩ := hrel
    by_cases hlt : k < 64
    · have d0 := (ho.out.old.cell (p := ⟨w.heap.size, 0, none⟩) (by rw [HZ.out]; exact Nat.lt_succ_self _)).trans c0
      have d1 := (ho.out.old.cell (p := ⟨w.heap.size, 1, none⟩) (by rw [HZ.out]; exact Nat.lt_succ_self _)).trans c1
      have d2 := (ho.out.old.cell (p := ⟨w.heap.size, 2, none⟩) (by rw [HZ.out]; exact Nat.lt_succ_self _)).trans c2
      have d3 := (ho.out.old.cell (p := ⟨w.heap.size, 3, none⟩) (by rw [HZ.out]; exact Nat.lt_succ_self _)).trans c3
      go_wp2_with fail
      refine (touches_any x0 y0 x1 y1 k wr hu (by omega) (by omega)).mono ?_
      rintro e w1 ⟨rfl, hb⟩
      have HO := Lib.hid (ho.out.call hb)
      clear hb ho
      have hle := tch_le x0 y0 x1 y1 k
      cases hs : touchB x0 y0 x1 y1 k
      · have E := Lib.hid (tch_no hs)
        clear hs
        go_wp2_with fail
        refine ⟨⟨k + 1, by omega, by go_num, Lib.hid ?_⟩, by simp [intOf]; omega⟩
        rw [E.out]
        exact HO.out
      · have E := Lib.hid (tch_yes hs)
        clear hs
        have hlow := HO.out.low
        go_wp2_with (at_builtin; refine wpList_append_own _ rfl _ _ 35 rfl W.heap.size 3 i0 (.int .i64 0) 1 8 Try.underlying35 hi0 hz0 hz1 hz2 rfl (by decide) u3 _ _ rfl (HO.out.row.alloc _) ⟨w1.heap.size, 0, none⟩ 1 1 [.int .i64 (k : Int)] rfl rfl (cell_one_new _ _ _) (by simp [Value.oneCell']) (by unfold maxLen; omega) (by omega) (by simp; omega) ?_; intro v' w2 hown hgrow hblk)
        refine ⟨⟨k + 1, by omega, by go_num, Lib.hid ?_⟩, by simp [intOf]; omega⟩
        rw [E.out]
        refine ⟨by rw [IC_snoc, List.length_append]; exact hown, Below.grown (HO.out.old.alloc hlow _) hgrow (by simp; omega) fun j hj => (HO.out.row.lt j hj).1, ?_⟩
        have := hgrow.size
        simp at this
        omega
    · obtain rfl : k = 64 := by omega
      go_wp2_with fail
      go_ret
      have h := ho.out
      exact ⟨u3, rfl, own_base h.row (by rw [HZ.out]; omega), hbl.trans (h.old.mono (by rw [HZ.out]; omega)), by have := h.low; rw [HZ.out] at this; omega⟩
end Go.Proofs.Ytiapllplhjhliaa
