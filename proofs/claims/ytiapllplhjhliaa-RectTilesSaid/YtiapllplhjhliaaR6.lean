/-
  The walks of rect.Touched and rect.Count.
  Conditions: coordinates are those of a uint32.
-/
import Derived.Test.YtiapllplhjhliaaR5
namespace Go.Proofs.Ytiapllplhjhliaa
open Go.RowKit Go.Shelf
attribute [local go_sem] Oper.semAt_some

theorem wcall2 {P : Program} {f : FuncId} {args : Array Value} {w : World} {R : Ending → World → Prop} {m : Nat} (h : Calls P f args w R) : Fence.wide.fn f ∧ CallsIn Fence.wide m P f args w R := ⟨trivial, callsIn_wide.2 h⟩
theorem rcall2 {P : Program} {f : FuncId} {args : Array Value} {w : World} {R : Ending → World → Prop} {m l : Nat} (h : Calls P f args w R) : (Fence.wide.inRound l).fn f ∧ CallsIn (Fence.wide.inRound l) m P f args w R := ⟨trivial, CallsIn.inRound l (callsIn_wide.2 h)⟩

set_option maxHeartbeats 400000 in
theorem touched_any (x0 y0 x1 y1 : Int) (w : World) :
    Calls Try.prog 19 #[.agg #[.int .u32 x0, .int .u32 y0, .int .u32 x1, .int .u32 y1]] w
      fun e w' => e = .returned (.func (.func 26) #[] #[.pointer (some ⟨w.heap.size, 0, none⟩)]) ∧ w.alloc (.cells #[.int .u32 x0, .int .u32 y0, .int .u32 x1, .int .u32 y1] 24) = w' := by
  have hmf : ∀ (fn : Fn) (first cap : Array Value) (w : World), (Instr.makeFunc fn first cap).run Try.prog w = .ok (.func fn first cap) w := fun _ _ _ _ => rfl
  go_enter Try.func19, Try.ntmps19
  go_wp2_with fail
  go_ret
  exact ⟨rfl, rfl⟩

/-- What a round must keep for the iterator: the rectangle's box. -/
def KpB (Bn : Nat) (A B : World) : Prop := B.heap[Bn]? = A.heap[Bn]?
theorem kpB_t {Bn : Nat} {A B C : World} (h : KpB Bn A B) (k : KpB Bn B C) : KpB Bn A C := Eq.trans (show C.heap[Bn]? = B.heap[Bn]? from k) h
theorem kpB_b {Bn : Nat} {w : World} (hn : Bn < w.heap.size) (W : World) (l : Nat) (o o' : Obj) (hl : w.heap.size ≤ l) (_ : W.heap[l]? = some o) (_ : o.isCells = false) (_ : o.isWalk = false) : KpB Bn W (W.putObj l o') :=
  World.putObj_heap_other (by omega)
theorem iter_stops (n Bn : Nat) (x0 y0 x1 y1 : Int) (hu : U4 x0 y0 x1 y1) (w : World) (hB : Box4 w Bn x0 y0 x1 y1) :
    SeqStopsK Fence.wide n Try.prog 26 #[.pointer (some ⟨Bn, 0, none⟩)] (fun x : Nat => #[Value.int .i64 (x : Int)]) (KpB Bn) (fun ys => ys = tch x0 y0 x1 y1 64) (fun pre => pre <+: tch x0 y0 x1 y1 64) (tch x0 y0 x1 y1 64).length w := fun l J Jx W hW hJ _ hY h0 => by
  have hB' : Box4 W Bn x0 y0 x1 y1 := (hW.block Bn (Array.getElem?_eq_some_iff.1 hB).1).trans hB
  cases he : emptyB x0 y0 x1 y1 with
  | true => exact iter_empty n l Bn x0 y0 x1 y1 he J Jx W hJ hB' h0
  | false => exact iter_full n l Bn x0 y0 x1 y1 hu he J Jx hY W hJ hB' h0

set_option maxRecDepth 100000 in
set_option maxHeartbeats 4000000 in
theorem count_any (x0 y0 x1 y1 : Int) (hu : U4 x0 y0 x1 y1) (w : World) :
    Calls Try.prog 20 #[.agg #[.int .u32 x0, .int .u32 y0, .int .u32 x1, .int .u32 y1]] w
      fun e w' => e = .returned (.int .i64 ((tch x0 y0 x1 y1 64).length : Nat)) ∧ Below w.heap.size w w' := by
  refine (callsIn_wide (n := 3)).1 ?_
  refine callsIn_of_wp_marks Try.func20 rfl trivial ?_ rfl
  simp only [Try.ntmps20, List.size_toArray, List.length_cons, List.length_nil, Nat.reduceAdd, Nat.reduceSub, Array.replicate_succ, Array.replicate_zero, List.push_toArray, List.append_toArray, List.nil_append, List.cons_append]
  gi_wp2_with fail
  refine wcall2 ((touched_any x0 y0 x1 y1 _).mono ?_)
  rintro e w' ⟨rfl, rfl⟩
  gi_wp2_with fail
  obtain ⟨W, hW⟩ : ∃ W, ((w.alloc (.cells #[.int .u32 x0, .int .u32 y0, .int .u32 x1, .int .u32 y1] 24)).alloc (.cells #[.int .i64 0] 3)).alloc (.cells #[.int .u32 x0, .int .u32 y0, .int .u32 x1, .int .u32 y1] 24) = W := ⟨_, rfl⟩
  have hsz : W.heap.size = w.heap.size + 3 := by rw [← hW]; simp
  have hB0 : Below w.heap.size w W := by rw [← hW]; exact (((Below.refl _ w).alloc (Nat.le_refl _) _).alloc (by simp) _).alloc (by simp; omega) _
  have bN : Boxed W (w.heap.size + 1) 3 (.int .i64 0) := by
    rw [← hW]
    have := (Boxed.new (w.alloc (.cells #[.int .u32 x0, .int .u32 y0, .int .u32 x1, .int .u32 y1] 24)) 3 (.int .i64 0)).alloc (.cells #[.int .u32 x0, .int .u32 y0, .int .u32 x1, .int .u32 y1] 24)
    rwa [World.size_alloc] at this
  have b4 : Box4 W (w.heap.size + 1 + 1) x0 y0 x1 y1 := by
    rw [← hW]
    have := World.alloc_heap_new ((w.alloc (.cells #[.int .u32 x0, .int .u32 y0, .int .u32 x1, .int .u32 y1] 24)).alloc (.cells #[.int .i64 0] 3)) (.cells #[.int .u32 x0, .int .u32 y0, .int .u32 x1, .int .u32 y1] 24)
    rwa [World.size_alloc, World.size_alloc] at this
  have hle := tch_le x0 y0 x1 y1 64
  rw [hW]
  clear hW
  refine wpIn_rangeFunc_ownF rfl (by omega) (gf := 26) (lb := #[.pointer (some ⟨w.heap.size + 1 + 1, 0, none⟩)]) rfl trivial (enters_of Try.func26 (by kernel_rfl) rfl)
    (iter_stops _ (w.heap.size + 1 + 1) x0 y0 x1 y1 hu W b4) kpB_t (kpB_b (by omega)) (Below.refl _ _) (fun _ => rfl)
    (fun pre W' => Boxed W' (w.heap.size + 1) 3 (.int .i64 ((pre.length : Nat) : Int)) ∧ Below w.heap.size w W')
    (fun _ _ _ => False)
    (OwnFrom.and (Own.from (boxed_own _ _ _) _) (ownFrom_below (Nat.le_refl _) (by omega)))
    (fun _ _ _ _ _ hs _ _ => hs)
    ⟨bN, hB0⟩
    (fun x => { tmps := #[.agg #[.int .u32 x0, .int .u32 y0, .int .u32 x1, .int .u32 y1], .pointer (some ⟨w.heap.size, 0, none⟩), .int .i64 0, .pointer (some ⟨w.heap.size + 1, 0, none⟩), .agg #[.int .u32 x0, .int .u32 y0, .int .u32 x1, .int .u32 y1], .func (.func 26) #[] #[.pointer (some ⟨w.heap.size + 1 + 1, 0, none⟩)], .int .i64 (x : Int), undef, undef, undef], defers := [] }) ?assign ?body ?done ?stop
  case assign =>
    intro l x W K hK
    gi_wp2
    simpa using hK
  case body =>
    rintro l pre x W' ⟨bx, hB⟩ hlt
    have cR := bx.cell
    have fR := bx.frozen
    gi_wp2
    exact ⟨KeepsOthers.setCell _ _ _, Below.heap_setCell _ _ _ _ (by simp), ⟨by have := bx.set (.int .i64 ((pre.length : Int) + 1)); simpa using this, hB.setCell (p := ⟨w.heap.size + 1, 0, none⟩) (by simp) _⟩⟩
  case done =>
    rintro D ys W' hD rfl ⟨bx, hB⟩ hK
    have cR := bx.cell
    gi_wp2
    refine ⟨by simp, .inl ⟨_, _, rfl, run_takeDeferred hK, ?_⟩⟩
    exact ⟨_, results_tmp rfl _ _ _, rfl, hB.trans (belowK_b (w := w) (Nat.le_refl _) W' D _ _ (by omega) hK rfl rfl)⟩
  case stop =>
    rintro D c pre W' _ _ h _
    exact h.elim
end Go.Proofs.Ytiapllplhjhliaa
