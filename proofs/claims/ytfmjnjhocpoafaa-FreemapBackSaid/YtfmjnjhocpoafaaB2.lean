/-
  The walks of pages, All, Free and First, over every map.
  Conditions: maps of at most 120 pages.
-/
import Derived.Test.YtfmjnjhocpoafaaB1
namespace Go.Proofs.Ytfmjnjhocpoafaa
open Go.RowKit Go.Shelf
attribute [local go_sem] Oper.semAt_some

theorem wcall2 {P : Program} {f : FuncId} {args : Array Value} {w : World} {R : Ending → World → Prop} {m : Nat} (h : Calls P f args w R) : Fence.wide.fn f ∧ CallsIn Fence.wide m P f args w R := ⟨trivial, callsIn_wide.2 h⟩

set_option maxHeartbeats 400000 in
theorem pages_any (l : List Bool) (t : Bool) (w : World) :
    Calls Try.prog 22 #[.agg #[.int .i64 (l.length : Nat), .int .u64 (lo l : Nat), .int .u64 (hi l : Nat)], .bool t] w
      fun e w' => e = .returned (.func (.func 23) #[] #[.pointer (some ⟨w.heap.size, 0, none⟩), .pointer (some ⟨w.heap.size + 1, 0, none⟩)]) ∧ (w.alloc (.cells #[.int .i64 (l.length : Nat), .int .u64 (lo l : Nat), .int .u64 (hi l : Nat)] 27)).alloc (.cells #[.bool t] 4) = w' := by
  have hmf : ∀ (fn : Fn) (first cap : Array Value) (w : World), (Instr.makeFunc fn first cap).run Try.prog w = .ok (.func fn first cap) w := fun _ _ _ _ => rfl
  go_enter Try.func22, Try.ntmps22
  go_wp2_with fail
  go_ret
  exact ⟨rfl, rfl⟩

theorem Box.new (w : World) (l : List Bool) (t : Bool) : Box ((w.alloc (.cells #[.int .i64 (l.length : Nat), .int .u64 (lo l : Nat), .int .u64 (hi l : Nat)] 27)).alloc (.cells #[.bool t] 4)) w.heap.size (w.heap.size + 1) l t := by
  refine ⟨?_, ?_⟩
  · rw [Below.heap_alloc _ _ _ (by simp)]
    exact World.alloc_heap_new w _
  · have := World.alloc_heap_new (w.alloc (.cells #[.int .i64 (l.length : Nat), .int .u64 (lo l : Nat), .int .u64 (hi l : Nat)] 27)) (.cells #[.bool t] 4)
    rwa [World.size_alloc] at this

set_option maxHeartbeats 400000 in
theorem all_any (l : List Bool) (w : World) :
    Calls Try.prog 15 #[.agg #[.int .i64 (l.length : Nat), .int .u64 (lo l : Nat), .int .u64 (hi l : Nat)]] w
      fun e w' => ∃ Bn Cn, e = .returned (.func (.func 23) #[] #[.pointer (some ⟨Bn, 0, none⟩), .pointer (some ⟨Cn, 0, none⟩)]) ∧ Box w' Bn Cn l true ∧ w.heap.size ≤ Bn ∧ w.heap.size ≤ Cn ∧ Below w.heap.size w w' := by
  go_enter Try.func15, Try.ntmps15
  go_wp2_with fail
  refine (pages_any l true _).mono ?_
  rintro e w1 ⟨rfl, rfl⟩
  go_wp2_with fail
  go_ret
  refine ⟨_, _, rfl, ?_, by omega, by omega, (((Below.refl _ _).alloc (Nat.le_refl _) _).alloc (by simp) _).alloc (by simp; omega) _⟩
  have := Box.new (w.alloc (.cells #[.int .i64 (l.length : Nat), .int .u64 (lo l : Nat), .int .u64 (hi l : Nat)] 27)) l true
  rwa [World.size_alloc] at this

theorem kpB_t {Bn Cn : Nat} {A B C : World} (h : KpB Bn Cn A B) (k : KpB Bn Cn B C) : KpB Bn Cn A C := ⟨k.1.trans h.1, k.2.trans h.2⟩
theorem kpB_b {Bn Cn : Nat} {w : World} (hn : Bn < w.heap.size) (hc : Cn < w.heap.size) (W : World) (l : Nat) (o o' : Obj) (hl : w.heap.size ≤ l) (_ : W.heap[l]? = some o) (_ : o.isCells = false) (_ : o.isWalk = false) : KpB Bn Cn W (W.putObj l o') :=
  ⟨World.putObj_heap_other (by omega), World.putObj_heap_other (by omega)⟩
theorem kpB_set {Bn Cn b o : Nat} (h1 : Bn ≠ b) (h2 : Cn ≠ b) (W : World) (v : Value) : KpB Bn Cn W (W.setCell ⟨b, o, none⟩ v) :=
  ⟨Below.heap_setCell _ _ _ _ h1, Below.heap_setCell _ _ _ _ h2⟩
theorem iter_stops (n Bn Cn : Nat) (l : List Bool) (t : Bool) (hn : l.length ≤ 120) (w : World) (hB : Box w Bn Cn l t) :
    SeqStopsK Fence.wide n Try.prog 23 #[.pointer (some ⟨Bn, 0, none⟩), .pointer (some ⟨Cn, 0, none⟩)] (fun x : Nat => #[Value.int .i64 (x : Int)]) (KpB Bn Cn) (fun ys => ys = pg l t l.length) (fun pre => pre <+: pg l t l.length) (pg l t l.length).length w := fun L J Jx W hW hJ _ hY h0 =>
  iter_any n L Bn Cn l t hn J Jx hY W hJ (hB.below hW) h0

set_option maxRecDepth 100000 in
set_option maxHeartbeats 4000000 in
theorem free_any (l : List Bool) (hn : l.length ≤ 120) (w : World) :
    Calls Try.prog 16 #[.agg #[.int .i64 (l.length : Nat), .int .u64 (lo l : Nat), .int .u64 (hi l : Nat)]] w fun e w' => e = .returned (.int .i64 ((pg l false l.length).length : Nat)) ∧ Below w.heap.size w w' := by
  refine (callsIn_wide (n := 3)).1 ?_
  refine callsIn_of_wp_marks Try.func16 rfl trivial ?_ rfl
  simp only [Try.ntmps16, List.size_toArray, List.length_cons, List.length_nil, Nat.reduceAdd, Nat.reduceSub, Array.replicate_succ, Array.replicate_zero, List.push_toArray, List.append_toArray, List.nil_append, List.cons_append]
  gi_wp2_with fail
  refine wcall2 ((pages_any l false _).mono ?_)
  rintro e w' ⟨rfl, rfl⟩
  gi_wp2_with fail
  obtain ⟨V, hV⟩ : ∃ V, (w.alloc (.cells #[.int .i64 (l.length : Nat), .int .u64 (lo l : Nat), .int .u64 (hi l : Nat)] 27)).alloc (.cells #[.int .i64 0] 3) = V := ⟨_, rfl⟩
  have hvz : V.heap.size = w.heap.size + 1 + 1 := by rw [← hV]; simp
  have bN : Boxed V (w.heap.size + 1) 3 (.int .i64 0) := by
    rw [← hV]
    have := Boxed.new (w.alloc (.cells #[.int .i64 (l.length : Nat), .int .u64 (lo l : Nat), .int .u64 (hi l : Nat)] 27)) 3 (.int .i64 0)
    rwa [World.size_alloc] at this
  have bV : Below w.heap.size w V := by rw [← hV]; exact ((Below.refl _ w).alloc (Nat.le_refl _) _).alloc (by simp) _
  rw [hV]
  clear hV
  obtain ⟨W, hW⟩ : ∃ W, (V.alloc (.cells #[.int .i64 (l.length : Nat), .int .u64 (lo l : Nat), .int .u64 (hi l : Nat)] 27)).alloc (.cells #[.bool false] 4) = W := ⟨_, rfl⟩
  have hsz : W.heap.size = w.heap.size + 4 := by rw [← hW]; simp; omega
  have hB0 : Below w.heap.size w W := by rw [← hW]; exact (bV.alloc (by omega) _).alloc (by simp; omega) _
  have b4 : Box W (w.heap.size + 1 + 1) (w.heap.size + 1 + 1 + 1) l false := by
    rw [← hW, ← hvz]
    exact Box.new V l false
  have bN := show Boxed W (w.heap.size + 1) 3 (.int .i64 0) by rw [← hW]; exact (bN.alloc _).alloc _
  have hle := pg_le l false l.length
  rw [hW]
  clear hW
  refine wpIn_rangeFunc_ownF rfl (by omega) (gf := 23) (lb := #[.pointer (some ⟨w.heap.size + 1 + 1, 0, none⟩), .pointer (some ⟨w.heap.size + 1 + 1 + 1, 0, none⟩)]) rfl trivial (enters_of Try.func23 (by kernel_rfl) rfl)
    (iter_stops _ (w.heap.size + 1 + 1) (w.heap.size + 1 + 1 + 1) l false hn W b4) kpB_t (kpB_b (by omega) (by omega)) (Below.refl _ _) (fun _ => rfl)
    (fun pre W' => Boxed W' (w.heap.size + 1) 3 (.int .i64 ((pre.length : Nat) : Int)) ∧ Below w.heap.size w W')
    (fun _ _ _ => False)
    (OwnFrom.and (Own.from (boxed_own _ _ _) _) (ownFrom_below (Nat.le_refl _) (by omega)))
    (fun _ _ _ _ _ hs _ _ => hs)
    ⟨bN, hB0⟩
    (fun x => { tmps := #[.agg #[.int .i64 (l.length : Nat), .int .u64 (lo l : Nat), .int .u64 (hi l : Nat)], .pointer (some ⟨w.heap.size, 0, none⟩), .int .i64 0, .pointer (some ⟨w.heap.size + 1, 0, none⟩), .agg #[.int .i64 (l.length : Nat), .int .u64 (lo l : Nat), .int .u64 (hi l : Nat)], .func (.func 23) #[] #[.pointer (some ⟨w.heap.size + 1 + 1, 0, none⟩), .pointer (some ⟨w.heap.size + 1 + 1 + 1, 0, none⟩)], .int .i64 (x : Int), undef, undef, undef], defers := [] }) ?assign ?body ?done ?stop
  case assign =>
    intro l x W K hK
    gi_wp2
    simpa using hK
  case body =>
    rintro l pre x W' ⟨bx, hB⟩ hlt
    have cR := bx.cell
    have fR := bx.frozen
    gi_wp2
    exact ⟨KeepsOthers.setCell _ _ _, kpB_set (by omega) (by omega) _ _, ⟨by have := bx.set (.int .i64 ((pre.length : Int) + 1)); simpa using this, hB.setCell (p := ⟨w.heap.size + 1, 0, none⟩) (by simp) _⟩⟩
  case done =>
    rintro D ys W' hD rfl ⟨bx, hB⟩ hK
    have cR := bx.cell
    gi_wp2
    refine ⟨by simp, .inl ⟨_, _, rfl, run_takeDeferred hK, ?_⟩⟩
    exact ⟨_, results_tmp rfl _ _ _, rfl, hB.trans (belowK_b (w := w) (Nat.le_refl _) W' D _ _ (by omega) hK rfl rfl)⟩
  case stop =>
    rintro D c pre W' _ _ h _
    exact h.elim

/-- The first page of a list, or -1. -/
def firstI (L : List Nat) : Int := match L with
  | [] => -1
  | x :: _ => (x : Int)
set_option maxRecDepth 100000 in
set_option maxHeartbeats 4000000 in
theorem first_any (l : List Bool) (hn : l.length ≤ 120) (w : World) :
    Calls Try.prog 18 #[.agg #[.int .i64 (l.length : Nat), .int .u64 (lo l : Nat), .int .u64 (hi l : Nat)]] w fun e w' => e = .returned (.int .i64 (firstI (pg l false l.length))) ∧ Below w.heap.size w w' := by
  refine (callsIn_wide (n := 3)).1 ?_
  refine callsIn_of_wp_marks Try.func18 rfl trivial ?_ rfl
  simp only [Try.ntmps18, List.size_toArray, List.length_cons, List.length_nil, Nat.reduceAdd, Nat.reduceSub, Array.replicate_succ, Array.replicate_zero, List.push_toArray, List.append_toArray, List.nil_append, List.cons_append]
  gi_wp2_with fail
  refine wcall2 ((pages_any l false _).mono ?_)
  rintro e w' ⟨rfl, rfl⟩
  gi_wp2_with fail
  obtain ⟨V, hV⟩ : ∃ V, (w.alloc (.cells #[.int .i64 (l.length : Nat), .int .u64 (lo l : Nat), .int .u64 (hi l : Nat)] 27)).alloc (.cells #[.int .i64 0] 3) = V := ⟨_, rfl⟩
  have hvz : V.heap.size = w.heap.size + 1 + 1 := by rw [← hV]; simp
  have bN : Boxed V (w.heap.size + 1) 3 (.int .i64 0) := by
    rw [← hV]
    have := Boxed.new (w.alloc (.cells #[.int .i64 (l.length : Nat), .int .u64 (lo l : Nat), .int .u64 (hi l : Nat)] 27)) 3 (.int .i64 0)
    rwa [World.size_alloc] at this
  have bV : Below w.heap.size w V := by rw [← hV]; exact ((Below.refl _ w).alloc (Nat.le_refl _) _).alloc (by simp) _
  rw [hV]
  clear hV
  obtain ⟨W, hW⟩ : ∃ W, (V.alloc (.cells #[.int .i64 (l.length : Nat), .int .u64 (lo l : Nat), .int .u64 (hi l : Nat)] 27)).alloc (.cells #[.bool false] 4) = W := ⟨_, rfl⟩
  have hsz : W.heap.size = w.heap.size + 4 := by rw [← hW]; simp; omega
  have hB0 : Below w.heap.size w W := by rw [← hW]; exact (bV.alloc (by omega) _).alloc (by simp; omega) _
  have b4 : Box W (w.heap.size + 1 + 1) (w.heap.size + 1 + 1 + 1) l false := by
    rw [← hW, ← hvz]
    exact Box.new V l false
  have bN := show Boxed W (w.heap.size + 1) 3 (.int .i64 0) by rw [← hW]; exact (bN.alloc _).alloc _
  rw [hW]
  clear hW
  refine wpIn_rangeFunc_ownF rfl (by omega) (gf := 23) (lb := #[.pointer (some ⟨w.heap.size + 1 + 1, 0, none⟩), .pointer (some ⟨w.heap.size + 1 + 1 + 1, 0, none⟩)]) rfl trivial (enters_of Try.func23 (by kernel_rfl) rfl)
    (iter_stops _ (w.heap.size + 1 + 1) (w.heap.size + 1 + 1 + 1) l false hn W b4) kpB_t (kpB_b (by omega) (by omega)) (Below.refl _ _) (fun _ => rfl)
    (fun pre W' => (pre = [] ∧ Boxed W' (w.heap.size + 1) 3 (.int .i64 0)) ∧ Below w.heap.size w W')
    (fun c pre W' => (c = .ret ∧ Boxed W' (w.heap.size + 1) 3 (.int .i64 (firstI pre)) ∧ ∃ x, pre = [x]) ∧ Below w.heap.size w W')
    (OwnFrom.and (Own.from (fun s A B row hs hg hr => ⟨hs.1, boxed_own _ _ (fun _ : Unit => _) () A B row hs.2 hg hr⟩) _) (ownFrom_below (Nat.le_refl _) (by omega)))
    (fun c => OwnFrom.and (Own.from (fun s A B row hs hg hr => ⟨hs.1, boxed_own _ _ (fun _ : Unit => _) () A B row hs.2.1 hg hr, hs.2.2⟩) _) (ownFrom_below (Nat.le_refl _) (by omega)))
    ⟨⟨rfl, bN⟩, hB0⟩
    (fun x => { tmps := #[.agg #[.int .i64 (l.length : Nat), .int .u64 (lo l : Nat), .int .u64 (hi l : Nat)], .pointer (some ⟨w.heap.size, 0, none⟩), .pointer (some ⟨w.heap.size + 1, 0, none⟩), .int .i64 (x : Int), .agg #[.int .i64 (l.length : Nat), .int .u64 (lo l : Nat), .int .u64 (hi l : Nat)], .func (.func 23) #[] #[.pointer (some ⟨w.heap.size + 1 + 1, 0, none⟩), .pointer (some ⟨w.heap.size + 1 + 1 + 1, 0, none⟩)], .int .i64 (x : Int), undef], defers := [] }) ?assign ?body ?done ?stop
  case assign =>
    intro l x W K hK
    gi_wp2
    simpa using hK
  case body =>
    rintro l pre x W' ⟨⟨rfl, bx⟩, hB⟩ hlt
    have cR := bx.cell
    have fR := bx.frozen
    gi_wp2
    exact ⟨KeepsOthers.setCell _ _ _, ⟨rfl, bx.set _, x, rfl⟩, hB.setCell (p := ⟨w.heap.size + 1, 0, none⟩) (by simp) _⟩
  case done =>
    rintro D ys W' hD hys ⟨⟨rfl, bx⟩, hB⟩ hK
    have HYS := Lib.hid hys
    clear hys
    have cR := bx.cell
    have fR := bx.frozen
    gi_wp2
    have hK' := (KeepsOthers.setCell W' ⟨w.heap.size + 1, 0, none⟩ (.int .i64 (-1))).same D _ hK rfl
    refine ⟨by simp, .inl ⟨_, _, rfl, run_takeDeferred hK', ?_⟩⟩
    have hc5 := cell_kept (bx.set (.int .i64 (-1))).cell (grownBy_putObj' _ D (.deferred none)) (fun r e => by cases e; exact ⟨_, hK', rfl⟩)
    refine ⟨.int .i64 (-1), ?_, by rw [← HYS.out]; rfl, (hB.setCell (p := ⟨w.heap.size + 1, 0, none⟩) (by simp) _).trans (belowK_b (w := w) (Nat.le_refl _) _ D _ _ (by omega) hK' rfl rfl)⟩
    simp [results, Try.f18, go_sem, hc5]
  case stop =>
    rintro D c pre W' hD hpre ⟨⟨rfl, bx, x, rfl⟩, hB⟩ hK
    have hf : firstI (pg l false l.length) = (x : Int) := by
      obtain ⟨r, hr⟩ := hpre
      rw [← hr]
      rfl
    have HF := Lib.hid hf
    clear hf
    gi_wp2
    refine ⟨by simp, .inl ⟨_, _, rfl, run_takeDeferred hK, ?_⟩⟩
    have hc5 := cell_kept bx.cell (grownBy_putObj' _ D (.deferred none)) (fun r e => by cases e; exact ⟨_, hK, rfl⟩)
    refine ⟨.int .i64 (x : Int), ?_, by rw [HF.out], hB.trans (belowK_b (w := w) (Nat.le_refl _) W' D _ _ (by omega) hK rfl rfl)⟩
    simp [results, Try.f18, go_sem, hc5, firstI]
end Go.Proofs.Ytfmjnjhocpoafaa
