/-
  What the walk of the reference's Write leans on: the state of its loop; the steps of its two regions; the walks in which nothing is written.
  Conditions: disks of at most 100000 sectors.
-/
import Derived.Test.YtggcfbglfmcdmaaC1
namespace Go.Proofs.Ytggcfbglfmcdmaa
open Go.RowKit

section
variable {w : World} {ts : Array Value} {ds : List Deferred} {op : Oper} {K : Act → World → Prop} {Q : Exit → Act → World → Prop}
theorem wp_lit (d : Nat) (x : Operand) (hop : op.dst = some d) (ho : op.op = .buildSlice 29 1 #[(0, x)]) (v : Int) (hx : Act.eval ⟨ts, ds⟩ x = .agg (secA v))
    (h : K ⟨ts.setIfInBounds d (.slice (some ⟨w.heap.size, 0, none⟩) 1 1), ds⟩ (w.alloc (.cells (secA v) 48))) : Oper.wp Try.prog op ⟨ts, ds⟩ w K Q := by
  have hrun := run_buildSlice_one (P := Try.prog) w 29 48 64 _ (secA v) Try.underlying29 arr_info (by omega) (by omega) (secA_size v)
  unfold Oper.wp
  simp [execOp, ho, hx, hrun, Result.andThen]
  simp only [Oper.upon]
  rw [hop]
  exact h
theorem wp_append (d : Nat) (s x : Operand) (hop : op.dst = some d) (ho : op.op = .call { callee := .builtin .append, args := #[s, x], argTypes := #[29, 29] })
    (base : Nat) (v : Value) (n : Nat) (xs : List Value) (hs : Act.eval ⟨ts, ds⟩ s = v) (hown : w.ownsRow base 48 64 v n xs) (b : Nat) (z : Int) (hx : Act.eval ⟨ts, ds⟩ x = .slice (some ⟨b, 0, none⟩) 1 1) (hr : w.rangeAt b 0 (sec z))
    (hn : n ≤ 100000) (hbase : base ≤ w.heap.size)
    (h : ∀ v' w', w'.ownsRow base 48 64 v' (n + 1) (xs ++ sec z) → w.grownBy w' v.ownBlock → K ⟨ts.setIfInBounds d v', ds⟩ w') : Oper.wp Try.prog op ⟨ts, ds⟩ w K Q := by
  obtain ⟨i0, hi0, hz0, hz1, hz2⟩ := info_parts arr_info3
  obtain ⟨v', w', hrun, h2, h3, _⟩ := run_append_own_at (P := Try.prog) w base 29 op.type 48 i0 _ 64 64 Try.underlying29 hi0 hz0 hz1 hz2 (tabA_size 0 0) (by omega) v n xs hown ⟨b, 0, none⟩ 1 1 (sec z) (sec_length z) (fun j u hu => by rw [add_plain]; exact hr j u hu) (sec_one z) (by simp only [maxLen]; omega) (by omega) hbase
  unfold Oper.wp
  simp [execOp, ho, resolve, invoke, builtin, hs, hx, hrun, Result.andThen]
  simp only [Oper.upon]
  rw [hop]
  exact h v' w' h2 h3
end

/-- The loop of the reference's Write: h is the size of memory when it was called; k sectors are laid. -/
structure WL (w wq : World) (R Z : Array Value) (out : Value) (nw fu : Int) (K : Option Addr) (kn kc : Nat) (dn : Bool) (T : List Int) (k : Nat) : Prop where
  below : Below w.heap.size w wq
  box3 : wq.heap[w.heap.size]? = some (.cells R 32 (0, 0))
  box6 : wq.heap[w.heap.size + 1]? = some (.cells Z 32 (0, 0))
  box8 : wq.heap[w.heap.size + 3]? = some (.cells #[out, .int .i64 nw, .int .i64 fu, .slice K kn kc, .bool dn] 32 (0, 0))
  own : wq.ownsRow (w.heap.size + 4) 48 64 out k (flat (T.take k))
section
variable {w wq w1 : World} {R Z : Array Value} {out : Value} {nw fu : Int} {K : Option Addr} {kn kc : Nat} {dn : Bool} {T : List Int} {k : Nat}
theorem WL.lt (h : WL w wq R Z out nw fu K kn kc dn T k) : w.heap.size + 3 < wq.heap.size := (Array.getElem?_eq_some_iff.1 h.box8).1
theorem WL.under (h : WL w wq R Z out nw fu K kn kc dn T k) (hb : Below wq.heap.size wq w1) : WL w w1 R Z out nw fu K kn kc dn T k := by
  have := h.lt
  exact ⟨h.below.trans (hb.mono (by omega)), by rw [hb.block _ (by omega)]; exact h.box3, by rw [hb.block _ (by omega)]; exact h.box6, by rw [hb.block _ (by omega)]; exact h.box8, own_under h.own hb (Nat.le_refl _)⟩
theorem WL.drew (h : WL w wq R Z out nw fu K kn kc dn T k) : WL w wq.drew R Z out nw fu K kn kc dn T k := ⟨h.below.drew, h.box3, h.box6, h.box8, h.own⟩
theorem WL.cell8 (h : WL w wq R Z out nw fu K kn kc dn T k) : wq.cell? ⟨w.heap.size + 3, 0, none⟩ = some out := cell_of_row wq _ 0 _ _ _ h.box8
theorem WL.frozen8 (h : WL w wq R Z out nw fu K kn kc dn T k) (i : Nat) : wq.frozen? ⟨w.heap.size + 3, i, none⟩ = false := frozen_of_row wq _ i _ _ h.box8
theorem WL.ownNe (h : WL w wq R Z out nw fu K kn kc dn T k) (b : Nat) (hb : b ≤ w.heap.size + 3) : some b ≠ out.ownBlock := fun e => by
  have := (h.own.lt b e.symm).1
  omega
/-- One sector more. -/
theorem WL.next (h : WL w wq R Z out nw fu K kn kc dn T k) {x : Int} {o : Obj} {v2 : Value} {w2 : World} (hk : T.take (k + 1) = T.take k ++ [x])
    (ho : w2.ownsRow (w.heap.size + 4) 48 64 v2 (k + 1) (flat (T.take k) ++ sec x)) (hg : (wq.alloc o).grownBy w2 out.ownBlock) :
    WL w (w2.setCell ⟨w.heap.size + 3, 0, none⟩ v2) R Z v2 nw fu K kn kc dn T (k + 1) := by
  have hlt := h.lt
  have hz : (wq.alloc o).heap.size = wq.heap.size + 1 := by simp
  have blk : ∀ b, b ≤ w.heap.size + 3 → w2.heap[b]? = wq.heap[b]? := fun b hb => by
    rw [hg.block b (by omega) (h.ownNe b hb), Below.heap_alloc _ _ _ (by omega)]
  have B2 : Below w.heap.size w w2 := (h.below.alloc (by omega) o).grown hg (by omega) (fun q hq => by have := (h.own.lt q hq).1; omega)
  refine ⟨B2.setCell (by show w.heap.size ≤ w.heap.size + 3; omega) _, ?_, ?_, ?_, ?_⟩
  · rw [Below.heap_setCell _ _ _ _ (by show w.heap.size ≠ w.heap.size + 3; omega), blk _ (by omega)]
    exact h.box3
  · rw [Below.heap_setCell _ _ _ _ (by show w.heap.size + 1 ≠ w.heap.size + 3; omega), blk _ (by omega)]
    exact h.box6
  · rw [heap_setCell_same w2 (w.heap.size + 3) 0 _ 32 v2 ((blk _ (Nat.le_refl _)).trans h.box8)]
    rfl
  · rw [hk, flat_append, flat_single]
    exact ownsRow_setCell_below ho (by show w.heap.size + 3 < w.heap.size + 4; omega) _
theorem WL.kept8 (h : WL w wq R Z out nw fu K kn kc dn T k) {o : Obj} {w2 : World} (hg : (wq.alloc o).grownBy w2 out.ownBlock) : w2.cell? ⟨w.heap.size + 3, 0, none⟩ = some out ∧ w2.frozen? ⟨w.heap.size + 3, 0, none⟩ = false := by
  have hlt := h.lt
  have hz : (wq.alloc o).heap.size = wq.heap.size + 1 := by simp
  have e : w2.heap[w.heap.size + 3]? = wq.heap[w.heap.size + 3]? := by
    rw [hg.block _ (by omega) (h.ownNe _ (Nat.le_refl _)), Below.heap_alloc _ _ _ (by omega)]
  exact ⟨(cell_of_row w2 _ 0 _ _ _ (e.trans h.box8)), frozen_of_row w2 _ 0 _ _ (e.trans h.box8)⟩
end

section
variable (A : Option Addr) (s c : Nat) (nw fu : Int) (K : Option Addr) (k kc : Nat) (dn : Bool) (w : World)
/-- The reference's disk in a box. -/
abbrev refBox (A : Option Addr) (s c : Nat) (nw fu : Int) (K : Option Addr) (k kc : Nat) (dn : Bool) : Obj := .cells #[.slice A s c, .int .i64 nw, .int .i64 fu, .slice K k kc, .bool dn] 32
set_option maxHeartbeats 800000 in
theorem inside_yesW (p n : Int) (hs : s ≤ 100000) (hi : Inside s p n) :
    Calls Try.prog 31 #[.agg #[.slice A s c, .int .i64 nw, .int .i64 fu, .slice K k kc, .bool dn], .int .i64 p, .int .i64 n] w fun e w' => e = .returned (.bool true) ∧ w.alloc (.cells #[.slice A s c, .int .i64 nw, .int .i64 fu, .slice K k kc, .bool dn] 32) = w' := by
  obtain ⟨i1, i2, i3, i4⟩ := hi
  have d1 : decide (0 ≤ p) = true := by simpa using i1
  have d2 : decide (p < (s : Int)) = true := by simpa using i2
  have d3 : decide (0 ≤ n) = true := by simpa using i3
  have d4 : decide (n ≤ (s : Int) - p) = true := by simpa using i4
  go_enter Try.func31, Try.ntmps31
  go_wp2_with fail
  go_ret
  exact ⟨rfl, rfl⟩
set_option maxHeartbeats 800000 in
theorem inside_noW (p n : Int) (hs : s ≤ 100000) (hi : ¬ Inside s p n) :
    Calls Try.prog 31 #[.agg #[.slice A s c, .int .i64 nw, .int .i64 fu, .slice K k kc, .bool dn], .int .i64 p, .int .i64 n] w fun e w' => e = .returned (.bool false) ∧ w.alloc (.cells #[.slice A s c, .int .i64 nw, .int .i64 fu, .slice K k kc, .bool dn] 32) = w' := by
  unfold Inside at hi
  by_cases h1 : 0 ≤ p
  · have d1 : decide (0 ≤ p) = true := by simpa using h1
    by_cases h2 : p < (s : Int)
    · have d2 : decide (p < (s : Int)) = true := by simpa using h2
      by_cases h3 : 0 ≤ n
      · have d3 : decide (0 ≤ n) = true := by simpa using h3
        have h4 : ¬ n ≤ (s : Int) - p := fun h => hi ⟨h1, h2, h3, h⟩
        have d4 : decide (n ≤ (s : Int) - p) = false := by simpa using h4
        clear hi h4
        go_enter Try.func31, Try.ntmps31
        go_wp2_with fail
        go_ret
        exact ⟨rfl, rfl⟩
      · have d3 : decide (0 ≤ n) = false := by simpa using h3
        clear hi
        go_enter Try.func31, Try.ntmps31
        go_wp2_with fail
        go_ret
        exact ⟨rfl, rfl⟩
    · have d2 : decide (p < (s : Int)) = false := by simpa using h2
      clear hi
      go_enter Try.func31, Try.ntmps31
      go_wp2_with fail
      go_ret
      exact ⟨rfl, rfl⟩
  · have d1 : decide (0 ≤ p) = false := by simpa using h1
    clear hi
    go_enter Try.func31, Try.ntmps31
    go_wp2_with fail
    go_ret
    exact ⟨rfl, rfl⟩
set_option maxHeartbeats 800000 in
theorem refWrite_bad (p : Int) (n c2 : Nat) (L : Option Addr) (hs : s ≤ 100000) (hi : ¬ Inside s p n) :
    Calls Try.prog 25 #[.agg #[.slice A s c, .int .i64 nw, .int .i64 fu, .slice K k kc, .bool dn], .int .i64 p, .slice L n c2] w fun e w' => e = .returned (.tuple #[.agg #[.slice A s c, .int .i64 nw, .int .i64 fu, .slice K k kc, .bool dn], .int .i64 2]) ∧ Below w.heap.size w w' := by
  have IN := Lib.hid (fun W => inside_noW A s c nw fu K k kc dn W p n hs hi)
  clear hi
  go_enter Try.func25, Try.ntmps25
  go_wp2_with (go_at_call 31; refine (IN.out _).mono ?_; rintro e w1 ⟨rfl, rfl⟩)
  refine bodyPost_ret (v := .tuple #[.agg #[.slice A s c, .int .i64 nw, .int .i64 fu, .slice K k kc, .bool dn], .int .i64 2]) (by simp [results, Try.results25, go_sem]) rfl ⟨rfl, ?_⟩
  exact (((Below.refl _ _).alloc (Nat.le_refl _) _).alloc (by simp) _).alloc (by simp; omega) _
set_option maxHeartbeats 800000 in
theorem refWrite_down (p : Int) (n c2 : Nat) (L : Option Addr) (hs : s ≤ 100000) (hi : Inside s p n) :
    Calls Try.prog 25 #[.agg #[.slice A s c, .int .i64 nw, .int .i64 fu, .slice K k kc, .bool true], .int .i64 p, .slice L n c2] w fun e w' => e = .returned (.tuple #[.agg #[.slice A s c, .int .i64 nw, .int .i64 fu, .slice K k kc, .bool true], .int .i64 4]) ∧ Below w.heap.size w w' := by
  have IN := Lib.hid (fun W => inside_yesW A s c nw fu K k kc true W p n hs hi)
  clear hi
  go_enter Try.func25, Try.ntmps25
  go_wp2_with (go_at_call 31; refine (IN.out _).mono ?_; rintro e w1 ⟨rfl, rfl⟩)
  refine bodyPost_ret (v := .tuple #[.agg #[.slice A s c, .int .i64 nw, .int .i64 fu, .slice K k kc, .bool true], .int .i64 4]) (by simp [results, Try.results25, go_sem]) rfl ⟨rfl, ?_⟩
  exact (((Below.refl _ _).alloc (Nat.le_refl _) _).alloc (by simp) _).alloc (by simp; omega) _
end
end Go.Proofs.Ytggcfbglfmcdmaa
