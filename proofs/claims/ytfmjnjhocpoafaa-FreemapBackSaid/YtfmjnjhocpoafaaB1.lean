/-
  The iterator that freemap's pages makes: the pages that are taken, or those that are free, rising; each once; it stops where a round says so.
  Conditions: maps of at most 120 pages.
-/
import Derived.Test.YtfmjnjhocpoafaaA2
import Derived.Shelf.Abstract
import Derived.Shelf.RegionOpen
import Derived.WalkKit
import Derived.OwnWalkIn
import Derived.TacticsInMore
import Derived.LoopNIn
import Derived.LoopIn
namespace Go.Proofs.Ytfmjnjhocpoafaa
open Go.RowKit Go.Shelf
attribute [local go_sem] Oper.semAt_some

/-- The pages below k that are taken (t), or free. -/
def pg (l : List Bool) (t : Bool) (k : Nat) : List Nat := (List.range k).filter fun i => tk l (i : Int) == t
theorem pg_zero (l : List Bool) (t : Bool) : pg l t 0 = [] := rfl
theorem pg_yes {l : List Bool} {t : Bool} {k : Nat} (h : tk l (k : Int) = t) : pg l t (k + 1) = pg l t k ++ [k] := by
  unfold pg
  rw [List.range_succ, List.filter_append]
  simp [h]
theorem pg_no {l : List Bool} {t : Bool} {k : Nat} (h : tk l (k : Int) = !t) : pg l t (k + 1) = pg l t k := by
  unfold pg
  rw [List.range_succ, List.filter_append]
  simp [h]
theorem pg_pre {l : List Bool} {t : Bool} {k m : Nat} (hkm : k ≤ m) : pg l t k <+: pg l t m := by
  induction m with
  | zero => rw [show k = 0 by omega]; exact List.prefix_refl _
  | succ m ih =>
    by_cases e : k = m + 1
    · rw [e]; exact List.prefix_refl _
    · refine (ih (by omega)).trans ?_
      by_cases h : tk l (m : Int) = t
      · rw [pg_yes h]; exact List.prefix_append _ _
      · rw [pg_no (by cases h' : tk l (m : Int) <;> cases t <;> simp_all)]; exact List.prefix_refl _
theorem pg_le (l : List Bool) (t : Bool) (k : Nat) : (pg l t k).length ≤ k := by
  unfold pg
  have := List.length_filter_le (fun i : Nat => tk l (i : Int) == t) (List.range k)
  simpa using this

theorem below_grown {w w' : World} (h : Below w.heap.size w w') : w.grownBy w' none := ⟨h.os, h.tape, h.output, h.size, fun k hk _ => h.block k hk⟩

/-- The boxes of the map and of the bool that the iterator reads. -/
def Box (W : World) (Bn Cn : Nat) (l : List Bool) (t : Bool) : Prop :=
  W.heap[Bn]? = some (.cells #[.int .i64 (l.length : Nat), .int .u64 (lo l : Nat), .int .u64 (hi l : Nat)] 27 (0, 0)) ∧ W.heap[Cn]? = some (.cells #[.bool t] 4 (0, 0))
theorem Box.cells {W : World} {Bn Cn : Nat} {l : List Bool} {t : Bool} (h : Box W Bn Cn l t) :
    W.cell? ⟨Bn, 0, none⟩ = some (.int .i64 (l.length : Nat)) ∧ W.cell? ⟨Bn, 1, none⟩ = some (.int .u64 (lo l : Nat)) ∧ W.cell? ⟨Bn, 2, none⟩ = some (.int .u64 (hi l : Nat)) ∧ W.cell? ⟨Cn, 0, none⟩ = some (.bool t) := by
  obtain ⟨h1, h2⟩ := h
  simp [World.cell?, h1, h2]
theorem Box.lt {W : World} {Bn Cn : Nat} {l : List Bool} {t : Bool} (h : Box W Bn Cn l t) : Bn < W.heap.size ∧ Cn < W.heap.size :=
  ⟨(Array.getElem?_eq_some_iff.1 h.1).1, (Array.getElem?_eq_some_iff.1 h.2).1⟩
theorem Box.kept {W W' : World} {Bn Cn : Nat} {l : List Bool} {t : Bool} (h : Box W Bn Cn l t) (h1 : W'.heap[Bn]? = W.heap[Bn]?) (h2 : W'.heap[Cn]? = W.heap[Cn]?) : Box W' Bn Cn l t :=
  ⟨h1.trans h.1, h2.trans h.2⟩
theorem Box.below {W W' : World} {Bn Cn : Nat} {l : List Bool} {t : Bool} (h : Box W Bn Cn l t) (hb : Below W.heap.size W W') : Box W' Bn Cn l t :=
  h.kept (hb.block _ h.lt.1) (hb.block _ h.lt.2)

theorem wcall {P : Program} {f : FuncId} {args : Array Value} {w : World} {R : Ending → World → Prop} {n m : Nat} (h : Calls P f args w R) :
    Fence.wide.fn f ∧ (Fence.wide.depth.isSome = true → 1 ≤ n) ∧ CallsIn Fence.wide m P f args w R := ⟨trivial, (fun h => by cases h), callsIn_wide.2 h⟩

/-- What a round must keep for the iterator: its boxes. -/
def KpB (Bn Cn : Nat) (A B : World) : Prop := B.heap[Bn]? = A.heap[Bn]? ∧ B.heap[Cn]? = A.heap[Cn]?
/-- What holds at the head of the iterator's loop. -/
def At (J : List Nat → World → Prop) (Bn Cn : Nat) (l : List Bool) (t : Bool) (k : Nat) (W : World) : Prop := J (pg l t k) W ∧ Box W Bn Cn l t
def RowR (J : List Nat → World → Prop) (Bn Cn : Nat) (l : List Bool) (t : Bool) (v : Value) (W : World) : Prop := ∃ r : Nat, r ≤ l.length ∧ v = .int .i64 (r : Int) ∧ Hid (At J Bn Cn l t r W)
def IterEnd (J Jx : List Nat → World → Prop) (L : List Nat) (e : Ending) (W' : World) : Prop := (∃ v, e = .returned v) ∧ ((∃ ys, ys = L ∧ J ys W') ∨ (∃ pre, pre <+: L ∧ Jx pre W'))

set_option maxRecDepth 100000 in
set_option maxHeartbeats 4000000 in
theorem iter_any (n : Nat) (L Bn Cn : Nat) (l : List Bool) (t : Bool) (hn : l.length ≤ 120) (J Jx : List Nat → World → Prop)
    (hY : ∀ pre x W, J pre W → pre.length < (pg l t l.length).length → YieldAt Fence.wide (n - 1) Try.prog L #[.int .i64 ((x : Nat) : Int)] W fun e W' =>
      (e = .returned (.bool true) ∧ J (pre ++ [x]) W' ∧ KpB Bn Cn W W') ∨ (e = .returned (.bool false) ∧ Jx (pre ++ [x]) W'))
    (W : World) (hJ : AbidesFrom W.heap.size J) (hB : Box W Bn Cn l t) (h0 : J [] W) :
    CallsIn Fence.wide n Try.prog 23 #[.func (.yield L) #[] #[], .pointer (some ⟨Bn, 0, none⟩), .pointer (some ⟨Cn, 0, none⟩)] W (IterEnd J Jx (pg l t l.length)) := by
  obtain ⟨c0, c1, c2, c3⟩ := hB.cells
  refine callsIn_of_wp Try.func23 rfl trivial ?_ rfl
  simp only [Try.ntmps23, List.size_toArray, List.length_cons, List.length_nil, Nat.reduceAdd, Nat.reduceSub, Array.replicate_succ, Array.replicate_zero, List.push_toArray, List.append_toArray, List.nil_append, List.cons_append]
  have hmx : Try.prog.follows .mixedOrders = true := by kernel_rfl
  gi_wp2_with fail
  gi_loopw [7] (fun v wr => RowR J Bn Cn l t v wr) (fun v _ => l.length - (intOf v).toNat)
  case atStart => exact ⟨0, Nat.zero_le _, rfl, h0, hB⟩
  case round =>
    clear c0 c1 c2 c3 hB h0
    obtain ⟨k, hk0, rfl, hA⟩ := hrel
    obtain ⟨c0, c1, c2, c3⟩ := hA.out.2.cells
    by_cases hlt : k < l.length
    · by_cases ht : tk l (k : Int) = t
      · have hyes := pg_yes ht
        have hlen : (pg l t k).length < (pg l t l.length).length := by
          have := (pg_pre (l := l) (t := t) (show k + 1 ≤ l.length by omega)).length_le
          rw [hyes] at this
          simp at this
          omega
        have HT := Lib.hid ht
        have HYS := Lib.hid hyes
        have HY := Lib.hid hY
        have tt : (t == t) = true := by simp
        clear ht hyes hY
        gi_wp2_with fail
        gi_region_with_o (first
          | (refine wcall ((taken_is HT.out hn _).mono ?_); rintro e w1 ⟨rfl, h1⟩
             have hA1 : Hid (At J Bn Cn l t k w1) := ⟨hJ _ _ _ none hA.out.1 (below_grown ((Below.refl _ wr).drew.trans h1)) (fun r e => by cases e), hA.out.2.below ((Below.refl _ wr).drew.trans h1)⟩
             obtain ⟨d0, d1, d2, d3⟩ := hA1.out.2.cells
             obtain ⟨fn, tmps, assign, body, hy, hR⟩ := HY.out _ k _ hA1.out.1 hlen
             clear h1)
          | (refine ⟨(fun h => by cases h), hR.mono ?_⟩; clear hy hR
             rintro e w2 hh
             obtain ⟨b, rfl, h2⟩ : ∃ b, e = .returned (.bool b) ∧ ((b = true ∧ J (pg l t k ++ [k]) w2 ∧ KpB Bn Cn _ w2) ∨ (b = false ∧ Jx (pg l t k ++ [k]) w2)) := by
               rcases hh with ⟨e, h⟩ | ⟨e, h⟩
               · exact ⟨true, e, .inl ⟨rfl, h⟩⟩
               · exact ⟨false, e, .inr ⟨rfl, h⟩⟩
             have H2 := Lib.hid h2
             clear hh h2))
        all_goals
          rcases H2.out with ⟨rfl, hJ2, hk2⟩ | ⟨rfl, hJx⟩
          · have hA2 : Hid (At J Bn Cn l t (k + 1) w2) := ⟨by rw [HYS.out]; exact hJ2, hA1.out.2.kept hk2.1 hk2.2⟩
            clear hJ2 hk2 H2
            gi_wp2_with fail
            go_roundw
            case rel => exact ⟨k + 1, by omega, by go_num, hA2⟩
            case measure => simp [intOf]; omega
          · have HX := Lib.hid hJx
            clear hJx H2
            gi_wp2_with fail
            refine bodyPost_ret (results_none rfl _ _ _) rfl ?_
            refine ⟨⟨_, rfl⟩, .inr ⟨_, ?_, HX.out⟩⟩
            rw [← HYS.out]
            exact pg_pre (by omega)
      · have ht' : tk l (k : Int) = !t := by cases h' : tk l (k : Int) <;> cases t <;> simp_all
        have hno := pg_no ht'
        have HT := Lib.hid ht'
        have HN := Lib.hid hno
        have tt : ((!t) == t) = false := by cases t <;> rfl
        clear ht ht' hno hY
        gi_wp2_with fail
        refine region_wide (S := fun z => Box z Bn Cn l t) (by kernel_rfl) (hA.out.2.below (Below.refl _ wr).drew) (fun hS => ?_)
        refine takeH (i := 0) (d := 10) (v := ?vq0) rfl (by kernel_rfl) (by kernel_rfl) (by kernel_rfl) (fun _ _ _ h => h) rfl (by rfl) ?yq0 hS ?rq0
        case yq0 => (intro wz hz; obtain ⟨e0, e1, e2, e3⟩ := hz.cells; go_simp <;> with_reducible rfl)
        simp only [List.setIfInBounds_toArray, List.set_cons_zero, List.set_cons_succ]
        refine takeH (i := 1) (d := 11) (v := ?vq1) rfl (by kernel_rfl) (by kernel_rfl) (by kernel_rfl) (fun _ _ _ h => h) rfl (by rfl) ?yq1 hS ?rq1
        case yq1 => (intro wz hz; obtain ⟨e0, e1, e2, e3⟩ := hz.cells; go_simp <;> with_reducible rfl)
        simp only [List.setIfInBounds_toArray, List.set_cons_zero, List.set_cons_succ]
        refine takeH (i := 3) (d := 13) (v := ?vq3) rfl (by kernel_rfl) (by kernel_rfl) (by kernel_rfl) (fun _ _ _ h => h) rfl (by rfl) ?yq3 hS ?rq3
        case yq3 => (intro wz hz; obtain ⟨e0, e1, e2, e3⟩ := hz.cells; go_simp <;> with_reducible rfl)
        simp only [List.setIfInBounds_toArray, List.set_cons_zero, List.set_cons_succ]
        refine wpAnyH_ready (rs := [2]) (by kernel_rfl) (by simp) ?_
        refine AllReadyH.cons rfl (fun K hK => ?_) AllReadyH.nil
        go_simp
        refine (taken_is HT.out hn _).mono ?_
        rintro e w1 ⟨rfl, h1⟩
        refine hK.out _ _ (hS.below h1) (fun hT => ?_)
        clear hK  hS
        have hS := hT
        clear hT
        refine takeH (i := 4) (d := 14) (v := ?vq4) rfl (by kernel_rfl) (by kernel_rfl) (by kernel_rfl) (fun _ _ _ h => h) rfl (by rfl) ?yq4 hS ?rq4
        case yq4 => (intro wz hz; obtain ⟨e0, e1, e2, e3⟩ := hz.cells; go_simp <;> with_reducible rfl)
        simp only [List.setIfInBounds_toArray, List.set_cons_zero, List.set_cons_succ]
        refine takeH (i := 5) (d := 15) (v := ?vq5) rfl (by kernel_rfl) (by kernel_rfl) (by kernel_rfl) (fun _ _ _ h => h) rfl (by rfl) ?yq5 hS ?rq5
        case yq5 => (intro wz hz; obtain ⟨e0, e1, e2, e3⟩ := hz.cells; go_simp <;> with_reducible rfl)
        simp only [List.setIfInBounds_toArray, List.set_cons_zero, List.set_cons_succ]
        refine skipH (i := 6) (d := 16) rfl (by kernel_rfl) (by kernel_rfl) (by kernel_rfl) (fun _ _ _ h => h) rfl (by rfl) hS ?_
        simp only [List.setIfInBounds_toArray, List.set_cons_zero, List.set_cons_succ]
        refine skipH (i := 7) (d := 17) rfl (by kernel_rfl) (by kernel_rfl) (by kernel_rfl) (fun _ _ _ h => h) rfl (by rfl) hS ?_
        simp only [List.setIfInBounds_toArray, List.set_cons_zero, List.set_cons_succ]
        refine skipH (i := 8) (d := 18) rfl (by kernel_rfl) (by kernel_rfl) (by kernel_rfl) (fun _ _ _ h => h) rfl (by rfl) hS ?_
        simp only [List.setIfInBounds_toArray, List.set_cons_zero, List.set_cons_succ]
        refine skipH (i := 9) (d := 19) rfl (by kernel_rfl) (by kernel_rfl) (by kernel_rfl) (fun _ _ _ h => h) rfl (by rfl) hS ?_
        simp only [List.setIfInBounds_toArray, List.set_cons_zero, List.set_cons_succ]
        refine takeH (i := 10) (d := 20) (v := ?vq10) rfl (by kernel_rfl) (by kernel_rfl) (by kernel_rfl) (fun _ _ _ h => h) rfl (by rfl) ?yq10 hS ?rq10
        case yq10 => (intro wz hz; obtain ⟨e0, e1, e2, e3⟩ := hz.cells; go_simp <;> with_reducible rfl)
        simp only [List.setIfInBounds_toArray, List.set_cons_zero, List.set_cons_succ]
        refine wpAnyH_done (by kernel_rfl) ?_ _
        refine only_done ?_
        have hA1 : Hid (At J Bn Cn l t k w1) := ⟨hJ _ _ _ none hA.out.1 (below_grown ((Below.refl _ wr).drew.trans h1)) (fun r e => by cases e), hS⟩
        clear h1 hS
        gi_wp2_with fail
        go_roundw
        case rel => exact ⟨k + 1, by omega, by go_num, by have := hA1; unfold At at this ⊢; rw [HN.out]; exact this⟩
        case measure => simp [intOf]; omega
    · gi_wp2_with fail
      go_end0
      refine ⟨⟨_, rfl⟩, .inl ⟨_, rfl, ?_⟩⟩
      rw [show l.length = k by omega]
      exact hA.out.1
end Go.Proofs.Ytfmjnjhocpoafaa
