/-
  Walks: the reader: Read, Left, Right, Take.
  Conditions: readers over at most 10000 bytes.
-/
import Derived.Test.YtgjkbnplpioloaaWPut3
namespace Go.Proofs.Ytgjkbnplpioloaa
open Go.RowKit
set_option maxRecDepth 8000

/-- Block g is a Reader with the bytes l ahead. -/
def Rdr (w : World) (g : Nat) (l : List UInt8) (failed : Bool) : Prop :=
  ∃ A c, w.heap[g]? = some (.cells #[.slice A l.length c, .bool failed] 101 (0, 0)) ∧ Lies w g 1 A l.length (BC l) ∧ l.length ≤ c ∧ c ≤ maxLen

section
variable {w w' : World} {g : Nat} {l : List UInt8} {b : Bool}
theorem Rdr.kept (h : Rdr w g l b) (hg : ∀ k, k ≤ g → w'.heap[k]? = w.heap[k]?) : Rdr w' g l b := by
  obtain ⟨A, c, hh, hl, hc, hm⟩ := h
  exact ⟨A, c, by rw [hg g (Nat.le_refl _)]; exact hh, hl.of_cells fun p hp => World.cell?_of_block (hg p.block (by omega)), hc, hm⟩
theorem Rdr.lt (h : Rdr w g l b) : g < w.heap.size := by
  obtain ⟨A, c, hh, _⟩ := h
  exact (Array.getElem?_eq_some_iff.1 hh).1
theorem Rdr.below (h : Rdr w g l b) (hb : Below w.heap.size w w') : Rdr w' g l b :=
  h.kept fun k hk => hb.block k (by have := h.lt; omega)
end

theorem grown_refl (w : World) (r : Option Nat) : w.grownBy w r := ⟨rfl, rfl, rfl, Nat.le_refl _, fun _ _ _ => rfl⟩
theorem grown_below {w w' : World} (h : Below w.heap.size w w') (r : Option Nat) : w.grownBy w' r := ⟨h.os, h.tape, h.output, h.size, fun k hk _ => h.block k hk⟩
theorem grown_set (w : World) (g i : Nat) (u : Value) : w.grownBy (w.setCell ⟨g, i, none⟩ u) (some g) :=
  ⟨rfl, rfl, rfl, by simp [World.setCell], fun k _ hne => Below.heap_setCell w _ u k (fun e => hne (by rw [e]))⟩
theorem below_grown {B g : Nat} {a w w' : World} (h : Below B a w) (hg : w.grownBy w' (some g)) (hB : B ≤ w.heap.size) (hBg : B ≤ g) : Below B a w' :=
  h.grown hg hB fun k hk => by injection hk with hk; omega
theorem heap_set (w : World) (g i : Nat) (cs : Array Value) (t : TypeId) (u : Value) (h : w.heap[g]? = some (.cells cs t (0, 0))) :
    (w.setCell ⟨g, i, none⟩ u).heap[g]? = some (.cells (cs.setIfInBounds i u) t (0, 0)) := by
  simp [World.setCell, Array.getElem?_modify, h]

set_option maxHeartbeats 400000 in
theorem read_any (B n c : Nat) (A : Option Addr) (l : List UInt8) (w : World) (h : Lies w B 1 A n (BC l)) (hB : B ≤ w.heap.size) (hn : n ≤ 100000) :
    Calls Try.prog 55 #[.slice A n c] w fun e w' => ∃ g, e = .returned (.pointer (some ⟨g, 0, none⟩)) ∧ w.heap.size ≤ g ∧ Rdr w' g l false ∧ Below w.heap.size w w' := by
  have CL := Lib.hid (clone_any B n c A l w h hB hn)
  clear h
  go_enter Try.func55, Try.ntmps55
  go_wp2_with (go_at_call 60; refine CL.out.mono ?_; rintro e w1 ⟨A1, c1, rfl, ho, hb⟩; have HO := Lib.hid ho; clear ho)
  go_ret
  have hl := Lies.of_own HO.out
  obtain ⟨A2, c2, e2, hc2, hm2⟩ := own_slice HO.out
  injection e2 with _ _ e3
  subst e3
  exact ⟨w1.heap.size, rfl, hb.size, ⟨A1, c1, heap_alloc_new w1 _, hl.alloc (Nat.le_refl _) _, hc2, hm2⟩, hb.alloc hb.size _⟩

set_option maxHeartbeats 400000 in
theorem right_any (g : Nat) (l : List UInt8) (b : Bool) (w : World) (h : Rdr w g l b) :
    Calls Try.prog 58 #[.pointer (some ⟨g, 0, none⟩)] w fun e w' => e = .returned (.bool (!b)) ∧ w = w' := by
  obtain ⟨A, c, hh, _, _⟩ := h
  have h0 : w.cell? ⟨g, 1, none⟩ = some (.bool b) := cell_of_row w g 1 _ _ _ hh
  clear hh
  go_enter Try.func58, Try.ntmps58
  go_wp2
  go_ret
  exact ⟨rfl, rfl⟩

/-- What stands behind a Take that failed. -/
def TookNone (w : World) (g : Nat) (l : List UInt8) (e : Ending) (w' : World) : Prop :=
  e = .returned (.slice none 0 0) ∧ Rdr w' g l true ∧ w.grownBy w' (some g)

set_option maxHeartbeats 400000 in
theorem take_fail (g : Nat) (l : List UInt8) (b : Bool) (k : Int) (w : World) (h : Rdr w g l b) (_hl : l.length ≤ 100000) (hk : b = true ∨ k < 0 ∨ (l.length : Int) < k) :
    Calls Try.prog 62 #[.pointer (some ⟨g, 0, none⟩), .int .i64 k] w (TookNone w g l) := by
  obtain ⟨A, c, hh, hli, hc, hm⟩ := h
  have h0 : w.cell? ⟨g, 0, none⟩ = some (.slice A l.length c) := cell_of_row w g 0 _ _ _ hh
  have h1 : w.cell? ⟨g, 1, none⟩ = some (.bool b) := cell_of_row w g 1 _ _ _ hh
  have hf : w.frozen? ⟨g, 1, none⟩ = false := by simp [World.frozen?, hh]
  have fin : TookNone w g l (.returned (.slice none 0 0)) (w.setCell ⟨g, 1, none⟩ (.bool true)) := by
    refine ⟨rfl, ⟨A, c, ?_, hli.setCell (Nat.le_refl _) _, hc, hm⟩, grown_set w g 1 _⟩
    rw [heap_set w g 1 _ _ _ hh]
    rfl
  have FIN := Lib.hid fin
  clear fin hh hli
  cases b with
  | true =>
    go_enter Try.func62, Try.ntmps62
    go_wp2_with fail
    go_ret
    exact FIN.out
  | false =>
    by_cases hk0 : k < 0
    · go_enter Try.func62, Try.ntmps62
      go_wp2_with fail
      go_ret
      exact FIN.out
    · have hk1 : (l.length : Int) < k := by
        rcases hk with hk | hk | hk
        · cases hk
        · omega
        · exact hk
      go_enter Try.func62, Try.ntmps62
      go_wp2_with fail
      go_ret
      exact FIN.out

def Took (w : World) (g : Nat) (l : List UInt8) (k : Nat) (e : Ending) (w' : World) : Prop :=
  ∃ A c, e = .returned (.slice A k c) ∧ w'.ownsRow w.heap.size 5 1 (.slice A k c) k (BC (l.take k)) ∧ Rdr w' g (l.drop k) false ∧ w.grownBy w' (some g)

theorem took_mk {w w1 : World} {g k c c1 c2 : Nat} {A A1 A2 : Option Addr} {l : List UInt8} (hg : g < w.heap.size)
    (hh : w.heap[g]? = some (.cells #[.slice A l.length c, .bool false] 101 (0, 0))) (hli : Lies w g 1 A l.length (BC l)) (hk : k ≤ l.length)
    (ho : w1.ownsRow w.heap.size 5 1 (.slice A1 (l.take k).length c1) (l.take k).length (BC (l.take k))) (hb : Below w.heap.size w w1)
    (hA : k < l.length → A2 = A.map (·.add k)) (hc : l.length - k ≤ c2) (hm : c2 ≤ maxLen) :
    Took w g l k (.returned (.slice A1 k c1)) (w1.setCell ⟨g, 0, none⟩ (.slice A2 (l.length - k) c2)) := by
  have hlt : (l.take k).length = k := by rw [List.length_take]; omega
  rw [hlt] at ho
  have hd : (l.drop k).length = l.length - k := by rw [List.length_drop]
  have hh1 : w1.heap[g]? = some (.cells #[.slice A l.length c, .bool false] 101 (0, 0)) := by rw [hb.block g hg]; exact hh
  refine ⟨A1, c1, rfl, ownsRow_setCell_below ho hg _, ⟨A2, c2, ?_, ?_, by rw [hd]; exact hc, hm⟩, (grown_below hb _).trans (grown_set w1 g 0 _)⟩
  · rw [heap_set w1 g 0 _ _ _ hh1, hd]
    rfl
  · have h1 : Lies w1 g 1 A l.length (BC l) := hli.under (hb.mono (Nat.le_of_lt hg))
    have h2 := (h1.setCell (p := ⟨g, 0, none⟩) (Nat.le_refl _) (.slice A2 (l.length - k) c2)).tail hk A2 hA
    rw [BC_drop] at h2
    rw [hd]
    exact h2

set_option maxHeartbeats 400000 in
theorem take_ok (g : Nat) (l : List UInt8) (k : Nat) (w : World) (h : Rdr w g l false) (hl : l.length ≤ 100000) (hk : k ≤ l.length) :
    Calls Try.prog 62 #[.pointer (some ⟨g, 0, none⟩), .int .i64 k] w (Took w g l k) := by
  have HR := Lib.hid h
  obtain ⟨A, c, hh, hli, hc, hm⟩ := h
  have hgs : g ≤ w.heap.size := Nat.le_of_lt HR.out.lt
  have h0 : w.cell? ⟨g, 0, none⟩ = some (.slice A l.length c) := cell_of_row w g 0 _ _ _ hh
  have h1 : w.cell? ⟨g, 1, none⟩ = some (.bool false) := cell_of_row w g 1 _ _ _ hh
  have HH := Lib.hid hh
  have hli2 : Lies w g 1 A k (BC (l.take k)) := by rw [← BC_take]; exact hli.head hk
  have CL := Lib.hid (fun c => clone_any g k c A (l.take k) w hli2 hgs (by omega))
  have HLI := Lib.hid hli
  clear hh hli hli2
  have n0 : ¬ ((k : Int) < 0) := by omega
  have n1 : ¬ ((l.length : Int) < (k : Int)) := by omega
  unfold maxLen at hm
  go_enter Try.func62, Try.ntmps62
  go_wp2_with (go_at_call 60
               refine (CL.out _).mono ?_
               rintro e w1 ⟨A1, c1, rfl, ho, hb⟩
               have HO := Lib.hid ho
               clear ho
               have hcw := hb.cell (p := ⟨g, 0, none⟩) HR.out.lt
               rw [h0] at hcw
               have hfw : w1.frozen? ⟨g, 0, none⟩ = false := by rw [hb.frozen (p := ⟨g, 0, none⟩) HR.out.lt]; simp [World.frozen?, HH.out])
  all_goals
    go_ret
    refine took_mk HR.out.lt HH.out HLI.out hk HO.out hb ?_ ?_ ?_
  · intro hlt; omega
  · omega
  · simp [maxLen]
  · intro _; rfl
  · omega
  · simp only [maxLen]; omega
end Go.Proofs.Ytgjkbnplpioloaa
