/-
  A row of numbers in a block of its own, over which Go's sort of numbers runs: what is read, what a store makes of it; cmp.Less.
  Conditions: none beyond those that each theorem names.
-/
import Derived.Test.YtjbohnnknfcjeaaCE
import Derived.Test.YtjbohnnknfcjeaaSA
import Derived.Sort.LotD3
import Derived.Sort.LotC
import Derived.Sort.LotB
import Derived.Sort.LotD5
import Derived.Sort.Row
namespace Go.Proofs.Ytjbohnnknfcjeaa
open Go.RowKit Go.Shelf Go.Sort
attribute [local go_sem] Oper.semAt_some
set_option maxRecDepth 20000

def ltN (x y : Nat) : Bool := decide (x < y)
theorem swo_ltN : SWO ltN := ⟨fun x => by simp [ltN], fun x y z h1 h2 => by simp [ltN] at *; omega, fun x y z h1 h2 => by simp [ltN] at *; omega⟩
/-- The numbers d lie in block g, from its beginning; behind them lies pad. -/
def Nr (w : World) (g : Nat) (pad : List Value) (d : Array Nat) : Prop := At w g 23 (UC d.toList ++ pad).toArray
section
variable {w w' : World} {g : Nat} {pad : List Value} {d : Array Nat}
theorem Nr.cell (h : Nr w g pad d) {i : Nat} (hi : i < d.size) : w.cell? ⟨g, i, none⟩ = some (.int .u32 (d[i]! : Int)) := by
  have hl : i < d.toList.length := by simpa using hi
  rw [At.cell h, List.getElem?_toArray, List.getElem?_append_left (by rw [UC_length]; exact hl), UC_get _ i hl]
  rw [getElem!_pos d i hi]
  simp
theorem Nr.frozen (h : Nr w g pad d) (i : Nat) : w.frozen? ⟨g, i, none⟩ = false := At.frozen h i
theorem Nr.set (h : Nr w g pad d) {i : Nat} (hi : i < d.size) (x : Nat) : Nr (w.setCell ⟨g, i, none⟩ (.int .u32 (x : Int))) g pad (d.setIfInBounds i x) := by
  have h1 := At.set h i (.int .u32 (x : Int))
  have hl : i < d.toList.length := by simpa using hi
  unfold Nr
  have e : ((UC d.toList ++ pad).toArray.setIfInBounds i (.int .u32 (x : Int))) = (UC (d.setIfInBounds i x).toList ++ pad).toArray := by
    rw [List.setIfInBounds_toArray, List.set_append, if_pos (by rw [UC_length]; exact hl)]
    congr 2
    rw [Array.toList_setIfInBounds]
    simp [UC]
  rw [← e]
  exact h1
theorem Nr.under (h : Nr w g pad d) (hb : Below w.heap.size w w') : Nr w' g pad d := At.under h hb (At.lt h)
theorem Nr.drewN (h : Nr w g pad d) (n : Nat) : Nr (w.drewN n) g pad d := h
theorem Nr.drew (h : Nr w g pad d) : Nr w.drew g pad d := h
theorem Nr.lt (h : Nr w g pad d) : g < w.heap.size := At.lt h
/-- Two stores that exchange two numbers. -/
theorem Nr.swp (h : Nr w g pad d) {i j : Nat} (hi : i < d.size) (hj : j < d.size) : Nr ((w.setCell ⟨g, i, none⟩ (.int .u32 (d[j]! : Int))).setCell ⟨g, j, none⟩ (.int .u32 (d[i]! : Int))) g pad (swp d i j) :=
  (h.set hi d[j]!).set (by simpa using hj) d[i]!
theorem Nr.swp_cell (h : Nr w g pad d) {i j : Nat} (hi : i < d.size) (hj : j < d.size) : (w.setCell ⟨g, i, none⟩ (.int .u32 (d[j]! : Int))).cell? ⟨g, j, none⟩ = some (.int .u32 (d[j]! : Int)) := by
  rw [(h.set hi d[j]!).cell (i := j) (by simpa using hj)]
  by_cases e : j = i
  · subst e
    rw [getElem!_set_same d j _ hj]
  · rw [getElem!_set_other d i j _ e]
end
/-- The same row, other numbers; nothing else has turned. -/
structure Nq (w0 : World) (g : Nat) (pad : List Value) (d : Array Nat) (w : World) : Prop where
  nr : Nr w g pad d
  gr : w0.grownBy w (some g)
section
variable {w0 w w' : World} {g : Nat} {pad : List Value} {d d' : Array Nat}
theorem Nq.refl (h : Nr w g pad d) : Nq w g pad d w := ⟨h, ⟨rfl, rfl, rfl, Nat.le_refl _, fun _ _ _ => rfl⟩⟩
theorem Nq.then (h : Nq w0 g pad d w) (h2 : Nq w g pad d' w') : Nq w0 g pad d' w' := ⟨h2.nr, h.gr.andThen h2.gr (fun _ hj => .inr hj)⟩
theorem Nq.drewN (h : Nq w0 g pad d w) (n : Nat) : Nq w0 g pad d (w.drewN n) := ⟨h.nr.drewN n, ⟨h.gr.os, h.gr.tape, h.gr.output, h.gr.size, h.gr.block⟩⟩
theorem Nq.drew (h : Nq w0 g pad d w) : Nq w0 g pad d w.drew := h.drewN 1
theorem grown_set (h : w0.grownBy w (some g)) {p : Addr} (hp : p.block = g) (u : Value) : w0.grownBy (w.setCell p u) (some g) := by
  refine ⟨h.os, h.tape, h.output, by simpa using h.size, fun k hk hne => ?_⟩
  have hk2 : k ≠ p.block := fun e => hne (by rw [e, hp])
  exact (Below.heap_setCell w p u k hk2).trans (h.block k hk hne)
theorem Nq.swp (h : Nq w0 g pad d w) {i j : Nat} (hi : i < d.size) (hj : j < d.size) : Nq w0 g pad (swp d i j) ((w.setCell ⟨g, i, none⟩ (.int .u32 (d[j]! : Int))).setCell ⟨g, j, none⟩ (.int .u32 (d[i]! : Int))) :=
  ⟨h.nr.swp hi hj, grown_set (grown_set h.gr rfl _) rfl _⟩
theorem Nq.under (h : Nq w0 g pad d w) (hb : Below w.heap.size w w') : Nq w0 g pad d w' := ⟨h.nr.under hb, h.gr.andThen (row' := none) ⟨hb.os, hb.tape, hb.output, hb.size, fun k hk _ => hb.block k hk⟩ (fun _ hj => by cases hj)⟩
end
set_option maxHeartbeats 1000000 in
theorem nanO_any (x : Int) (w : World) : Calls Try.prog 50 #[.int .u32 x] w fun e w' => e = .returned (.bool false) ∧ w = w' := by
  go_enter Try.func50, Try.ntmps50
  go_wp2_with fail
  go_ret
  exact ⟨by simp, rfl⟩
set_option maxHeartbeats 1000000 in
theorem less_any (x y : Nat) (w : World) : Calls Try.prog 40 #[.int .u32 (x : Int), .int .u32 (y : Int)] w fun e w' => e = .returned (.bool (ltN x y)) ∧ w = w' := by
  have e1 : decide ((x : Int) < (y : Int)) = ltN x y := by simp [ltN]
  go_enter Try.func40, Try.ntmps40
  go_wp2_with (go_at_call 50; refine (nanO_any _ _).mono ?_; rintro e w' ⟨rfl, rfl⟩)
  go_ret
  exact ⟨by first | rfl | rw [e1] | (simp [ltN]), rfl⟩
theorem wrapN {k : Nat} (h : k < 9223372036854775808) : IntKind.i64.wrap (k : Int) = (k : Int) := by
  rw [IntKind.wrap_i64]
  omega
end Go.Proofs.Ytjbohnnknfcjeaa
