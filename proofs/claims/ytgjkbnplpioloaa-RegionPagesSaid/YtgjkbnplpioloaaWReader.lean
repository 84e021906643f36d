/-
  Walks: the reader's Text, Num and Noughts.
  Conditions: readers over at most 10000 bytes.
-/
import Derived.Test.YtgjkbnplpioloaaWRead
namespace Go.Proofs.Ytgjkbnplpioloaa
open Go.RowKit
set_option maxRecDepth 8000

theorem Rdr.grown {w w' : World} {g : Nat} {l : List UInt8} {b : Bool} (h : Rdr w g l b) {g' : Nat} (hg : w.grownBy w' (some g')) (hlt : g < g') : Rdr w' g l b :=
  h.kept fun k hk => hg.block k (by have := h.lt; omega) (by intro e; injection e with e; omega)

theorem Rdr.fail {w : World} {g : Nat} {l : List UInt8} {b : Bool} (h : Rdr w g l b) : Rdr (w.setCell ⟨g, 1, none⟩ (.bool true)) g l true := by
  obtain ⟨A, c, hh, hli, hc, hm⟩ := h
  refine ⟨A, c, ?_, hli.setCell (Nat.le_refl _) _, hc, hm⟩
  rw [heap_set w g 1 _ _ _ hh]
  rfl

def ReadNum (w : World) (g : Nat) (n : Int) (l : List UInt8) (b : Bool) (e : Ending) (w' : World) : Prop :=
  e = .returned (.int .u64 n) ∧ Rdr w' g l b ∧ w.grownBy w' (some g)
theorem took_facts {w w1 : World} {k c1 : Nat} {A1 : Option Addr} {l : List UInt8} (ho : w1.ownsRow w.heap.size 5 1 (.slice A1 k c1) k (BC (l.take k))) :
    Lies w1 w1.heap.size 1 A1 k (BC (l.take k)) ∧ k ≤ c1 ∧ c1 ≤ maxLen := by
  have h1 := Lies.of_own ho
  obtain ⟨A2, c2, e2, hc2, hm2⟩ := own_slice ho
  injection e2 with _ _ e3
  subst e3
  exact ⟨h1, hc2, hm2⟩

set_option maxHeartbeats 400000 in
theorem num_fail (g : Nat) (l : List UInt8) (b : Bool) (k : Int) (w : World) (h : Rdr w g l b) (hl : l.length ≤ 10000) (hk : b = true ∨ k < 0 ∨ (l.length : Int) < k) :
    Calls Try.prog 56 #[.pointer (some ⟨g, 0, none⟩), .int .i64 k] w (ReadNum w g 0 l true) := by
  have TF := Lib.hid (take_fail g l b k w h (by omega) hk)
  clear h hk
  go_enter Try.func56, Try.ntmps56
  go_wp2_with (first
    | (go_at_call 62; refine TF.out.mono ?_; rintro e w1 ⟨rfl, hr, hg⟩; have HR := Lib.hid hr; clear hr)
    | (go_at_call 61; refine (get_any 0 0 0 none [] w1 Lies.empty (by omega)).mono ?_; rintro e w2 ⟨rfl, rfl⟩))
  go_ret
  exact ⟨rfl, HR.out, hg⟩

set_option maxHeartbeats 400000 in
theorem num_ok (g : Nat) (l : List UInt8) (k : Nat) (w : World) (h : Rdr w g l false) (hl : l.length ≤ 10000) (hk : k ≤ l.length) :
    Calls Try.prog 56 #[.pointer (some ⟨g, 0, none⟩), .int .i64 k] w (ReadNum w g (getI (l.take k)) (l.drop k) false) := by
  have TF := Lib.hid (take_ok g l k w h (by omega) hk)
  clear h
  go_enter Try.func56, Try.ntmps56
  go_wp2_with (first
    | (go_at_call 62; refine TF.out.mono ?_; rintro e w1 ⟨A1, c1, rfl, ho, hr, hg⟩; have HR := Lib.hid hr; clear hr; have HO := Lib.hid ho; clear ho)
    | (go_at_call 61; refine (get_any _ _ _ _ _ w1 (took_facts HO.out).1 (by omega)).mono ?_; rintro e w2 ⟨rfl, rfl⟩))
  go_ret
  exact ⟨rfl, HR.out, hg⟩

end Go.Proofs.Ytgjkbnplpioloaa
