/-
  Walks: the reader's Text, Num and Noughts.
  Conditions: readers over at most 10000 bytes.
-/
import Derived.Test.YtpffnjnncgmgnaaWField
namespace Go.Proofs.Ytpffnjnncgmgnaa
open Go.RowKit
set_option maxRecDepth 8000

theorem took_facts {w w1 : World} {k c1 : Nat} {A1 : Option Addr} {l : List UInt8} (ho : w1.ownsRow w.heap.size 5 1 (.slice A1 k c1) k (BC (l.take k))) :
    Lies w1 w1.heap.size 1 A1 k (BC (l.take k)) ∧ k ≤ c1 ∧ c1 ≤ maxLen := by
  have h1 := Lies.of_own ho
  obtain ⟨A2, c2, e2, hc2, hm2⟩ := own_slice ho
  injection e2 with _ _ e3
  subst e3
  exact ⟨h1, hc2, hm2⟩

set_option maxHeartbeats 400000 in
theorem rtext_yes (g : Nat) (l s : List UInt8) (k : Nat) (w : World) (h : Rdr w g l false) (hl : l.length ≤ 10000) (hk : k ≤ l.length) (hp : parseF (l.take k) = some s) :
    Calls Try.prog 65 #[.pointer (some ⟨g, 0, none⟩), .int .i64 k] w (ReadText w g s (l.drop k) false) := by
  have TF := Lib.hid (take_ok g l k w h (by omega) hk)
  have e1 : fldS (l.take k) = s := by rw [fldS, hp]; rfl
  have e2 : fldB (l.take k) = true := by rw [fldB, hp]; rfl
  have PA : Hid (∀ (W : World) (A : Option Addr) (c : Nat), Lies W W.heap.size 1 A k (BC (l.take k)) ∧ k ≤ c ∧ c ≤ maxLen → Calls Try.prog 68 #[.slice A k c] W fun e w' =>
      e = .returned (.tuple #[.string (strOf s), .bool true]) ∧ Below W.heap.size W w') := by
    rintro W A c ⟨h1, h2, h3⟩
    refine (parse_any W.heap.size k c A (l.take k) W h1 (by omega) h2 h3).mono ?_
    rintro e w' ⟨he, hb⟩
    rw [e1, e2] at he
    exact ⟨he, hb⟩
  clear h hp e1 e2
  go_enter Try.func65, Try.ntmps65
  go_wp2_with (first
    | (go_at_call 63; refine TF.out.mono ?_; rintro e w1 ⟨A1, c1, rfl, ho, hr, hg⟩; have HR := Lib.hid hr; clear hr; have HO := Lib.hid ho; clear ho)
    | (go_at_call 68; refine (PA.out _ _ _ (took_facts HO.out)).mono ?_; rintro e w2 ⟨rfl, hb⟩; have HB := Lib.hid hb))
  go_ret
  exact ⟨rfl, HR.out.below HB.out, hg.trans (grown_below HB.out _)⟩

set_option maxHeartbeats 400000 in
theorem rtext_no (g : Nat) (l : List UInt8) (k : Nat) (w : World) (h : Rdr w g l false) (hl : l.length ≤ 10000) (hk : k ≤ l.length) (hp : parseF (l.take k) = none) :
    Calls Try.prog 65 #[.pointer (some ⟨g, 0, none⟩), .int .i64 k] w (ReadText w g [] (l.drop k) true) := by
  have TF := Lib.hid (take_ok g l k w h (by omega) hk)
  have e1 : fldS (l.take k) = [] := by rw [fldS, hp]; rfl
  have e2 : fldB (l.take k) = false := by rw [fldB, hp]; rfl
  have PA : Hid (∀ (W : World) (A : Option Addr) (c : Nat), Lies W W.heap.size 1 A k (BC (l.take k)) ∧ k ≤ c ∧ c ≤ maxLen → Calls Try.prog 68 #[.slice A k c] W fun e w' =>
      e = .returned (.tuple #[.string (strOf []), .bool false]) ∧ Below W.heap.size W w') := by
    rintro W A c ⟨h1, h2, h3⟩
    refine (parse_any W.heap.size k c A (l.take k) W h1 (by omega) h2 h3).mono ?_
    rintro e w' ⟨he, hb⟩
    rw [e1, e2] at he
    exact ⟨he, hb⟩
  clear h hp e1 e2
  go_enter Try.func65, Try.ntmps65
  go_wp2_with (first
    | (go_at_call 63; refine TF.out.mono ?_; rintro e w1 ⟨A1, c1, rfl, ho, hr, hg⟩; have HR := Lib.hid hr; clear hr; have HO := Lib.hid ho; clear ho)
    | (go_at_call 68; refine (PA.out _ _ _ (took_facts HO.out)).mono ?_; rintro e w2 ⟨rfl, hb⟩; have HB := Lib.hid hb
       have HR2 := Lib.hid (HR.out.below hb)
       obtain ⟨A2, c2, hh2, _⟩ := HR2.out
       have hc2 : w2.cell? ⟨g, 1, none⟩ = some (.bool false) := cell_of_row w2 g 1 _ _ _ hh2
       have hf2 : w2.frozen? ⟨g, 1, none⟩ = false := by simp [World.frozen?, hh2]
       clear hh2))
  go_ret
  exact ⟨rfl, HR2.out.fail, (hg.trans (grown_below HB.out _)).trans (grown_set w2 g 1 _)⟩

set_option maxHeartbeats 400000 in
theorem num_fail (g : Nat) (l : List UInt8) (b : Bool) (k : Int) (w : World) (h : Rdr w g l b) (hl : l.length ≤ 10000) (hk : b = true ∨ k < 0 ∨ (l.length : Int) < k) :
    Calls Try.prog 51 #[.pointer (some ⟨g, 0, none⟩), .int .i64 k] w (ReadNum w g 0 l true) := by
  have TF := Lib.hid (take_fail g l b k w h (by omega) hk)
  clear h hk
  go_enter Try.func51, Try.ntmps51
  go_wp2_with (first
    | (go_at_call 63; refine TF.out.mono ?_; rintro e w1 ⟨rfl, hr, hg⟩; have HR := Lib.hid hr; clear hr)
    | (go_at_call 62; refine (get_any 0 0 0 none [] w1 Lies.empty (by omega)).mono ?_; rintro e w2 ⟨rfl, rfl⟩))
  go_ret
  exact ⟨rfl, HR.out, hg⟩

set_option maxHeartbeats 400000 in
theorem num_ok (g : Nat) (l : List UInt8) (k : Nat) (w : World) (h : Rdr w g l false) (hl : l.length ≤ 10000) (hk : k ≤ l.length) :
    Calls Try.prog 51 #[.pointer (some ⟨g, 0, none⟩), .int .i64 k] w (ReadNum w g (getI (l.take k)) (l.drop k) false) := by
  have TF := Lib.hid (take_ok g l k w h (by omega) hk)
  clear h
  go_enter Try.func51, Try.ntmps51
  go_wp2_with (first
    | (go_at_call 63; refine TF.out.mono ?_; rintro e w1 ⟨A1, c1, rfl, ho, hr, hg⟩; have HR := Lib.hid hr; clear hr; have HO := Lib.hid ho; clear ho)
    | (go_at_call 62; refine (get_any _ _ _ _ _ w1 (took_facts HO.out).1 (by omega)).mono ?_; rintro e w2 ⟨rfl, rfl⟩))
  go_ret
  exact ⟨rfl, HR.out, hg⟩

end Go.Proofs.Ytpffnjnncgmgnaa
