/-
  The law WalDoes whatever came in.
  Conditions: none beyond those that each theorem names.
-/
import Derived.Test.YthicidpdgggbjaaDoorK35Q
namespace Go.Proofs.YthicidpdgggbjaaDoor
open Go.RowKit
set_option maxRecDepth 20000

set_option maxHeartbeats 1600000 in
theorem does_out (size : Int) (AO : Option Addr) (N cO : Nat) (os : List Ao) (w : World) (hO : AOz (fun k => w.heap.size ≤ k) w AO N os) (hi : ∀ o ∈ os, AoIn o) (hn : N ≤ maxLen) (hs : decide (size < 1) = true ∨ (decide (size < 1) = false ∧ decide (400 < size) = true)) :
    Calls Tryd.prog 3 #[.int .i64 size, .slice AO N cO] w (RetQ w true) := by
  have HO := Lib.hid hO
  have HI := Lib.hid hi
  have HNM := Lib.hid hn
  have HS := Lib.hid hs
  clear hO hi hn hs
  go_enter Tryd.func3, Tryd.ntmps3
  go_wp2_with fail
  refine (lightO_any _ AO N cO os w HO.out HI.out HNM.out).mono ?_
  rintro e z1 ⟨lt, rfl, hb1, _⟩
  have HB1 := Lib.hid hb1
  clear hb1
  cases lt
  · go_wp2_with fail
    refine (works_any z1).mono ?_
    rintro e z2 ⟨rfl, hb2⟩
    have HB2 := Lib.hid (HB1.out.trans (hb2.mono HB1.out.size))
    clear hb2
    go_wp2_with fail
    go_ret
    exact ⟨rfl, HB2.out⟩
  · rcases HS.out with d1 | ⟨d1, d2⟩
    · go_wp2_with fail
      refine (works_any z1).mono ?_
      rintro e z2 ⟨rfl, hb2⟩
      have HB2 := Lib.hid (HB1.out.trans (hb2.mono HB1.out.size))
      clear hb2
      go_wp2_with fail
      go_ret
      exact ⟨rfl, HB2.out⟩
    · go_wp2_with fail
      refine (works_any z1).mono ?_
      rintro e z2 ⟨rfl, hb2⟩
      have HB2 := Lib.hid (HB1.out.trans (hb2.mono HB1.out.size))
      clear hb2
      go_wp2_with fail
      go_ret
      exact ⟨rfl, HB2.out⟩
theorem does_law (size : Int) (AO : Option Addr) (cO : Nat) (os : List Ao) (w : World) (hO : AOz (fun k => w.heap.size ≤ k) w AO os.length os) (hi : ∀ o ∈ os, AoIn o) (hn : os.length ≤ maxLen) :
    Calls Tryd.prog 3 #[.int .i64 size, .slice AO os.length cO] w (RetQ w true) := by
  by_cases h1 : size < 1
  · exact does_out size AO _ cO os w hO hi hn (.inl (by simp; omega))
  · by_cases h2 : 400 < size
    · exact does_out size AO _ cO os w hO hi hn (.inr ⟨by simp; omega, by simp; omega⟩)
    · obtain ⟨s, rfl⟩ : ∃ s : Nat, size = (s : Int) := ⟨size.toNat, by omega⟩
      exact does_yes s AO _ cO os w hO hi hn (by omega) (by omega)
end Go.Proofs.YthicidpdgggbjaaDoor
