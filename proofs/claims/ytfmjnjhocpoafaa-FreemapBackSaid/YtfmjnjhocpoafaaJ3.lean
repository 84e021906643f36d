/-
  The law FreemapBack, over every number of pages and every slice of numbers.
  Conditions: none.
-/
import Derived.Test.YtfmjnjhocpoafaaJ2
namespace Go.Proofs.Ytfmjnjhocpoafaa
open Go.RowKit
theorem back_law (a0 : Int) (a1 : Option Addr) (len1 cap1 : Nat) (z1 : List Int) (w : World) (w1 : IsRow .i64 w a1 len1 cap1 z1) :
    Calls Try.prog 4 #[.int .i64 a0, .slice a1 len1 cap1] w fun e w' => e = .returned (.bool true) ∧ Below w.heap.size w w' := by
  obtain ⟨L, rfl, hL, _⟩ := ints_of_row w1
  by_cases hb : 150 < L.length ∨ 200 < a0
  · exact back_big a0 a1 L.length cap1 w hb
  · rcases ofR_ok a0 L with ⟨hok, m, hr, hom⟩ | ⟨hok, hr⟩
    · exact back_some a0 L a1 cap1 w hL (by omega) (by omega) m hr hom hok
    · exact back_none a0 L a1 cap1 w hL (by omega) (by omega) hr hok
end Go.Proofs.Ytfmjnjhocpoafaa
