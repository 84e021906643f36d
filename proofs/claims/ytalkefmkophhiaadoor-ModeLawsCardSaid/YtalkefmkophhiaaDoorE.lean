/-
  The walk of the law ModeTells.
  Conditions: the tables lie in their variables.
-/
import Derived.Test.YtalkefmkophhiaaDoorD
namespace Go.Proofs.YtalkefmkophhiaaDoor
open Go.RowKit

theorem nm_some : ∀ u : Fin 6, (⟨(nmN u.val).toArray⟩ : ByteArray).toList ≠ [] := by decide +kernel

set_option maxHeartbeats 1000000 in
theorem tells_core (a b : Int) (x d1 d2 t c : Bool) (j v : Int) (s : ByteArray) (w : World) (HT : Hid (Tab w))
    (h1 : decide (0 ≤ a) = d1) (h2 : decide (a ≤ 5) = d2) (hx : (d1 && d2) = x) (hs : s.toList = [] ↔ x = false)
    (c1 : Hid (∀ W, Calls Tryd.prog 5 #[.int .i64 a] W fun e w' => e = .returned (.bool x) ∧ W = w'))
    (c2 : Hid (∀ W, Tab W → Calls Tryd.prog 6 #[.int .i64 a, .int .i64 b] W fun e w' => e = .returned (.bool t) ∧ W = w'))
    (c3 : Hid (∀ W, Calls Tryd.prog 7 #[.int .i64 a, .int .i64 b] W fun e w' => e = .returned (.bool t) ∧ W = w'))
    (c4 : Hid (∀ W, Tab W → Calls Tryd.prog 8 #[.int .i64 a, .int .i64 b] W (RD W (.bool c))))
    (c5 : Hid (∀ W, Calls Tryd.prog 9 #[.int .i64 a, .int .i64 b] W fun e w' => e = .returned (.bool c) ∧ W = w'))
    (c6 : Hid (∀ W, Tab W → Calls Tryd.prog 10 #[.int .i64 a, .int .i64 b] W (RD W (.int .i64 j))))
    (c7 : Hid (∀ W, Calls Tryd.prog 11 #[.int .i64 a, .int .i64 b] W fun e w' => e = .returned (.int .i64 j) ∧ W = w'))
    (c8 : Hid (∀ W, Calls Tryd.prog 12 #[.int .i64 a] W fun e w' => e = .returned (.int .i64 v) ∧ W = w'))
    (c9 : Hid (∀ W, Calls Tryd.prog 13 #[.int .i64 a] W fun e w' => e = .returned (.int .i64 v) ∧ W = w'))
    (c10 : Hid (∀ W, Tab W → Calls Tryd.prog 14 #[.int .i64 a] W fun e w' => e = .returned (.string s) ∧ W = w')) :
    Calls Tryd.prog 3 #[.int .i64 a, .int .i64 b] w (RD w (.bool true)) := by
  subst hx
  cases d1 <;> cases d2
  all_goals
    simp only [Bool.and_self, Bool.and_true, Bool.and_false, Bool.true_eq_false, iff_false, iff_true] at c1 hs
    go_enter Tryd.func3, Tryd.ntmps3
    go_wp2_with fail
    refine (c1.out _).mono ?_
    rintro e w' ⟨rfl, rfl⟩
    go_wp2_with fail
    refine (c2.out _ HT.out).mono ?_
    rintro e w' ⟨rfl, rfl⟩
    go_wp2_with fail
    refine (c3.out _).mono ?_
    rintro e w' ⟨rfl, rfl⟩
    go_wp2_with fail
    refine (c4.out _ HT.out).mono ?_
    rintro e w' ⟨rfl, n1, rfl⟩
    go_wp2_with fail
    refine (c5.out _).mono ?_
    rintro e w' ⟨rfl, rfl⟩
    go_wp2_with fail
    refine (c6.out _ (HT.out.drewN _)).mono ?_
    rintro e w' ⟨rfl, n2, rfl⟩
    go_wp2_with fail
    refine (c7.out _).mono ?_
    rintro e w' ⟨rfl, rfl⟩
    go_wp2_with fail
    refine (c8.out _).mono ?_
    rintro e w' ⟨rfl, rfl⟩
    go_wp2_with fail
    refine (c9.out _).mono ?_
    rintro e w' ⟨rfl, rfl⟩
    go_wp2_with fail
    refine (c10.out _ (HT.out.drewN _)).mono ?_
    rintro e w' ⟨rfl, rfl⟩
    go_wp2_with fail
    refine (c1.out _).mono ?_
    rintro e w' ⟨rfl, rfl⟩
    go_wp2_with fail
    refine (works_any _ (HT.out.drewN _)).mono ?_
    rintro e w' ⟨rfl, n3, rfl⟩
    go_wp2_with fail
    go_ret
    exact ⟨by first | rfl | simp [hs], _, rfl⟩

theorem tells_law (a b : Int) (w : World) (hT : Tab w) : Calls Tryd.prog 3 #[.int .i64 a, .int .i64 b] w fun e w' => e = .returned (.bool true) ∧ Below w.heap.size w w' := by
  refine (tells_core a b (right a) _ _ (tog a b) (cov a b) (jn a b) (abv a) (nmS a) w (Lib.hid hT) rfl rfl rfl ?_ (Lib.hid fun W => right_any a W) (Lib.hid fun W h => tog_any a b W h) (Lib.hid fun W => refTog_any a b W) (Lib.hid fun W h => cov_any a b W h)
    (Lib.hid fun W => refCov_any a b W) (Lib.hid fun W h => jn_any a b W h) (Lib.hid fun W => refJn_any a b W) (Lib.hid fun W => above_any a W) (Lib.hid fun W => refAbove_any a W) (Lib.hid fun W h => name_any a W h)).mono ?_
  · cases hr : right a
    · simp only [nmS, hr, Bool.false_eq_true, if_false, iff_true]; decide +kernel
    · obtain ⟨u, rfl⟩ := as_fin hr
      have := nm_some u
      simp only [nmS, hr, if_true, Bool.true_eq_false, iff_false]
      exact this
  · rintro e w' ⟨rfl, n, rfl⟩
    exact ⟨rfl, rfl, rfl, rfl, Nat.le_refl _, fun _ _ => rfl⟩
end Go.Proofs.YtalkefmkophhiaaDoor
