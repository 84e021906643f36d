/-
  The walks of the reference's Together and of works.
  Conditions: the tables lie in their variables.
-/
import Derived.Test.YtalkefmkophhiaaDoorC
namespace Go.Proofs.YtalkefmkophhiaaDoor
open Go.RowKit

theorem writes_is {m x : Int} (hr : right m = true) (h : wrN m.toNat = x) (w : World) : Calls Tryd.prog 17 #[.int .i64 m] w fun e w' => e = .returned (.int .i64 x) ∧ w = w' := by
  obtain ⟨u, rfl⟩ := as_fin hr
  rw [← h]; exact writes_at u w
theorem reads_is {m x : Int} (hr : right m = true) (h : rdN m.toNat = x) (w : World) : Calls Tryd.prog 18 #[.int .i64 m] w fun e w' => e = .returned (.int .i64 x) ∧ w = w' := by
  obtain ⟨u, rfl⟩ := as_fin hr
  rw [← h]; exact reads_at u w

set_option maxHeartbeats 1000000 in
theorem rt1 (a b : Int) (w : World) (HA : Hid (right a = true)) (HB : Hid (right b = true))
    (R1 : Hid (Calls Tryd.prog 17 #[.int .i64 a] w fun e w' => e = .returned (.int .i64 2) ∧ w = w'))
    (d' : (b != 0) = true) :
    Calls Tryd.prog 7 #[.int .i64 a, .int .i64 b] w fun e w' => e = .returned (.bool false) ∧ w = w' := by
    go_enter Tryd.func7, Tryd.ntmps7
    go_wp2_with fail
    refine (refRight_is HA.out _).mono ?_
    rintro e w' ⟨rfl, rfl⟩
    go_wp2_with fail
    refine (refRight_is HB.out _).mono ?_
    rintro e w' ⟨rfl, rfl⟩
    go_wp2_with fail
    refine R1.out.mono ?_
    rintro e w' ⟨rfl, rfl⟩
    go_wp2_with fail
    go_ret
    exact ⟨rfl, rfl⟩

set_option maxHeartbeats 1000000 in
theorem rt2 (a b : Int) (w : World) (HA : Hid (right a = true)) (HB : Hid (right b = true))
    (R1 : Hid (Calls Tryd.prog 17 #[.int .i64 a] w fun e w' => e = .returned (.int .i64 2) ∧ w = w'))
    (R2 : Hid (Calls Tryd.prog 17 #[.int .i64 b] w fun e w' => e = .returned (.int .i64 0) ∧ w = w'))
    (d' : (b != 0) = false) :
    Calls Tryd.prog 7 #[.int .i64 a, .int .i64 b] w fun e w' => e = .returned (.bool true) ∧ w = w' := by
    go_enter Tryd.func7, Tryd.ntmps7
    go_wp2_with fail
    refine (refRight_is HA.out _).mono ?_
    rintro e w' ⟨rfl, rfl⟩
    go_wp2_with fail
    refine (refRight_is HB.out _).mono ?_
    rintro e w' ⟨rfl, rfl⟩
    go_wp2_with fail
    refine R1.out.mono ?_
    rintro e w' ⟨rfl, rfl⟩
    go_wp2_with fail
    refine R2.out.mono ?_
    rintro e w' ⟨rfl, rfl⟩
    go_wp2_with fail
    refine R1.out.mono ?_
    rintro e w' ⟨rfl, rfl⟩
    go_wp2_with fail
    refine R2.out.mono ?_
    rintro e w' ⟨rfl, rfl⟩
    go_wp2_with fail
    go_ret
    exact ⟨rfl, rfl⟩

set_option maxHeartbeats 1000000 in
theorem rt3 (a b : Int) (w : World) (HA : Hid (right a = true)) (HB : Hid (right b = true))
    (R1 : Hid (Calls Tryd.prog 17 #[.int .i64 a] w fun e w' => e = .returned (.int .i64 0) ∧ w = w'))
    (R2 : Hid (Calls Tryd.prog 17 #[.int .i64 b] w fun e w' => e = .returned (.int .i64 2) ∧ w = w'))
    (d' : (a != 0) = true) :
    Calls Tryd.prog 7 #[.int .i64 a, .int .i64 b] w fun e w' => e = .returned (.bool false) ∧ w = w' := by
    go_enter Tryd.func7, Tryd.ntmps7
    go_wp2_with fail
    refine (refRight_is HA.out _).mono ?_
    rintro e w' ⟨rfl, rfl⟩
    go_wp2_with fail
    refine (refRight_is HB.out _).mono ?_
    rintro e w' ⟨rfl, rfl⟩
    go_wp2_with fail
    refine R1.out.mono ?_
    rintro e w' ⟨rfl, rfl⟩
    go_wp2_with fail
    refine R2.out.mono ?_
    rintro e w' ⟨rfl, rfl⟩
    go_wp2_with fail
    go_ret
    exact ⟨rfl, rfl⟩

set_option maxHeartbeats 1000000 in
theorem rt4 (a b : Int) (w : World) (HA : Hid (right a = true)) (HB : Hid (right b = true))
    (R1 : Hid (Calls Tryd.prog 17 #[.int .i64 a] w fun e w' => e = .returned (.int .i64 1) ∧ w = w'))
    (R2 : Hid (Calls Tryd.prog 17 #[.int .i64 b] w fun e w' => e = .returned (.int .i64 2) ∧ w = w'))
    (d' : (a != 0) = true) :
    Calls Tryd.prog 7 #[.int .i64 a, .int .i64 b] w fun e w' => e = .returned (.bool false) ∧ w = w' := by
    go_enter Tryd.func7, Tryd.ntmps7
    go_wp2_with fail
    refine (refRight_is HA.out _).mono ?_
    rintro e w' ⟨rfl, rfl⟩
    go_wp2_with fail
    refine (refRight_is HB.out _).mono ?_
    rintro e w' ⟨rfl, rfl⟩
    go_wp2_with fail
    refine R1.out.mono ?_
    rintro e w' ⟨rfl, rfl⟩
    go_wp2_with fail
    refine R2.out.mono ?_
    rintro e w' ⟨rfl, rfl⟩
    go_wp2_with fail
    go_ret
    exact ⟨rfl, rfl⟩

set_option maxHeartbeats 1000000 in
theorem rt5 (a b : Int) (w : World) (HA : Hid (right a = true)) (HB : Hid (right b = true))
    (R1 : Hid (Calls Tryd.prog 17 #[.int .i64 a] w fun e w' => e = .returned (.int .i64 0) ∧ w = w'))
    (R2 : Hid (Calls Tryd.prog 17 #[.int .i64 b] w fun e w' => e = .returned (.int .i64 2) ∧ w = w'))
    (d' : (a != 0) = false) :
    Calls Tryd.prog 7 #[.int .i64 a, .int .i64 b] w fun e w' => e = .returned (.bool true) ∧ w = w' := by
    go_enter Tryd.func7, Tryd.ntmps7
    go_wp2_with fail
    refine (refRight_is HA.out _).mono ?_
    rintro e w' ⟨rfl, rfl⟩
    go_wp2_with fail
    refine (refRight_is HB.out _).mono ?_
    rintro e w' ⟨rfl, rfl⟩
    go_wp2_with fail
    refine R1.out.mono ?_
    rintro e w' ⟨rfl, rfl⟩
    go_wp2_with fail
    refine R2.out.mono ?_
    rintro e w' ⟨rfl, rfl⟩
    go_wp2_with fail
    refine R1.out.mono ?_
    rintro e w' ⟨rfl, rfl⟩
    go_wp2_with fail
    refine R2.out.mono ?_
    rintro e w' ⟨rfl, rfl⟩
    go_wp2_with fail
    go_ret
    exact ⟨rfl, rfl⟩

set_option maxHeartbeats 1000000 in
theorem rt6 (a b : Int) (w : World) (HA : Hid (right a = true)) (HB : Hid (right b = true))
    (R1 : Hid (Calls Tryd.prog 17 #[.int .i64 a] w fun e w' => e = .returned (.int .i64 0) ∧ w = w'))
    (R2 : Hid (Calls Tryd.prog 17 #[.int .i64 b] w fun e w' => e = .returned (.int .i64 0) ∧ w = w')) :
    Calls Tryd.prog 7 #[.int .i64 a, .int .i64 b] w fun e w' => e = .returned (.bool true) ∧ w = w' := by
    go_enter Tryd.func7, Tryd.ntmps7
    go_wp2_with fail
    refine (refRight_is HA.out _).mono ?_
    rintro e w' ⟨rfl, rfl⟩
    go_wp2_with fail
    refine (refRight_is HB.out _).mono ?_
    rintro e w' ⟨rfl, rfl⟩
    go_wp2_with fail
    refine R1.out.mono ?_
    rintro e w' ⟨rfl, rfl⟩
    go_wp2_with fail
    refine R2.out.mono ?_
    rintro e w' ⟨rfl, rfl⟩
    go_wp2_with fail
    refine R1.out.mono ?_
    rintro e w' ⟨rfl, rfl⟩
    go_wp2_with fail
    refine R2.out.mono ?_
    rintro e w' ⟨rfl, rfl⟩
    go_wp2_with fail
    go_ret
    exact ⟨rfl, rfl⟩

set_option maxHeartbeats 1000000 in
theorem rt7 (a b : Int) (w : World) (HA : Hid (right a = true)) (HB : Hid (right b = true))
    (R1 : Hid (Calls Tryd.prog 17 #[.int .i64 a] w fun e w' => e = .returned (.int .i64 0) ∧ w = w'))
    (R2 : Hid (Calls Tryd.prog 17 #[.int .i64 b] w fun e w' => e = .returned (.int .i64 1) ∧ w = w'))
    (R3 : Hid (Calls Tryd.prog 18 #[.int .i64 a] w fun e w' => e = .returned (.int .i64 2) ∧ w = w')) :
    Calls Tryd.prog 7 #[.int .i64 a, .int .i64 b] w fun e w' => e = .returned (.bool false) ∧ w = w' := by
    go_enter Tryd.func7, Tryd.ntmps7
    go_wp2_with fail
    refine (refRight_is HA.out _).mono ?_
    rintro e w' ⟨rfl, rfl⟩
    go_wp2_with fail
    refine (refRight_is HB.out _).mono ?_
    rintro e w' ⟨rfl, rfl⟩
    go_wp2_with fail
    refine R1.out.mono ?_
    rintro e w' ⟨rfl, rfl⟩
    go_wp2_with fail
    refine R2.out.mono ?_
    rintro e w' ⟨rfl, rfl⟩
    go_wp2_with fail
    refine R1.out.mono ?_
    rintro e w' ⟨rfl, rfl⟩
    go_wp2_with fail
    refine R2.out.mono ?_
    rintro e w' ⟨rfl, rfl⟩
    go_wp2_with fail
    refine R3.out.mono ?_
    rintro e w' ⟨rfl, rfl⟩
    go_wp2_with fail
    go_ret
    exact ⟨rfl, rfl⟩

set_option maxHeartbeats 1000000 in
theorem rt8 (a b : Int) (w : World) (HA : Hid (right a = true)) (HB : Hid (right b = true))
    (R1 : Hid (Calls Tryd.prog 17 #[.int .i64 a] w fun e w' => e = .returned (.int .i64 0) ∧ w = w'))
    (R2 : Hid (Calls Tryd.prog 17 #[.int .i64 b] w fun e w' => e = .returned (.int .i64 1) ∧ w = w'))
    (R3 : Hid (Calls Tryd.prog 18 #[.int .i64 a] w fun e w' => e = .returned (.int .i64 0) ∧ w = w')) :
    Calls Tryd.prog 7 #[.int .i64 a, .int .i64 b] w fun e w' => e = .returned (.bool true) ∧ w = w' := by
    go_enter Tryd.func7, Tryd.ntmps7
    go_wp2_with fail
    refine (refRight_is HA.out _).mono ?_
    rintro e w' ⟨rfl, rfl⟩
    go_wp2_with fail
    refine (refRight_is HB.out _).mono ?_
    rintro e w' ⟨rfl, rfl⟩
    go_wp2_with fail
    refine R1.out.mono ?_
    rintro e w' ⟨rfl, rfl⟩
    go_wp2_with fail
    refine R2.out.mono ?_
    rintro e w' ⟨rfl, rfl⟩
    go_wp2_with fail
    refine R1.out.mono ?_
    rintro e w' ⟨rfl, rfl⟩
    go_wp2_with fail
    refine R2.out.mono ?_
    rintro e w' ⟨rfl, rfl⟩
    go_wp2_with fail
    refine R3.out.mono ?_
    rintro e w' ⟨rfl, rfl⟩
    go_wp2_with fail
    go_ret
    exact ⟨rfl, rfl⟩

set_option maxHeartbeats 1000000 in
theorem rt9 (a b : Int) (w : World) (HA : Hid (right a = true)) (HB : Hid (right b = true))
    (R1 : Hid (Calls Tryd.prog 17 #[.int .i64 a] w fun e w' => e = .returned (.int .i64 0) ∧ w = w'))
    (R2 : Hid (Calls Tryd.prog 17 #[.int .i64 b] w fun e w' => e = .returned (.int .i64 1) ∧ w = w'))
    (R3 : Hid (Calls Tryd.prog 18 #[.int .i64 a] w fun e w' => e = .returned (.int .i64 1) ∧ w = w')) :
    Calls Tryd.prog 7 #[.int .i64 a, .int .i64 b] w fun e w' => e = .returned (.bool true) ∧ w = w' := by
    go_enter Tryd.func7, Tryd.ntmps7
    go_wp2_with fail
    refine (refRight_is HA.out _).mono ?_
    rintro e w' ⟨rfl, rfl⟩
    go_wp2_with fail
    refine (refRight_is HB.out _).mono ?_
    rintro e w' ⟨rfl, rfl⟩
    go_wp2_with fail
    refine R1.out.mono ?_
    rintro e w' ⟨rfl, rfl⟩
    go_wp2_with fail
    refine R2.out.mono ?_
    rintro e w' ⟨rfl, rfl⟩
    go_wp2_with fail
    refine R1.out.mono ?_
    rintro e w' ⟨rfl, rfl⟩
    go_wp2_with fail
    refine R2.out.mono ?_
    rintro e w' ⟨rfl, rfl⟩
    go_wp2_with fail
    refine R3.out.mono ?_
    rintro e w' ⟨rfl, rfl⟩
    go_wp2_with fail
    go_ret
    exact ⟨rfl, rfl⟩

set_option maxHeartbeats 1000000 in
theorem rt10 (a b : Int) (w : World) (HA : Hid (right a = true)) (HB : Hid (right b = true))
    (R1 : Hid (Calls Tryd.prog 17 #[.int .i64 a] w fun e w' => e = .returned (.int .i64 1) ∧ w = w'))
    (R2 : Hid (Calls Tryd.prog 17 #[.int .i64 b] w fun e w' => e = .returned (.int .i64 0) ∧ w = w'))
    (R4 : Hid (Calls Tryd.prog 18 #[.int .i64 b] w fun e w' => e = .returned (.int .i64 2) ∧ w = w')) :
    Calls Tryd.prog 7 #[.int .i64 a, .int .i64 b] w fun e w' => e = .returned (.bool false) ∧ w = w' := by
    go_enter Tryd.func7, Tryd.ntmps7
    go_wp2_with fail
    refine (refRight_is HA.out _).mono ?_
    rintro e w' ⟨rfl, rfl⟩
    go_wp2_with fail
    refine (refRight_is HB.out _).mono ?_
    rintro e w' ⟨rfl, rfl⟩
    go_wp2_with fail
    refine R1.out.mono ?_
    rintro e w' ⟨rfl, rfl⟩
    go_wp2_with fail
    refine R2.out.mono ?_
    rintro e w' ⟨rfl, rfl⟩
    go_wp2_with fail
    refine R1.out.mono ?_
    rintro e w' ⟨rfl, rfl⟩
    go_wp2_with fail
    refine R4.out.mono ?_
    rintro e w' ⟨rfl, rfl⟩
    go_wp2_with fail
    go_ret
    exact ⟨rfl, rfl⟩

set_option maxHeartbeats 1000000 in
theorem rt11 (a b : Int) (w : World) (HA : Hid (right a = true)) (HB : Hid (right b = true))
    (R1 : Hid (Calls Tryd.prog 17 #[.int .i64 a] w fun e w' => e = .returned (.int .i64 1) ∧ w = w'))
    (R2 : Hid (Calls Tryd.prog 17 #[.int .i64 b] w fun e w' => e = .returned (.int .i64 0) ∧ w = w'))
    (R4 : Hid (Calls Tryd.prog 18 #[.int .i64 b] w fun e w' => e = .returned (.int .i64 0) ∧ w = w')) :
    Calls Tryd.prog 7 #[.int .i64 a, .int .i64 b] w fun e w' => e = .returned (.bool true) ∧ w = w' := by
    go_enter Tryd.func7, Tryd.ntmps7
    go_wp2_with fail
    refine (refRight_is HA.out _).mono ?_
    rintro e w' ⟨rfl, rfl⟩
    go_wp2_with fail
    refine (refRight_is HB.out _).mono ?_
    rintro e w' ⟨rfl, rfl⟩
    go_wp2_with fail
    refine R1.out.mono ?_
    rintro e w' ⟨rfl, rfl⟩
    go_wp2_with fail
    refine R2.out.mono ?_
    rintro e w' ⟨rfl, rfl⟩
    go_wp2_with fail
    refine R1.out.mono ?_
    rintro e w' ⟨rfl, rfl⟩
    go_wp2_with fail
    refine R4.out.mono ?_
    rintro e w' ⟨rfl, rfl⟩
    go_wp2_with fail
    refine R2.out.mono ?_
    rintro e w' ⟨rfl, rfl⟩
    go_wp2_with fail
    go_ret
    exact ⟨rfl, rfl⟩

set_option maxHeartbeats 1000000 in
theorem rt12 (a b : Int) (w : World) (HA : Hid (right a = true)) (HB : Hid (right b = true))
    (R1 : Hid (Calls Tryd.prog 17 #[.int .i64 a] w fun e w' => e = .returned (.int .i64 1) ∧ w = w'))
    (R2 : Hid (Calls Tryd.prog 17 #[.int .i64 b] w fun e w' => e = .returned (.int .i64 0) ∧ w = w'))
    (R4 : Hid (Calls Tryd.prog 18 #[.int .i64 b] w fun e w' => e = .returned (.int .i64 1) ∧ w = w')) :
    Calls Tryd.prog 7 #[.int .i64 a, .int .i64 b] w fun e w' => e = .returned (.bool true) ∧ w = w' := by
    go_enter Tryd.func7, Tryd.ntmps7
    go_wp2_with fail
    refine (refRight_is HA.out _).mono ?_
    rintro e w' ⟨rfl, rfl⟩
    go_wp2_with fail
    refine (refRight_is HB.out _).mono ?_
    rintro e w' ⟨rfl, rfl⟩
    go_wp2_with fail
    refine R1.out.mono ?_
    rintro e w' ⟨rfl, rfl⟩
    go_wp2_with fail
    refine R2.out.mono ?_
    rintro e w' ⟨rfl, rfl⟩
    go_wp2_with fail
    refine R1.out.mono ?_
    rintro e w' ⟨rfl, rfl⟩
    go_wp2_with fail
    refine R4.out.mono ?_
    rintro e w' ⟨rfl, rfl⟩
    go_wp2_with fail
    refine R2.out.mono ?_
    rintro e w' ⟨rfl, rfl⟩
    go_wp2_with fail
    go_ret
    exact ⟨rfl, rfl⟩

set_option maxHeartbeats 1000000 in
theorem rt13 (a b : Int) (w : World) (HA : Hid (right a = true)) (HB : Hid (right b = true))
    (R1 : Hid (Calls Tryd.prog 17 #[.int .i64 a] w fun e w' => e = .returned (.int .i64 1) ∧ w = w'))
    (R2 : Hid (Calls Tryd.prog 17 #[.int .i64 b] w fun e w' => e = .returned (.int .i64 1) ∧ w = w'))
    (R4 : Hid (Calls Tryd.prog 18 #[.int .i64 b] w fun e w' => e = .returned (.int .i64 2) ∧ w = w')) :
    Calls Tryd.prog 7 #[.int .i64 a, .int .i64 b] w fun e w' => e = .returned (.bool false) ∧ w = w' := by
    go_enter Tryd.func7, Tryd.ntmps7
    go_wp2_with fail
    refine (refRight_is HA.out _).mono ?_
    rintro e w' ⟨rfl, rfl⟩
    go_wp2_with fail
    refine (refRight_is HB.out _).mono ?_
    rintro e w' ⟨rfl, rfl⟩
    go_wp2_with fail
    refine R1.out.mono ?_
    rintro e w' ⟨rfl, rfl⟩
    go_wp2_with fail
    refine R2.out.mono ?_
    rintro e w' ⟨rfl, rfl⟩
    go_wp2_with fail
    refine R1.out.mono ?_
    rintro e w' ⟨rfl, rfl⟩
    go_wp2_with fail
    refine R4.out.mono ?_
    rintro e w' ⟨rfl, rfl⟩
    go_wp2_with fail
    go_ret
    exact ⟨rfl, rfl⟩

set_option maxHeartbeats 1000000 in
theorem rt14 (a b : Int) (w : World) (HA : Hid (right a = true)) (HB : Hid (right b = true))
    (R1 : Hid (Calls Tryd.prog 17 #[.int .i64 a] w fun e w' => e = .returned (.int .i64 1) ∧ w = w'))
    (R2 : Hid (Calls Tryd.prog 17 #[.int .i64 b] w fun e w' => e = .returned (.int .i64 1) ∧ w = w'))
    (R3 : Hid (Calls Tryd.prog 18 #[.int .i64 a] w fun e w' => e = .returned (.int .i64 1) ∧ w = w'))
    (R4 : Hid (Calls Tryd.prog 18 #[.int .i64 b] w fun e w' => e = .returned (.int .i64 1) ∧ w = w')) :
    Calls Tryd.prog 7 #[.int .i64 a, .int .i64 b] w fun e w' => e = .returned (.bool true) ∧ w = w' := by
    go_enter Tryd.func7, Tryd.ntmps7
    go_wp2_with fail
    refine (refRight_is HA.out _).mono ?_
    rintro e w' ⟨rfl, rfl⟩
    go_wp2_with fail
    refine (refRight_is HB.out _).mono ?_
    rintro e w' ⟨rfl, rfl⟩
    go_wp2_with fail
    refine R1.out.mono ?_
    rintro e w' ⟨rfl, rfl⟩
    go_wp2_with fail
    refine R2.out.mono ?_
    rintro e w' ⟨rfl, rfl⟩
    go_wp2_with fail
    refine R1.out.mono ?_
    rintro e w' ⟨rfl, rfl⟩
    go_wp2_with fail
    refine R4.out.mono ?_
    rintro e w' ⟨rfl, rfl⟩
    go_wp2_with fail
    refine R2.out.mono ?_
    rintro e w' ⟨rfl, rfl⟩
    go_wp2_with fail
    refine R3.out.mono ?_
    rintro e w' ⟨rfl, rfl⟩
    go_wp2_with fail
    go_ret
    exact ⟨rfl, rfl⟩

set_option maxHeartbeats 1000000 in
theorem rt15 (a b : Int) (w : World) (HA : Hid (right a = true)) (HB : Hid (right b = true))
    (R1 : Hid (Calls Tryd.prog 17 #[.int .i64 a] w fun e w' => e = .returned (.int .i64 1) ∧ w = w'))
    (R2 : Hid (Calls Tryd.prog 17 #[.int .i64 b] w fun e w' => e = .returned (.int .i64 1) ∧ w = w'))
    (R3 : Hid (Calls Tryd.prog 18 #[.int .i64 a] w fun e w' => e = .returned (.int .i64 2) ∧ w = w'))
    (R4 : Hid (Calls Tryd.prog 18 #[.int .i64 b] w fun e w' => e = .returned (.int .i64 1) ∧ w = w')) :
    Calls Tryd.prog 7 #[.int .i64 a, .int .i64 b] w fun e w' => e = .returned (.bool false) ∧ w = w' := by
    go_enter Tryd.func7, Tryd.ntmps7
    go_wp2_with fail
    refine (refRight_is HA.out _).mono ?_
    rintro e w' ⟨rfl, rfl⟩
    go_wp2_with fail
    refine (refRight_is HB.out _).mono ?_
    rintro e w' ⟨rfl, rfl⟩
    go_wp2_with fail
    refine R1.out.mono ?_
    rintro e w' ⟨rfl, rfl⟩
    go_wp2_with fail
    refine R2.out.mono ?_
    rintro e w' ⟨rfl, rfl⟩
    go_wp2_with fail
    refine R1.out.mono ?_
    rintro e w' ⟨rfl, rfl⟩
    go_wp2_with fail
    refine R4.out.mono ?_
    rintro e w' ⟨rfl, rfl⟩
    go_wp2_with fail
    refine R2.out.mono ?_
    rintro e w' ⟨rfl, rfl⟩
    go_wp2_with fail
    refine R3.out.mono ?_
    rintro e w' ⟨rfl, rfl⟩
    go_wp2_with fail
    go_ret
    exact ⟨rfl, rfl⟩

theorem tog_cases0 : ∀ u v : Fin 6, wrN u.val = 0 → (wrN u.val = 0 ∧ wrN v.val = 2 ∧ ((u.val : Int) == 0) = false ∧ tog (u.val : Int) (v.val : Int) = false) ∨
    (wrN u.val = 0 ∧ wrN v.val = 2 ∧ ((u.val : Int) == 0) = true ∧ tog (u.val : Int) (v.val : Int) = true) ∨
    (wrN u.val = 0 ∧ wrN v.val = 0 ∧ tog (u.val : Int) (v.val : Int) = true) ∨
    (wrN u.val = 0 ∧ wrN v.val = 1 ∧ rdN u.val = 2 ∧ tog (u.val : Int) (v.val : Int) = false) ∨
    (wrN u.val = 0 ∧ wrN v.val = 1 ∧ rdN u.val = 0 ∧ tog (u.val : Int) (v.val : Int) = true) ∨
    (wrN u.val = 0 ∧ wrN v.val = 1 ∧ rdN u.val = 1 ∧ tog (u.val : Int) (v.val : Int) = true) := by decide +kernel
theorem tog_cases1 : ∀ u v : Fin 6, wrN u.val = 1 → (wrN u.val = 1 ∧ wrN v.val = 2 ∧ ((u.val : Int) == 0) = false ∧ tog (u.val : Int) (v.val : Int) = false) ∨
    (wrN u.val = 1 ∧ wrN v.val = 0 ∧ rdN v.val = 2 ∧ tog (u.val : Int) (v.val : Int) = false) ∨
    (wrN u.val = 1 ∧ wrN v.val = 0 ∧ rdN v.val = 0 ∧ tog (u.val : Int) (v.val : Int) = true) ∨
    (wrN u.val = 1 ∧ wrN v.val = 0 ∧ rdN v.val = 1 ∧ tog (u.val : Int) (v.val : Int) = true) ∨
    (wrN u.val = 1 ∧ wrN v.val = 1 ∧ rdN v.val = 2 ∧ tog (u.val : Int) (v.val : Int) = false) ∨
    (wrN u.val = 1 ∧ wrN v.val = 1 ∧ rdN u.val = 1 ∧ rdN v.val = 1 ∧ tog (u.val : Int) (v.val : Int) = true) ∨
    (wrN u.val = 1 ∧ wrN v.val = 1 ∧ rdN u.val = 2 ∧ rdN v.val = 1 ∧ tog (u.val : Int) (v.val : Int) = false) := by decide +kernel
theorem tog_cases2 : ∀ u v : Fin 6, wrN u.val = 2 → (wrN u.val = 2 ∧ ((v.val : Int) == 0) = false ∧ tog (u.val : Int) (v.val : Int) = false) ∨
    (wrN u.val = 2 ∧ wrN v.val = 0 ∧ ((v.val : Int) == 0) = true ∧ tog (u.val : Int) (v.val : Int) = true) := by decide +kernel
theorem wr_three : ∀ u : Fin 6, wrN u.val = 0 ∨ wrN u.val = 1 ∨ wrN u.val = 2 := by decide +kernel

theorem refTog_any (a b : Int) (w : World) : Calls Tryd.prog 7 #[.int .i64 a, .int .i64 b] w fun e w' => e = .returned (.bool (tog a b)) ∧ w = w' := by
  cases ha : right a
  · have hs : tog a b = false := by simp [tog, ha]
    rw [hs]
    clear hs
    have HA := Lib.hid ha
    clear ha
    go_enter Tryd.func7, Tryd.ntmps7
    go_wp2_with fail
    refine (refRight_is HA.out _).mono ?_
    rintro e w' ⟨rfl, rfl⟩
    go_wp2_with fail
    go_ret
    exact ⟨rfl, rfl⟩
  cases hb : right b
  · have hs : tog a b = false := by simp [tog, hb]
    rw [hs]
    clear hs
    have HA := Lib.hid ha
    have HB := Lib.hid hb
    clear ha hb
    go_enter Tryd.func7, Tryd.ntmps7
    go_wp2_with fail
    refine (refRight_is HA.out _).mono ?_
    rintro e w' ⟨rfl, rfl⟩
    go_wp2_with fail
    refine (refRight_is HB.out _).mono ?_
    rintro e w' ⟨rfl, rfl⟩
    go_wp2_with fail
    go_ret
    exact ⟨rfl, rfl⟩
  obtain ⟨u, rfl⟩ := as_fin ha
  obtain ⟨v, rfl⟩ := as_fin hb
  rcases wr_three u with h0 | h1 | h2
  · rcases tog_cases0 u v h0 with hc | hc | hc | hc | hc | hc
    · obtain ⟨q0, q1, q2, q3⟩ := hc
      rw [q3]
      exact rt3 _ _ w (Lib.hid ha) (Lib.hid hb) (Lib.hid (writes_is ha (by simpa using q0) w)) (Lib.hid (writes_is hb (by simpa using q1) w)) (by simp_all)
    · obtain ⟨q0, q1, q2, q3⟩ := hc
      rw [q3]
      exact rt5 _ _ w (Lib.hid ha) (Lib.hid hb) (Lib.hid (writes_is ha (by simpa using q0) w)) (Lib.hid (writes_is hb (by simpa using q1) w)) (by simp_all)
    · obtain ⟨q0, q1, q2⟩ := hc
      rw [q2]
      exact rt6 _ _ w (Lib.hid ha) (Lib.hid hb) (Lib.hid (writes_is ha (by simpa using q0) w)) (Lib.hid (writes_is hb (by simpa using q1) w))
    · obtain ⟨q0, q1, q2, q3⟩ := hc
      rw [q3]
      exact rt7 _ _ w (Lib.hid ha) (Lib.hid hb) (Lib.hid (writes_is ha (by simpa using q0) w)) (Lib.hid (writes_is hb (by simpa using q1) w)) (Lib.hid (reads_is ha (by simpa using q2) w))
    · obtain ⟨q0, q1, q2, q3⟩ := hc
      rw [q3]
      exact rt8 _ _ w (Lib.hid ha) (Lib.hid hb) (Lib.hid (writes_is ha (by simpa using q0) w)) (Lib.hid (writes_is hb (by simpa using q1) w)) (Lib.hid (reads_is ha (by simpa using q2) w))
    · obtain ⟨q0, q1, q2, q3⟩ := hc
      rw [q3]
      exact rt9 _ _ w (Lib.hid ha) (Lib.hid hb) (Lib.hid (writes_is ha (by simpa using q0) w)) (Lib.hid (writes_is hb (by simpa using q1) w)) (Lib.hid (reads_is ha (by simpa using q2) w))
  · rcases tog_cases1 u v h1 with hc | hc | hc | hc | hc | hc | hc
    · obtain ⟨q0, q1, q2, q3⟩ := hc
      rw [q3]
      exact rt4 _ _ w (Lib.hid ha) (Lib.hid hb) (Lib.hid (writes_is ha (by simpa using q0) w)) (Lib.hid (writes_is hb (by simpa using q1) w)) (by simp_all)
    · obtain ⟨q0, q1, q2, q3⟩ := hc
      rw [q3]
      exact rt10 _ _ w (Lib.hid ha) (Lib.hid hb) (Lib.hid (writes_is ha (by simpa using q0) w)) (Lib.hid (writes_is hb (by simpa using q1) w)) (Lib.hid (reads_is hb (by simpa using q2) w))
    · obtain ⟨q0, q1, q2, q3⟩ := hc
      rw [q3]
      exact rt11 _ _ w (Lib.hid ha) (Lib.hid hb) (Lib.hid (writes_is ha (by simpa using q0) w)) (Lib.hid (writes_is hb (by simpa using q1) w)) (Lib.hid (reads_is hb (by simpa using q2) w))
    · obtain ⟨q0, q1, q2, q3⟩ := hc
      rw [q3]
      exact rt12 _ _ w (Lib.hid ha) (Lib.hid hb) (Lib.hid (writes_is ha (by simpa using q0) w)) (Lib.hid (writes_is hb (by simpa using q1) w)) (Lib.hid (reads_is hb (by simpa using q2) w))
    · obtain ⟨q0, q1, q2, q3⟩ := hc
      rw [q3]
      exact rt13 _ _ w (Lib.hid ha) (Lib.hid hb) (Lib.hid (writes_is ha (by simpa using q0) w)) (Lib.hid (writes_is hb (by simpa using q1) w)) (Lib.hid (reads_is hb (by simpa using q2) w))
    · obtain ⟨q0, q1, q2, q3, q4⟩ := hc
      rw [q4]
      exact rt14 _ _ w (Lib.hid ha) (Lib.hid hb) (Lib.hid (writes_is ha (by simpa using q0) w)) (Lib.hid (writes_is hb (by simpa using q1) w)) (Lib.hid (reads_is ha (by simpa using q2) w)) (Lib.hid (reads_is hb (by simpa using q3) w))
    · obtain ⟨q0, q1, q2, q3, q4⟩ := hc
      rw [q4]
      exact rt15 _ _ w (Lib.hid ha) (Lib.hid hb) (Lib.hid (writes_is ha (by simpa using q0) w)) (Lib.hid (writes_is hb (by simpa using q1) w)) (Lib.hid (reads_is ha (by simpa using q2) w)) (Lib.hid (reads_is hb (by simpa using q3) w))
  · rcases tog_cases2 u v h2 with hc | hc
    · obtain ⟨q0, q1, q2⟩ := hc
      rw [q2]
      exact rt1 _ _ w (Lib.hid ha) (Lib.hid hb) (Lib.hid (writes_is ha (by simpa using q0) w)) (by simp_all)
    · obtain ⟨q0, q1, q2, q3⟩ := hc
      rw [q3]
      exact rt2 _ _ w (Lib.hid ha) (Lib.hid hb) (Lib.hid (writes_is ha (by simpa using q0) w)) (Lib.hid (writes_is hb (by simpa using q1) w)) (by simp_all)
theorem jn_is {a b r : Int} (h : jn a b = r) (w : World) (hT : Tab w) : Calls Tryd.prog 10 #[.int .i64 a, .int .i64 b] w (RD w (.int .i64 r)) := by
  rw [← h]; exact jn_any a b w hT
theorem above_is {m r : Int} (h : abv m = r) (w : World) : Calls Tryd.prog 12 #[.int .i64 m] w fun e w' => e = .returned (.int .i64 r) ∧ w = w' := by
  rw [← h]; exact above_any m w

set_option maxHeartbeats 4000000 in
theorem works_any (w : World) (hT : Tab w) : Calls Tryd.prog 15 #[] w (RD w (.bool true)) := by
  have HT := Lib.hid hT
  clear hT
  go_enter Tryd.func15, Tryd.ntmps15
  go_wp2_with fail
  refine (tog_is (r := true) (by decide +kernel) _ HT.out).mono ?_
  rintro e w' ⟨rfl, rfl⟩
  go_wp2_with fail
  refine (tog_is (r := false) (by decide +kernel) _ HT.out).mono ?_
  rintro e w' ⟨rfl, rfl⟩
  go_wp2_with fail
  refine (tog_is (r := true) (by decide +kernel) _ HT.out).mono ?_
  rintro e w' ⟨rfl, rfl⟩
  go_wp2_with fail
  refine (tog_is (r := false) (by decide +kernel) _ HT.out).mono ?_
  rintro e w' ⟨rfl, rfl⟩
  go_wp2_with fail
  refine (cov_is (r := true) (by decide +kernel) _ HT.out).mono ?_
  rintro e w' ⟨rfl, n1, rfl⟩
  go_wp2_with fail
  refine (jn_is (r := 4) (by decide +kernel) _ (HT.out.drewN _)).mono ?_
  rintro e w' ⟨rfl, n2, rfl⟩
  go_wp2_with fail
  refine (jn_is (r := 2) (by decide +kernel) _ (HT.out.drewN _)).mono ?_
  rintro e w' ⟨rfl, n3, rfl⟩
  go_wp2_with fail
  refine (name_is (s := ⟨#[115, 105, 120]⟩) (by decide +kernel) _ (HT.out.drewN _)).mono ?_
  rintro e w' ⟨rfl, rfl⟩
  go_wp2_with fail
  refine (name_is (s := ⟨#[]⟩) (by decide +kernel) _ (HT.out.drewN _)).mono ?_
  rintro e w' ⟨rfl, rfl⟩
  go_wp2_with fail
  refine (above_is (r := 1) (by decide +kernel) _).mono ?_
  rintro e w' ⟨rfl, rfl⟩
  go_wp2_with fail
  refine (above_is (r := 2) (by decide +kernel) _).mono ?_
  rintro e w' ⟨rfl, rfl⟩
  go_wp2_with fail
  refine (right_is (b := false) (by decide +kernel) _).mono ?_
  rintro e w' ⟨rfl, rfl⟩
  go_wp2_with fail
  go_ret
  exact ⟨rfl, _, rfl⟩
end Go.Proofs.YtalkefmkophhiaaDoor
