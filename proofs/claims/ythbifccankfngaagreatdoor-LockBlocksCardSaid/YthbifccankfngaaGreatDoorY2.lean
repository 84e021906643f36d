/- Texts behind one another: DZ BSZ K1Z K2Z K3Z K4Z K5Z K6Z K7Z K8Z LitZ K9Z K10Z K11Z. -/
import Derived.Test.YthbifccankfngaaGreatDoorY1
import Derived.Deep.MidRow
import Derived.Deep.WholeRow
import Derived.OwnWalk
import Derived.Lib.SliceRun
import Derived.Deep.Cut
import Derived.Deep.CutRange
import Derived.Laws.CopyOwn
import Derived.Lib.Overlaps
import Derived.Laws.Externs
/-
  The walks of the reference's Together and of works.
  Conditions: the tables lie in their variables.
-/

namespace Go.Proofs.YthbifccankfngaaGreatDoor
open Go.RowKit

theorem writes_is {m x : Int} (hr : right m = true) (h : wrN m.toNat = x) (w : World) : Calls Tryz.prog 62 #[.int .i64 m] w fun e w' => e = .returned (.int .i64 x) ∧ w = w' := by
  obtain ⟨u, rfl⟩ := as_fin hr
  rw [← h]; exact writes_at u w
theorem reads_is {m x : Int} (hr : right m = true) (h : rdN m.toNat = x) (w : World) : Calls Tryz.prog 63 #[.int .i64 m] w fun e w' => e = .returned (.int .i64 x) ∧ w = w' := by
  obtain ⟨u, rfl⟩ := as_fin hr
  rw [← h]; exact reads_at u w

set_option maxHeartbeats 1000000 in
theorem rt1 (a b : Int) (w : World) (HA : Hid (right a = true)) (HB : Hid (right b = true))
    (R1 : Hid (Calls Tryz.prog 62 #[.int .i64 a] w fun e w' => e = .returned (.int .i64 2) ∧ w = w'))
    (d' : (b != 0) = true) :
    Calls Tryz.prog 34 #[.int .i64 a, .int .i64 b] w fun e w' => e = .returned (.bool false) ∧ w = w' := by
    go_enter Tryz.func34, Tryz.ntmps34
    go_wp2_with fail
    refine (refRight_is HA.out _).mono ?_
    rintro e w' ⟨rfl, rfl⟩
    go_wp2_with fail
    refine (refRight_is HB.out _).mono ?_
    rintro e w' ⟨rfl, rfl⟩
    go_wp2_with fail
    refine R1.out.mono ?_
    rintro e w' ⟨rfl, rfl⟩
    go_wp2_with fail
    go_ret
    exact ⟨rfl, rfl⟩

set_option maxHeartbeats 1000000 in
theorem rt2 (a b : Int) (w : World) (HA : Hid (right a = true)) (HB : Hid (right b = true))
    (R1 : Hid (Calls Tryz.prog 62 #[.int .i64 a] w fun e w' => e = .returned (.int .i64 2) ∧ w = w'))
    (R2 : Hid (Calls Tryz.prog 62 #[.int .i64 b] w fun e w' => e = .returned (.int .i64 0) ∧ w = w'))
    (d' : (b != 0) = false) :
    Calls Tryz.prog 34 #[.int .i64 a, .int .i64 b] w fun e w' => e = .returned (.bool true) ∧ w = w' := by
    go_enter Tryz.func34, Tryz.ntmps34
    go_wp2_with fail
    refine (refRight_is HA.out _).mono ?_
    rintro e w' ⟨rfl, rfl⟩
    go_wp2_with fail
    refine (refRight_is HB.out _).mono ?_
    rintro e w' ⟨rfl, rfl⟩
    go_wp2_with fail
    refine R1.out.mono ?_
    rintro e w' ⟨rfl, rfl⟩
    go_wp2_with fail
    refine R2.out.mono ?_
    rintro e w' ⟨rfl, rfl⟩
    go_wp2_with fail
    refine R1.out.mono ?_
    rintro e w' ⟨rfl, rfl⟩
    go_wp2_with fail
    refine R2.out.mono ?_
    rintro e w' ⟨rfl, rfl⟩
    go_wp2_with fail
    go_ret
    exact ⟨rfl, rfl⟩

set_option maxHeartbeats 1000000 in
theorem rt3 (a b : Int) (w : World) (HA : Hid (right a = true)) (HB : Hid (right b = true))
    (R1 : Hid (Calls Tryz.prog 62 #[.int .i64 a] w fun e w' => e = .returned (.int .i64 0) ∧ w = w'))
    (R2 : Hid (Calls Tryz.prog 62 #[.int .i64 b] w fun e w' => e = .returned (.int .i64 2) ∧ w = w'))
    (d' : (a != 0) = true) :
    Calls Tryz.prog 34 #[.int .i64 a, .int .i64 b] w fun e w' => e = .returned (.bool false) ∧ w = w' := by
    go_enter Tryz.func34, Tryz.ntmps34
    go_wp2_with fail
    refine (refRight_is HA.out _).mono ?_
    rintro e w' ⟨rfl, rfl⟩
    go_wp2_with fail
    refine (refRight_is HB.out _).mono ?_
    rintro e w' ⟨rfl, rfl⟩
    go_wp2_with fail
    refine R1.out.mono ?_
    rintro e w' ⟨rfl, rfl⟩
    go_wp2_with fail
    refine R2.out.mono ?_
    rintro e w' ⟨rfl, rfl⟩
    go_wp2_with fail
    go_ret
    exact ⟨rfl, rfl⟩

set_option maxHeartbeats 1000000 in
theorem rt4 (a b : Int) (w : World) (HA : Hid (right a = true)) (HB : Hid (right b = true))
    (R1 : Hid (Calls Tryz.prog 62 #[.int .i64 a] w fun e w' => e = .returned (.int .i64 1) ∧ w = w'))
    (R2 : Hid (Calls Tryz.prog 62 #[.int .i64 b] w fun e w' => e = .returned (.int .i64 2) ∧ w = w'))
    (d' : (a != 0) = true) :
    Calls Tryz.prog 34 #[.int .i64 a, .int .i64 b] w fun e w' => e = .returned (.bool false) ∧ w = w' := by
    go_enter Tryz.func34, Tryz.ntmps34
    go_wp2_with fail
    refine (refRight_is HA.out _).mono ?_
    rintro e w' ⟨rfl, rfl⟩
    go_wp2_with fail
    refine (refRight_is HB.out _).mono ?_
    rintro e w' ⟨rfl, rfl⟩
    go_wp2_with fail
    refine R1.out.mono ?_
    rintro e w' ⟨rfl, rfl⟩
    go_wp2_with fail
    refine R2.out.mono ?_
    rintro e w' ⟨rfl, rfl⟩
    go_wp2_with fail
    go_ret
    exact ⟨rfl, rfl⟩

set_option maxHeartbeats 1000000 in
theorem rt5 (a b : Int) (w : World) (HA : Hid (right a = true)) (HB : Hid (right b = true))
    (R1 : Hid (Calls Tryz.prog 62 #[.int .i64 a] w fun e w' => e = .returned (.int .i64 0) ∧ w = w'))
    (R2 : Hid (Calls Tryz.prog 62 #[.int .i64 b] w fun e w' => e = .returned (.int .i64 2) ∧ w = w'))
    (d' : (a != 0) = false) :
    Calls Tryz.prog 34 #[.int .i64 a, .int .i64 b] w fun e w' => e = .returned (.bool true) ∧ w = w' := by
    go_enter Tryz.func34, Tryz.ntmps34
    go_wp2_with fail
    refine (refRight_is HA.out _).mono ?_
    rintro e w' ⟨rfl, rfl⟩
    go_wp2_with fail
    refine (refRight_is HB.out _).mono ?_
    rintro e w' ⟨rfl, rfl⟩
    go_wp2_with fail
    refine R1.out.mono ?_
    rintro e w' ⟨rfl, rfl⟩
    go_wp2_with fail
    refine R2.out.mono ?_
    rintro e w' ⟨rfl, rfl⟩
    go_wp2_with fail
    refine R1.out.mono ?_
    rintro e w' ⟨rfl, rfl⟩
    go_wp2_with fail
    refine R2.out.mono ?_
    rintro e w' ⟨rfl, rfl⟩
    go_wp2_with fail
    go_ret
    exact ⟨rfl, rfl⟩

set_option maxHeartbeats 1000000 in
theorem rt6 (a b : Int) (w : World) (HA : Hid (right a = true)) (HB : Hid (right b = true))
    (R1 : Hid (Calls Tryz.prog 62 #[.int .i64 a] w fun e w' => e = .returned (.int .i64 0) ∧ w = w'))
    (R2 : Hid (Calls Tryz.prog 62 #[.int .i64 b] w fun e w' => e = .returned (.int .i64 0) ∧ w = w')) :
    Calls Tryz.prog 34 #[.int .i64 a, .int .i64 b] w fun e w' => e = .returned (.bool true) ∧ w = w' := by
    go_enter Tryz.func34, Tryz.ntmps34
    go_wp2_with fail
    refine (refRight_is HA.out _).mono ?_
    rintro e w' ⟨rfl, rfl⟩
    go_wp2_with fail
    refine (refRight_is HB.out _).mono ?_
    rintro e w' ⟨rfl, rfl⟩
    go_wp2_with fail
    refine R1.out.mono ?_
    rintro e w' ⟨rfl, rfl⟩
    go_wp2_with fail
    refine R2.out.mono ?_
    rintro e w' ⟨rfl, rfl⟩
    go_wp2_with fail
    refine R1.out.mono ?_
    rintro e w' ⟨rfl, rfl⟩
    go_wp2_with fail
    refine R2.out.mono ?_
    rintro e w' ⟨rfl, rfl⟩
    go_wp2_with fail
    go_ret
    exact ⟨rfl, rfl⟩

set_option maxHeartbeats 1000000 in
theorem rt7 (a b : Int) (w : World) (HA : Hid (right a = true)) (HB : Hid (right b = true))
    (R1 : Hid (Calls Tryz.prog 62 #[.int .i64 a] w fun e w' => e = .returned (.int .i64 0) ∧ w = w'))
    (R2 : Hid (Calls Tryz.prog 62 #[.int .i64 b] w fun e w' => e = .returned (.int .i64 1) ∧ w = w'))
    (R3 : Hid (Calls Tryz.prog 63 #[.int .i64 a] w fun e w' => e = .returned (.int .i64 2) ∧ w = w')) :
    Calls Tryz.prog 34 #[.int .i64 a, .int .i64 b] w fun e w' => e = .returned (.bool false) ∧ w = w' := by
    go_enter Tryz.func34, Tryz.ntmps34
    go_wp2_with fail
    refine (refRight_is HA.out _).mono ?_
    rintro e w' ⟨rfl, rfl⟩
    go_wp2_with fail
    refine (refRight_is HB.out _).mono ?_
    rintro e w' ⟨rfl, rfl⟩
    go_wp2_with fail
    refine R1.out.mono ?_
    rintro e w' ⟨rfl, rfl⟩
    go_wp2_with fail
    refine R2.out.mono ?_
    rintro e w' ⟨rfl, rfl⟩
    go_wp2_with fail
    refine R1.out.mono ?_
    rintro e w' ⟨rfl, rfl⟩
    go_wp2_with fail
    refine R2.out.mono ?_
    rintro e w' ⟨rfl, rfl⟩
    go_wp2_with fail
    refine R3.out.mono ?_
    rintro e w' ⟨rfl, rfl⟩
    go_wp2_with fail
    go_ret
    exact ⟨rfl, rfl⟩

set_option maxHeartbeats 1000000 in
theorem rt8 (a b : Int) (w : World) (HA : Hid (right a = true)) (HB : Hid (right b = true))
    (R1 : Hid (Calls Tryz.prog 62 #[.int .i64 a] w fun e w' => e = .returned (.int .i64 0) ∧ w = w'))
    (R2 : Hid (Calls Tryz.prog 62 #[.int .i64 b] w fun e w' => e = .returned (.int .i64 1) ∧ w = w'))
    (R3 : Hid (Calls Tryz.prog 63 #[.int .i64 a] w fun e w' => e = .returned (.int .i64 0) ∧ w = w')) :
    Calls Tryz.prog 34 #[.int .i64 a, .int .i64 b] w fun e w' => e = .returned (.bool true) ∧ w = w' := by
    go_enter Tryz.func34, Tryz.ntmps34
    go_wp2_with fail
    refine (refRight_is HA.out _).mono ?_
    rintro e w' ⟨rfl, rfl⟩
    go_wp2_with fail
    refine (refRight_is HB.out _).mono ?_
    rintro e w' ⟨rfl, rfl⟩
    go_wp2_with fail
    refine R1.out.mono ?_
    rintro e w' ⟨rfl, rfl⟩
    go_wp2_with fail
    refine R2.out.mono ?_
    rintro e w' ⟨rfl, rfl⟩
    go_wp2_with fail
    refine R1.out.mono ?_
    rintro e w' ⟨rfl, rfl⟩
    go_wp2_with fail
    refine R2.out.mono ?_
    rintro e w' ⟨rfl, rfl⟩
    go_wp2_with fail
    refine R3.out.mono ?_
    rintro e w' ⟨rfl, rfl⟩
    go_wp2_with fail
    go_ret
    exact ⟨rfl, rfl⟩

set_option maxHeartbeats 1000000 in
theorem rt9 (a b : Int) (w : World) (HA : Hid (right a = true)) (HB : Hid (right b = true))
    (R1 : Hid (Calls Tryz.prog 62 #[.int .i64 a] w fun e w' => e = .returned (.int .i64 0) ∧ w = w'))
    (R2 : Hid (Calls Tryz.prog 62 #[.int .i64 b] w fun e w' => e = .returned (.int .i64 1) ∧ w = w'))
    (R3 : Hid (Calls Tryz.prog 63 #[.int .i64 a] w fun e w' => e = .returned (.int .i64 1) ∧ w = w')) :
    Calls Tryz.prog 34 #[.int .i64 a, .int .i64 b] w fun e w' => e = .returned (.bool true) ∧ w = w' := by
    go_enter Tryz.func34, Tryz.ntmps34
    go_wp2_with fail
    refine (refRight_is HA.out _).mono ?_
    rintro e w' ⟨rfl, rfl⟩
    go_wp2_with fail
    refine (refRight_is HB.out _).mono ?_
    rintro e w' ⟨rfl, rfl⟩
    go_wp2_with fail
    refine R1.out.mono ?_
    rintro e w' ⟨rfl, rfl⟩
    go_wp2_with fail
    refine R2.out.mono ?_
    rintro e w' ⟨rfl, rfl⟩
    go_wp2_with fail
    refine R1.out.mono ?_
    rintro e w' ⟨rfl, rfl⟩
    go_wp2_with fail
    refine R2.out.mono ?_
    rintro e w' ⟨rfl, rfl⟩
    go_wp2_with fail
    refine R3.out.mono ?_
    rintro e w' ⟨rfl, rfl⟩
    go_wp2_with fail
    go_ret
    exact ⟨rfl, rfl⟩

set_option maxHeartbeats 1000000 in
theorem rt10 (a b : Int) (w : World) (HA : Hid (right a = true)) (HB : Hid (right b = true))
    (R1 : Hid (Calls Tryz.prog 62 #[.int .i64 a] w fun e w' => e = .returned (.int .i64 1) ∧ w = w'))
    (R2 : Hid (Calls Tryz.prog 62 #[.int .i64 b] w fun e w' => e = .returned (.int .i64 0) ∧ w = w'))
    (R4 : Hid (Calls Tryz.prog 63 #[.int .i64 b] w fun e w' => e = .returned (.int .i64 2) ∧ w = w')) :
    Calls Tryz.prog 34 #[.int .i64 a, .int .i64 b] w fun e w' => e = .returned (.bool false) ∧ w = w' := by
    go_enter Tryz.func34, Tryz.ntmps34
    go_wp2_with fail
    refine (refRight_is HA.out _).mono ?_
    rintro e w' ⟨rfl, rfl⟩
    go_wp2_with fail
    refine (refRight_is HB.out _).mono ?_
    rintro e w' ⟨rfl, rfl⟩
    go_wp2_with fail
    refine R1.out.mono ?_
    rintro e w' ⟨rfl, rfl⟩
    go_wp2_with fail
    refine R2.out.mono ?_
    rintro e w' ⟨rfl, rfl⟩
    go_wp2_with fail
    refine R1.out.mono ?_
    rintro e w' ⟨rfl, rfl⟩
    go_wp2_with fail
    refine R4.out.mono ?_
    rintro e w' ⟨rfl, rfl⟩
    go_wp2_with fail
    go_ret
    exact ⟨rfl, rfl⟩

set_option maxHeartbeats 1000000 in
theorem rt11 (a b : Int) (w : World) (HA : Hid (right a = true)) (HB : Hid (right b = true))
    (R1 : Hid (Calls Tryz.prog 62 #[.int .i64 a] w fun e w' => e = .returned (.int .i64 1) ∧ w = w'))
    (R2 : Hid (Calls Tryz.prog 62 #[.int .i64 b] w fun e w' => e = .returned (.int .i64 0) ∧ w = w'))
    (R4 : Hid (Calls Tryz.prog 63 #[.int .i64 b] w fun e w' => e = .returned (.int .i64 0) ∧ w = w')) :
    Calls Tryz.prog 34 #[.int .i64 a, .int .i64 b] w fun e w' => e = .returned (.bool true) ∧ w = w' := by
    go_enter Tryz.func34, Tryz.ntmps34
    go_wp2_with fail
    refine (refRight_is HA.out _).mono ?_
    rintro e w' ⟨rfl, rfl⟩
    go_wp2_with fail
    refine (refRight_is HB.out _).mono ?_
    rintro e w' ⟨rfl, rfl⟩
    go_wp2_with fail
    refine R1.out.mono ?_
    rintro e w' ⟨rfl, rfl⟩
    go_wp2_with fail
    refine R2.out.mono ?_
    rintro e w' ⟨rfl, rfl⟩
    go_wp2_with fail
    refine R1.out.mono ?_
    rintro e w' ⟨rfl, rfl⟩
    go_wp2_with fail
    refine R4.out.mono ?_
    rintro e w' ⟨rfl, rfl⟩
    go_wp2_with fail
    refine R2.out.mono ?_
    rintro e w' ⟨rfl, rfl⟩
    go_wp2_with fail
    go_ret
    exact ⟨rfl, rfl⟩

set_option maxHeartbeats 1000000 in
theorem rt12 (a b : Int) (w : World) (HA : Hid (right a = true)) (HB : Hid (right b = true))
    (R1 : Hid (Calls Tryz.prog 62 #[.int .i64 a] w fun e w' => e = .returned (.int .i64 1) ∧ w = w'))
    (R2 : Hid (Calls Tryz.prog 62 #[.int .i64 b] w fun e w' => e = .returned (.int .i64 0) ∧ w = w'))
    (R4 : Hid (Calls Tryz.prog 63 #[.int .i64 b] w fun e w' => e = .returned (.int .i64 1) ∧ w = w')) :
    Calls Tryz.prog 34 #[.int .i64 a, .int .i64 b] w fun e w' => e = .returned (.bool true) ∧ w = w' := by
    go_enter Tryz.func34, Tryz.ntmps34
    go_wp2_with fail
    refine (refRight_is HA.out _).mono ?_
    rintro e w' ⟨rfl, rfl⟩
    go_wp2_with fail
    refine (refRight_is HB.out _).mono ?_
    rintro e w' ⟨rfl, rfl⟩
    go_wp2_with fail
    refine R1.out.mono ?_
    rintro e w' ⟨rfl, rfl⟩
    go_wp2_with fail
    refine R2.out.mono ?_
    rintro e w' ⟨rfl, rfl⟩
    go_wp2_with fail
    refine R1.out.mono ?_
    rintro e w' ⟨rfl, rfl⟩
    go_wp2_with fail
    refine R4.out.mono ?_
    rintro e w' ⟨rfl, rfl⟩
    go_wp2_with fail
    refine R2.out.mono ?_
    rintro e w' ⟨rfl, rfl⟩
    go_wp2_with fail
    go_ret
    exact ⟨rfl, rfl⟩

set_option maxHeartbeats 1000000 in
theorem rt13 (a b : Int) (w : World) (HA : Hid (right a = true)) (HB : Hid (right b = true))
    (R1 : Hid (Calls Tryz.prog 62 #[.int .i64 a] w fun e w' => e = .returned (.int .i64 1) ∧ w = w'))
    (R2 : Hid (Calls Tryz.prog 62 #[.int .i64 b] w fun e w' => e = .returned (.int .i64 1) ∧ w = w'))
    (R4 : Hid (Calls Tryz.prog 63 #[.int .i64 b] w fun e w' => e = .returned (.int .i64 2) ∧ w = w')) :
    Calls Tryz.prog 34 #[.int .i64 a, .int .i64 b] w fun e w' => e = .returned (.bool false) ∧ w = w' := by
    go_enter Tryz.func34, Tryz.ntmps34
    go_wp2_with fail
    refine (refRight_is HA.out _).mono ?_
    rintro e w' ⟨rfl, rfl⟩
    go_wp2_with fail
    refine (refRight_is HB.out _).mono ?_
    rintro e w' ⟨rfl, rfl⟩
    go_wp2_with fail
    refine R1.out.mono ?_
    rintro e w' ⟨rfl, rfl⟩
    go_wp2_with fail
    refine R2.out.mono ?_
    rintro e w' ⟨rfl, rfl⟩
    go_wp2_with fail
    refine R1.out.mono ?_
    rintro e w' ⟨rfl, rfl⟩
    go_wp2_with fail
    refine R4.out.mono ?_
    rintro e w' ⟨rfl, rfl⟩
    go_wp2_with fail
    go_ret
    exact ⟨rfl, rfl⟩

set_option maxHeartbeats 1000000 in
theorem rt14 (a b : Int) (w : World) (HA : Hid (right a = true)) (HB : Hid (right b = true))
    (R1 : Hid (Calls Tryz.prog 62 #[.int .i64 a] w fun e w' => e = .returned (.int .i64 1) ∧ w = w'))
    (R2 : Hid (Calls Tryz.prog 62 #[.int .i64 b] w fun e w' => e = .returned (.int .i64 1) ∧ w = w'))
    (R3 : Hid (Calls Tryz.prog 63 #[.int .i64 a] w fun e w' => e = .returned (.int .i64 1) ∧ w = w'))
    (R4 : Hid (Calls Tryz.prog 63 #[.int .i64 b] w fun e w' => e = .returned (.int .i64 1) ∧ w = w')) :
    Calls Tryz.prog 34 #[.int .i64 a, .int .i64 b] w fun e w' => e = .returned (.bool true) ∧ w = w' := by
    go_enter Tryz.func34, Tryz.ntmps34
    go_wp2_with fail
    refine (refRight_is HA.out _).mono ?_
    rintro e w' ⟨rfl, rfl⟩
    go_wp2_with fail
    refine (refRight_is HB.out _).mono ?_
    rintro e w' ⟨rfl, rfl⟩
    go_wp2_with fail
    refine R1.out.mono ?_
    rintro e w' ⟨rfl, rfl⟩
    go_wp2_with fail
    refine R2.out.mono ?_
    rintro e w' ⟨rfl, rfl⟩
    go_wp2_with fail
    refine R1.out.mono ?_
    rintro e w' ⟨rfl, rfl⟩
    go_wp2_with fail
    refine R4.out.mono ?_
    rintro e w' ⟨rfl, rfl⟩
    go_wp2_with fail
    refine R2.out.mono ?_
    rintro e w' ⟨rfl, rfl⟩
    go_wp2_with fail
    refine R3.out.mono ?_
    rintro e w' ⟨rfl, rfl⟩
    go_wp2_with fail
    go_ret
    exact ⟨rfl, rfl⟩

set_option maxHeartbeats 1000000 in
theorem rt15 (a b : Int) (w : World) (HA : Hid (right a = true)) (HB : Hid (right b = true))
    (R1 : Hid (Calls Tryz.prog 62 #[.int .i64 a] w fun e w' => e = .returned (.int .i64 1) ∧ w = w'))
    (R2 : Hid (Calls Tryz.prog 62 #[.int .i64 b] w fun e w' => e = .returned (.int .i64 1) ∧ w = w'))
    (R3 : Hid (Calls Tryz.prog 63 #[.int .i64 a] w fun e w' => e = .returned (.int .i64 2) ∧ w = w'))
    (R4 : Hid (Calls Tryz.prog 63 #[.int .i64 b] w fun e w' => e = .returned (.int .i64 1) ∧ w = w')) :
    Calls Tryz.prog 34 #[.int .i64 a, .int .i64 b] w fun e w' => e = .returned (.bool false) ∧ w = w' := by
    go_enter Tryz.func34, Tryz.ntmps34
    go_wp2_with fail
    refine (refRight_is HA.out _).mono ?_
    rintro e w' ⟨rfl, rfl⟩
    go_wp2_with fail
    refine (refRight_is HB.out _).mono ?_
    rintro e w' ⟨rfl, rfl⟩
    go_wp2_with fail
    refine R1.out.mono ?_
    rintro e w' ⟨rfl, rfl⟩
    go_wp2_with fail
    refine R2.out.mono ?_
    rintro e w' ⟨rfl, rfl⟩
    go_wp2_with fail
    refine R1.out.mono ?_
    rintro e w' ⟨rfl, rfl⟩
    go_wp2_with fail
    refine R4.out.mono ?_
    rintro e w' ⟨rfl, rfl⟩
    go_wp2_with fail
    refine R2.out.mono ?_
    rintro e w' ⟨rfl, rfl⟩
    go_wp2_with fail
    refine R3.out.mono ?_
    rintro e w' ⟨rfl, rfl⟩
    go_wp2_with fail
    go_ret
    exact ⟨rfl, rfl⟩

theorem tog_cases0 : ∀ u v : Fin 6, wrN u.val = 0 → (wrN u.val = 0 ∧ wrN v.val = 2 ∧ ((u.val : Int) == 0) = false ∧ tog (u.val : Int) (v.val : Int) = false) ∨
    (wrN u.val = 0 ∧ wrN v.val = 2 ∧ ((u.val : Int) == 0) = true ∧ tog (u.val : Int) (v.val : Int) = true) ∨
    (wrN u.val = 0 ∧ wrN v.val = 0 ∧ tog (u.val : Int) (v.val : Int) = true) ∨
    (wrN u.val = 0 ∧ wrN v.val = 1 ∧ rdN u.val = 2 ∧ tog (u.val : Int) (v.val : Int) = false) ∨
    (wrN u.val = 0 ∧ wrN v.val = 1 ∧ rdN u.val = 0 ∧ tog (u.val : Int) (v.val : Int) = true) ∨
    (wrN u.val = 0 ∧ wrN v.val = 1 ∧ rdN u.val = 1 ∧ tog (u.val : Int) (v.val : Int) = true) := by decide +kernel
theorem tog_cases1 : ∀ u v : Fin 6, wrN u.val = 1 → (wrN u.val = 1 ∧ wrN v.val = 2 ∧ ((u.val : Int) == 0) = false ∧ tog (u.val : Int) (v.val : Int) = false) ∨
    (wrN u.val = 1 ∧ wrN v.val = 0 ∧ rdN v.val = 2 ∧ tog (u.val : Int) (v.val : Int) = false) ∨
    (wrN u.val = 1 ∧ wrN v.val = 0 ∧ rdN v.val = 0 ∧ tog (u.val : Int) (v.val : Int) = true) ∨
    (wrN u.val = 1 ∧ wrN v.val = 0 ∧ rdN v.val = 1 ∧ tog (u.val : Int) (v.val : Int) = true) ∨
    (wrN u.val = 1 ∧ wrN v.val = 1 ∧ rdN v.val = 2 ∧ tog (u.val : Int) (v.val : Int) = false) ∨
    (wrN u.val = 1 ∧ wrN v.val = 1 ∧ rdN u.val = 1 ∧ rdN v.val = 1 ∧ tog (u.val : Int) (v.val : Int) = true) ∨
    (wrN u.val = 1 ∧ wrN v.val = 1 ∧ rdN u.val = 2 ∧ rdN v.val = 1 ∧ tog (u.val : Int) (v.val : Int) = false) := by decide +kernel
theorem tog_cases2 : ∀ u v : Fin 6, wrN u.val = 2 → (wrN u.val = 2 ∧ ((v.val : Int) == 0) = false ∧ tog (u.val : Int) (v.val : Int) = false) ∨
    (wrN u.val = 2 ∧ wrN v.val = 0 ∧ ((v.val : Int) == 0) = true ∧ tog (u.val : Int) (v.val : Int) = true) := by decide +kernel
theorem wr_three : ∀ u : Fin 6, wrN u.val = 0 ∨ wrN u.val = 1 ∨ wrN u.val = 2 := by decide +kernel

theorem refTog_any (a b : Int) (w : World) : Calls Tryz.prog 34 #[.int .i64 a, .int .i64 b] w fun e w' => e = .returned (.bool (tog a b)) ∧ w = w' := by
  cases ha : right a
  · have hs : tog a b = false := by simp [tog, ha]
    rw [hs]
    clear hs
    have HA := Lib.hid ha
    clear ha
    go_enter Tryz.func34, Tryz.ntmps34
    go_wp2_with fail
    refine (refRight_is HA.out _).mono ?_
    rintro e w' ⟨rfl, rfl⟩
    go_wp2_with fail
    go_ret
    exact ⟨rfl, rfl⟩
  cases hb : right b
  · have hs : tog a b = false := by simp [tog, hb]
    rw [hs]
    clear hs
    have HA := Lib.hid ha
    have HB := Lib.hid hb
    clear ha hb
    go_enter Tryz.func34, Tryz.ntmps34
    go_wp2_with fail
    refine (refRight_is HA.out _).mono ?_
    rintro e w' ⟨rfl, rfl⟩
    go_wp2_with fail
    refine (refRight_is HB.out _).mono ?_
    rintro e w' ⟨rfl, rfl⟩
    go_wp2_with fail
    go_ret
    exact ⟨rfl, rfl⟩
  obtain ⟨u, rfl⟩ := as_fin ha
  obtain ⟨v, rfl⟩ := as_fin hb
  rcases wr_three u with h0 | h1 | h2
  · rcases tog_cases0 u v h0 with hc | hc | hc | hc | hc | hc
    · obtain ⟨q0, q1, q2, q3⟩ := hc
      rw [q3]
      exact rt3 _ _ w (Lib.hid ha) (Lib.hid hb) (Lib.hid (writes_is ha (by simpa using q0) w)) (Lib.hid (writes_is hb (by simpa using q1) w)) (by simp_all)
    · obtain ⟨q0, q1, q2, q3⟩ := hc
      rw [q3]
      exact rt5 _ _ w (Lib.hid ha) (Lib.hid hb) (Lib.hid (writes_is ha (by simpa using q0) w)) (Lib.hid (writes_is hb (by simpa using q1) w)) (by simp_all)
    · obtain ⟨q0, q1, q2⟩ := hc
      rw [q2]
      exact rt6 _ _ w (Lib.hid ha) (Lib.hid hb) (Lib.hid (writes_is ha (by simpa using q0) w)) (Lib.hid (writes_is hb (by simpa using q1) w))
    · obtain ⟨q0, q1, q2, q3⟩ := hc
      rw [q3]
      exact rt7 _ _ w (Lib.hid ha) (Lib.hid hb) (Lib.hid (writes_is ha (by simpa using q0) w)) (Lib.hid (writes_is hb (by simpa using q1) w)) (Lib.hid (reads_is ha (by simpa using q2) w))
    · obtain ⟨q0, q1, q2, q3⟩ := hc
      rw [q3]
      exact rt8 _ _ w (Lib.hid ha) (Lib.hid hb) (Lib.hid (writes_is ha (by simpa using q0) w)) (Lib.hid (writes_is hb (by simpa using q1) w)) (Lib.hid (reads_is ha (by simpa using q2) w))
    · obtain ⟨q0, q1, q2, q3⟩ := hc
      rw [q3]
      exact rt9 _ _ w (Lib.hid ha) (Lib.hid hb) (Lib.hid (writes_is ha (by simpa using q0) w)) (Lib.hid (writes_is hb (by simpa using q1) w)) (Lib.hid (reads_is ha (by simpa using q2) w))
  · rcases tog_cases1 u v h1 with hc | hc | hc | hc | hc | hc | hc
    · obtain ⟨q0, q1, q2, q3⟩ := hc
      rw [q3]
      exact rt4 _ _ w (Lib.hid ha) (Lib.hid hb) (Lib.hid (writes_is ha (by simpa using q0) w)) (Lib.hid (writes_is hb (by simpa using q1) w)) (by simp_all)
    · obtain ⟨q0, q1, q2, q3⟩ := hc
      rw [q3]
      exact rt10 _ _ w (Lib.hid ha) (Lib.hid hb) (Lib.hid (writes_is ha (by simpa using q0) w)) (Lib.hid (writes_is hb (by simpa using q1) w)) (Lib.hid (reads_is hb (by simpa using q2) w))
    · obtain ⟨q0, q1, q2, q3⟩ := hc
      rw [q3]
      exact rt11 _ _ w (Lib.hid ha) (Lib.hid hb) (Lib.hid (writes_is ha (by simpa using q0) w)) (Lib.hid (writes_is hb (by simpa using q1) w)) (Lib.hid (reads_is hb (by simpa using q2) w))
    · obtain ⟨q0, q1, q2, q3⟩ := hc
      rw [q3]
      exact rt12 _ _ w (Lib.hid ha) (Lib.hid hb) (Lib.hid (writes_is ha (by simpa using q0) w)) (Lib.hid (writes_is hb (by simpa using q1) w)) (Lib.hid (reads_is hb (by simpa using q2) w))
    · obtain ⟨q0, q1, q2, q3⟩ := hc
      rw [q3]
      exact rt13 _ _ w (Lib.hid ha) (Lib.hid hb) (Lib.hid (writes_is ha (by simpa using q0) w)) (Lib.hid (writes_is hb (by simpa using q1) w)) (Lib.hid (reads_is hb (by simpa using q2) w))
    · obtain ⟨q0, q1, q2, q3, q4⟩ := hc
      rw [q4]
      exact rt14 _ _ w (Lib.hid ha) (Lib.hid hb) (Lib.hid (writes_is ha (by simpa using q0) w)) (Lib.hid (writes_is hb (by simpa using q1) w)) (Lib.hid (reads_is ha (by simpa using q2) w)) (Lib.hid (reads_is hb (by simpa using q3) w))
    · obtain ⟨q0, q1, q2, q3, q4⟩ := hc
      rw [q4]
      exact rt15 _ _ w (Lib.hid ha) (Lib.hid hb) (Lib.hid (writes_is ha (by simpa using q0) w)) (Lib.hid (writes_is hb (by simpa using q1) w)) (Lib.hid (reads_is ha (by simpa using q2) w)) (Lib.hid (reads_is hb (by simpa using q3) w))
  · rcases tog_cases2 u v h2 with hc | hc
    · obtain ⟨q0, q1, q2⟩ := hc
      rw [q2]
      exact rt1 _ _ w (Lib.hid ha) (Lib.hid hb) (Lib.hid (writes_is ha (by simpa using q0) w)) (by simp_all)
    · obtain ⟨q0, q1, q2, q3⟩ := hc
      rw [q3]
      exact rt2 _ _ w (Lib.hid ha) (Lib.hid hb) (Lib.hid (writes_is ha (by simpa using q0) w)) (Lib.hid (writes_is hb (by simpa using q1) w)) (by simp_all)
theorem jn_is {a b r : Int} (h : jn a b = r) (w : World) (hT : Tab w) : Calls Tryz.prog 42 #[.int .i64 a, .int .i64 b] w (RD w (.int .i64 r)) := by
  rw [← h]; exact jn_any a b w hT
end Go.Proofs.YthbifccankfngaaGreatDoor

/-
  Blocks of cells, whole structs in them, rows, slices with nothing in them: the laws that the walks of this layer take.
  Conditions: none beyond those that each theorem names.
-/

namespace Go.Proofs.YthbifccankfngaaGreatDoor
open Go.RowKit
set_option maxRecDepth 8000

theorem heap_set (w : World) (g i : Nat) (cs : Array Value) (t : TypeId) (u : Value) (h : w.heap[g]? = some (.cells cs t (0, 0))) :
    (w.setCell ⟨g, i, none⟩ u).heap[g]? = some (.cells (cs.setIfInBounds i u) t (0, 0)) := by
  simp [World.setCell, Array.getElem?_modify, h]
def At (w : World) (g : Nat) (t : TypeId) (cs : Array Value) : Prop := w.heap[g]? = some (.cells cs t (0, 0))
section
variable {w w' : World} {g : Nat} {t : TypeId} {cs : Array Value}
theorem At.lt (h : At w g t cs) : g < w.heap.size := (Array.getElem?_eq_some_iff.1 h).1
theorem At.cell (h : At w g t cs) (k : Nat) : w.cell? ⟨g, k, none⟩ = cs[k]? := cell_of_row w g k _ _ _ h
theorem At.frozen (h : At w g t cs) (k : Nat) : w.frozen? ⟨g, k, none⟩ = false := frozen_of_row w g k _ _ h
theorem At.under {B : Nat} (h : At w g t cs) (hb : Below B w w') (hg : g < B) : At w' g t cs := (hb.block g hg).trans h
theorem At.grown {row : Option Nat} (h : At w g t cs) (hb : w.grownBy w' row) (hg : some g ≠ row) : At w' g t cs := (hb.block g h.lt hg).trans h
theorem At.alloc (h : At w g t cs) (o : Obj) : At (w.alloc o) g t cs := (Below.heap_alloc w o g h.lt).trans h
theorem At.set (h : At w g t cs) (k : Nat) (u : Value) : At (w.setCell ⟨g, k, none⟩ u) g t (cs.setIfInBounds k u) := heap_set w g k _ _ u h
theorem At.other (h : At w g t cs) {p : Addr} (hp : g ≠ p.block) (u : Value) : At (w.setCell p u) g t cs := (Below.heap_setCell w p u g hp).trans h
end
theorem At.new (w : World) (t : TypeId) (cs : Array Value) : At (w.alloc (.cells cs t)) w.heap.size t cs := heap_alloc_new w _

def UC (l : List Nat) : List Value := l.map fun n : Nat => Value.int .u64 (n : Int)
theorem UC_length (l : List Nat) : (UC l).length = l.length := by simp [UC]
theorem UC_append (l m : List Nat) : UC (l ++ m) = UC l ++ UC m := by simp [UC]
theorem UC_get (l : List Nat) (k : Nat) (h : k < l.length) : (UC l)[k]? = some (.int .u64 (l[k] : Nat)) := by simp [UC, h]
theorem UC_one (l : List Nat) : ∀ u ∈ UC l, u.oneCell' = true := by
  intro u hu
  obtain ⟨b, _, rfl⟩ := List.mem_map.1 hu
  rfl
section
variable {P : Program} (w : World)
/-- append(v, x...), and where the row lies behind it. -/
theorem run_append_lies2 (base : Nat) (t ty e : TypeId) (i : TypeInfo) (z : Value) (size bytes : Nat) (ht : P.underlying t = some (.slice e)) (hi : P.info? e = some i) (hz : i.zero = some z)
    (hsize : i.size = size) (hby : i.bytes = bytes) (hzs : z.cells.size = size) (hsz : 0 < size)
    (v : Value) (n : Nat) (xs : List Value) (hown : w.ownsRow base e size v n xs)
    (B : Nat) (A : Option Addr) (m c : Nat) (news : List Value) (hr : Lies w B size A m news) (h1 : ∀ u ∈ news, u.oneCell' = true) (hm : 0 < m)
    (h63 : n + m ≤ maxLen) (hbytes : (n + m) * bytes ≤ 140737488355328) (hbase : base ≤ w.heap.size) :
    ∃ v' w', (Builtin.append_ #[t, t] ty #[v, .slice A m c]).run P w = .ok v' w' ∧ w'.ownsRow base e size v' (n + m) (xs ++ news) ∧ w.grownBy w' v.ownBlock ∧ (v'.ownBlock = v.ownBlock ∨ v'.ownBlock = some w.heap.size) := by
  obtain ⟨a, rfl, _, hx⟩ := hr.spot hm
  obtain ⟨v', w', h2, h3, h4, _, h5⟩ := run_append_own_at (P := P) w base t ty e i z size bytes ht hi hz hsize hby hzs hsz v n xs hown a m c news hr.len hx h1 h63 hbytes hbase
  exact ⟨v', w', h2, h3, h4, h5⟩
theorem wpList_app2 {ops : Array Oper} {rest : List Oper} {o : Oper} {a : Act} {Q : Exit → Act → World → Prop} (hgd : o.guard = none) (s x : Operand) (t : TypeId)
    (ho : o.op = .call { callee := .builtin .append, args := #[s, x], argTypes := #[t, t] })
    (base : Nat) (e : TypeId) (i : TypeInfo) (z : Value) (size bytes : Nat) (ht : P.underlying t = some (.slice e)) (hi : P.info? e = some i) (hz : i.zero = some z)
    (hsize : i.size = size) (hby : i.bytes = bytes) (hzs : z.cells.size = size) (hsz : 0 < size)
    (v : Value) (n : Nat) (xs : List Value) (hs : a.eval s = v) (hown : w.ownsRow base e size v n xs)
    (B : Nat) (A : Option Addr) (m c : Nat) (news : List Value) (hx : a.eval x = .slice A m c) (hr : Lies w B size A m news) (h1 : ∀ u ∈ news, u.oneCell' = true) (hm : 0 < m)
    (h63 : n + m ≤ maxLen) (hbytes : (n + m) * bytes ≤ 140737488355328) (hbase : base ≤ w.heap.size)
    (h : ∀ v' w', w'.ownsRow base e size v' (n + m) (xs ++ news) → w.grownBy w' v.ownBlock → (v'.ownBlock = v.ownBlock ∨ v'.ownBlock = some w.heap.size) → wpList P ops Q rest (a.put o.dst v') w') : wpList P ops Q (o :: rest) a w := by
  obtain ⟨v', w', hrun, h2, h3, h4⟩ := run_append_lies2 (P := P) w base t o.type e i z size bytes ht hi hz hsize hby hzs hsz v n xs hown B A m c news hr h1 hm h63 hbytes hbase
  exact Lib.wpList_append_run w hgd s x t t ho v _ hs hx v' w' hrun (h v' w' h2 h3 h4)
end
theorem at_range {w : World} {g : Nat} {t : TypeId} {cs : List Value} (h : At w g t cs.toArray) : w.rangeAt g 0 cs := fun j v hv => by
  rw [Nat.zero_add, h.cell j]
  simpa using hv

/-- A type of several cells. -/
def Str (ty : TypeId) (n : Nat) : Prop := ∃ d, Tryz.prog.underlying ty = some d ∧ (match d with | .struct _ | .array _ _ => true | _ => false) = true ∧ (Tryz.prog.info? ty).map (·.size) = some n
theorem strC : Str 54 2 := ⟨_, Tryz.underlying54, rfl, by kernel_rfl⟩
theorem strR : Str 33 2 := ⟨_, Tryz.underlying33, rfl, by kernel_rfl⟩
theorem strTh : Str 79 2 := ⟨_, Tryz.underlying79, rfl, by kernel_rfl⟩
theorem strTab : Str 61 3 := ⟨_, Tryz.underlying61, rfl, by kernel_rfl⟩
theorem strrC : Str 72 4 := ⟨_, Tryz.underlying72, rfl, by kernel_rfl⟩
theorem strrT : Str 28 2 := ⟨_, Tryz.underlying28, rfl, by kernel_rfl⟩
theorem strOp : Str 35 5 := ⟨_, Tryz.underlying35, rfl, by kernel_rfl⟩
section
variable {ops : Array Oper} {rest : List Oper} {op : Oper} {a : Act} {w : World} {Q : Exit → Act → World → Prop}
theorem wpList_load_at (ty d : Nat) (x : Operand) (hop : op.dst = some d) (hgd : op.guard = none) (ho : op.op = .load ty x) (g : Nat) (hx : a.eval x = .pointer (some ⟨g, 0, none⟩)) (cs : Array Value) (n : Nat) (hs : Str ty n) (hn : cs.size = n)
    (hc : At w g ty cs) (h : wpList Tryz.prog ops Q rest (a.put (some d) (.agg cs)) w) : wpList Tryz.prog ops Q (op :: rest) a w := by
  obtain ⟨ds, h1, h2, h3⟩ := hs
  refine wpList_load_row hgd ty x ho g hx ty cs (0, 0) ds hc h1 (by cases ds <;> first | rfl | cases h2) (by rw [hn]; exact h3) ?_
  rw [hop]
  exact h
theorem grown_setRow (w : World) (g : Nat) (cs : Array Value) : w.grownBy (w.setRow g cs) (some g) :=
  ⟨rfl, rfl, rfl, by simp, fun k _ hk => setRow_other w g k cs (fun e => hk (by rw [e]))⟩
theorem wpList_store_at (ty : Nat) (x y : Operand) (hop : op.dst = none) (hgd : op.guard = none) (ho : op.op = .store ty x y) (g : Nat) (hx : a.eval x = .pointer (some ⟨g, 0, none⟩)) (cs old : Array Value) (n : Nat) (hy : a.eval y = .agg cs)
    (hs : Str ty n) (hn : cs.size = n) (hn2 : old.size = n) (h1 : cs.all (·.oneCell') = true) (hc : At w g ty old)
    (h : ∀ w', At w' g ty cs → w.grownBy w' (some g) → wpList Tryz.prog ops Q rest (a.put none undef) w') : wpList Tryz.prog ops Q (op :: rest) a w := by
  obtain ⟨ds, _, _, h3⟩ := hs
  refine wpList_store_row hgd ty x y ho g cs hx hy ty old hc (by rw [hn]; exact h3) (by rw [hn, hn2]) h1 ?_
  rw [hop]
  exact h _ (setRow_heap w g old cs ty (0, 0) hc) (grown_setRow w g cs)
/-- A store into the block that was made just before. -/
theorem wpList_store_new (ty : Nat) (x y : Operand) (hop : op.dst = none) (hgd : op.guard = none) (ho : op.op = .store ty x y) (g : Nat) (w0 : World) (hg : g = w0.heap.size) (hx : a.eval x = .pointer (some ⟨g, 0, none⟩)) (cs old : Array Value) (n : Nat) (hy : a.eval y = .agg cs)
    (hs : Str ty n) (hn : cs.size = n) (hn2 : old.size = n) (h1 : cs.all (·.oneCell') = true) (hw : w = w0.alloc (.cells old ty))
    (h : wpList Tryz.prog ops Q rest (a.put none undef) (w0.alloc (.cells cs ty))) : wpList Tryz.prog ops Q (op :: rest) a w := by
  subst hg hw
  obtain ⟨ds, _, _, h3⟩ := hs
  refine wpList_store_row hgd ty x y ho w0.heap.size cs hx hy ty old (heap_alloc_new w0 _) (by rw [hn]; exact h3) (by rw [hn, hn2]) h1 ?_
  rw [hop, World.setRow_alloc_new]
  exact h
/-- A struct among others is loaded. -/
theorem wpList_load_in (ty d : Nat) (x : Operand) (hop : op.dst = some d) (hgd : op.guard = none) (ho : op.op = .load ty x) (g o : Nat) (hx : a.eval x = .pointer (some ⟨g, o, none⟩)) (cs : List Value) (n : Nat) (hs : Str ty n) (hn : cs.length = n)
    (hc : w.rangeAt g o cs) (h : wpList Tryz.prog ops Q rest (a.put (some d) (.agg cs.toArray)) w) : wpList Tryz.prog ops Q (op :: rest) a w := by
  obtain ⟨ds, h1, h2, h3⟩ := hs
  refine wpList_load_mid hgd ty x ho g o hx cs ds hc h1 h2 (by rw [hn]; exact h3) ?_
  rw [hop]
  exact h
end
/-- What a function hands back that returns a struct out of a cell, and a value beside it. -/
theorem results_at2 {fn : Func} {p t : Tmp} {ty : TypeId} {tmps : Array Value} {w : World} {g n : Nat} {cs : Array Value} {v : Value} (hp : tmps.getD p undef = .pointer (some ⟨g, 0, none⟩)) (hc : At w g ty cs) (hs : Str ty n) (hn : cs.size = n)
    (h : fn.results = #[.cell p ty, .tmp t]) (hv : tmps.getD t undef = v) : (results fn tmps).run Tryz.prog w = .ok (.tuple #[.agg cs, v]) w := by
  obtain ⟨ds, h1, h2, h3⟩ := hs
  have hp' : tmps[p]?.getD undef = .pointer (some ⟨g, 0, none⟩) := by simpa using hp
  have hv' : tmps[t]?.getD undef = v := by simpa using hv
  have hl := run_loadVar_row w g ty ty cs (0, 0) ds hc h1 (by cases ds <;> first | rfl | cases h2) (by rw [hn]; exact h3)
  simp [results, h, hp', hv', asAddr, hl]
section
variable {op : Oper} {a : Act} {w : World} {K : Act → World → Prop} {Q : Exit → Act → World → Prop}
theorem wp_store_at (ty : Nat) (x y : Operand) (hop : op.dst = none) (ho : op.op = .store ty x y) (g : Nat) (hx : a.eval x = .pointer (some ⟨g, 0, none⟩)) (cs old : Array Value) (n : Nat) (hy : a.eval y = .agg cs)
    (hs : Str ty n) (hn : cs.size = n) (hn2 : old.size = n) (h1 : cs.all (·.oneCell') = true) (hc : At w g ty old)
    (h : ∀ w', At w' g ty cs → w.grownBy w' (some g) → K (a.put none undef) w') : op.wp Tryz.prog a w K Q := by
  obtain ⟨ds, _, _, h3⟩ := hs
  refine wp_store_row ty x y ho g cs hx hy ty old hc (by rw [hn]; exact h3) (by rw [hn, hn2]) h1 ?_
  rw [hop]
  exact h _ (setRow_heap w g old cs ty (0, 0) hc) (grown_setRow w g cs)
theorem exec_load_at (ty : Nat) (x : Operand) (ho : op.op = .load ty x) (g : Nat) (hx : a.eval x = .pointer (some ⟨g, 0, none⟩)) (cs : Array Value) (n : Nat) (hs : Str ty n) (hn : cs.size = n) (hc : At w g ty cs) :
    (execOp a.eval op).run Tryz.prog w = .ok (.value (.agg cs)) w := by
  obtain ⟨ds, h1, h2, h3⟩ := hs
  unfold execOp
  simp only [ho, hx, Instr.loadAt, Instr.sureAddr, Sem.run_bind, Sem.run_pure, Result.andThen_ok, run_loadVar_row w g ty ty cs (0, 0) ds hc h1 (by cases ds <;> first | rfl | cases h2) (by rw [hn]; exact h3)]
theorem exec_load_in (ty : Nat) (x : Operand) (ho : op.op = .load ty x) (g o : Nat) (hx : a.eval x = .pointer (some ⟨g, o, none⟩)) (cs : List Value) (n : Nat) (hs : Str ty n) (hn : cs.length = n) (hc : w.rangeAt g o cs) :
    (execOp a.eval op).run Tryz.prog w = .ok (.value (.agg cs.toArray)) w := by
  obtain ⟨ds, h1, h2, h3⟩ := hs
  unfold execOp
  simp only [ho, hx, Instr.loadAt, Instr.sureAddr, Sem.run_bind, Sem.run_pure, Result.andThen_ok, run_loadVar_mid w g o ty cs ds hc h1 (by cases ds <;> first | rfl | cases h2) (by rw [hn]; exact h3)]
end
theorem own_cells {w : World} {base : Nat} {e : TypeId} {size : Nat} {v : Value} {n : Nat} {xs : List Value} (h : w.ownsRow base e size v n xs) {g : Nat} (hg : v.ownBlock = some g) : base ≤ g ∧ ∃ cur, w.heap[g]? = some (.cells cur e (0, 0)) := by
  rcases h.2 with ⟨rfl, _⟩ | ⟨g', cap, cur, hv, hbg, hg', _⟩
  · cases hg
  · rw [hv] at hg
    injection hg with hg
    subst hg
    exact ⟨hbg, cur, hg'⟩
/-- A block of cells of one type is not the row of another. -/
theorem own_ne {w : World} {base : Nat} {e : TypeId} {size : Nat} {v : Value} {n : Nat} {xs : List Value} (h : w.ownsRow base e size v n xs) {g : Nat} {t : TypeId} {cs : Array Value} (ha : At w g t cs) (ht : t ≠ e) : some g ≠ v.ownBlock := by
  intro hg
  obtain ⟨_, cur, hc⟩ := own_cells h hg.symm
  rw [show w.heap[g]? = some (.cells cs t (0, 0)) from ha] at hc
  injection hc with hc
  injection hc with _ hc
  exact ht hc
theorem own_map {w : World} {base : Nat} {e : TypeId} {size : Nat} {v : Value} {n : Nat} {xs : List Value} (h : w.ownsRow base e size v n xs) {b : Nat} {es : Array MapEntry} {c : Nat} (hb : w.heap[b]? = some (.map es c)) : some b ≠ v.ownBlock := by
  intro hg
  obtain ⟨_, cur, hc⟩ := own_cells h hg.symm
  rw [hb] at hc
  cases hc
section
variable {X Y : Nat → Prop} {w w' : World} {size n : Nat} {A : Option Addr} {xs : List Value}
/-- A slice that reads as a list of cells, in a block outside X, wherever in it. -/
structure La (X : Nat → Prop) (w : World) (size : Nat) (A : Option Addr) (n : Nat) (xs : List Value) : Prop where
  len : xs.length = n * size
  spot : 0 < n → ∃ a, A = some a ∧ ¬ X a.block ∧ a.block < w.heap.size ∧ ∀ j u, xs[j]? = some u → w.cell? (a.add j) = some u
theorem La.kept (h : La X w size A n xs) (hm : Mod X w w') : La X w' size A n xs := by
  refine ⟨h.len, fun hn => ?_⟩
  obtain ⟨a, ha, hx, hb, hr⟩ := h.spot hn
  refine ⟨a, ha, hx, Nat.lt_of_lt_of_le hb hm.size, fun j u hu => ?_⟩
  rw [World.cell?_of_block (w := w) (a := a.add j) (by rw [add_block]; exact hm.block _ hb hx)]
  exact hr j u hu
theorem La.mono (h : La X w size A n xs) (hY : ∀ k, k < w.heap.size → Y k → X k) : La Y w size A n xs := by
  refine ⟨h.len, fun hn => ?_⟩
  obtain ⟨a, ha, hx, hb, hr⟩ := h.spot hn
  exact ⟨a, ha, fun hy => hx (hY _ hb hy), hb, hr⟩
theorem La.below (h : La X w size A n xs) (hb : Below w.heap.size w w') : La X w' size A n xs := h.kept (Mod.of_below hb X)
theorem La.alloc (h : La X w size A n xs) (o : Obj) : La X (w.alloc o) size A n xs := h.kept ((Mod.refl X w).alloc o)
theorem La.empty : La X w size A 0 [] := ⟨by simp, fun h => absurd h (Nat.lt_irrefl 0)⟩
theorem Lz.la (h : Lz X w size A n xs) : La X w size A n xs := by
  refine ⟨h.len, fun hn => ?_⟩
  obtain ⟨b, o, ha, hx, hb, hr⟩ := h.spot hn
  exact ⟨_, ha, hx, hb, fun j u hu => by rw [add_plain]; exact hr j u hu⟩
theorem La.lies (h : La X w size A n xs) : Lies w w.heap.size size A n xs := by
  refine ⟨h.len, fun hn => ?_⟩
  obtain ⟨a, ha, _, hb, hr⟩ := h.spot hn
  exact ⟨a, ha, hb, hr⟩
theorem Lies.la (h : Lies w w.heap.size size A n xs) (hX : ∀ a, A = some a → ¬ X a.block) : La X w size A n xs := by
  refine ⟨h.len, fun hn => ?_⟩
  obtain ⟨a, ha, hb, hr⟩ := h.spot hn
  exact ⟨a, ha, hX a ha, hb, hr⟩
theorem La.nil_of_none (h : La X w size none n xs) : n = 0 ∧ xs = [] := by
  by_cases hn : n = 0
  · subst hn
    exact ⟨rfl, List.eq_nil_of_length_eq_zero (by rw [h.len]; simp)⟩
  · obtain ⟨a, ha, _⟩ := h.spot (by omega)
    cases ha
theorem La.cells {a : Addr} (h : La X w size (some a) n xs) : ∀ j u, xs[j]? = some u → w.cell? (a.add j) = some u := by
  intro j u hu
  by_cases hn : n = 0
  · subst hn
    have : xs = [] := List.eq_nil_of_length_eq_zero (by rw [h.len]; simp)
    subst this
    simp at hu
  · obtain ⟨a', ha, _, _, hr⟩ := h.spot (by omega)
    injection ha with ha
    subst ha
    exact hr j u hu
end
end Go.Proofs.YthbifccankfngaaGreatDoor

/-
  Claims in memory; the walks of hinders, of, held, admits over the library's IndexFunc and ContainsFunc.
  Conditions: at most 100000 claims.
-/

namespace Go.Proofs.YthbifccankfngaaGreatDoor
open Go.RowKit Go.Shelf
attribute [local go_sem] Oper.semAt_some
set_option maxRecDepth 20000

def cmP (c : Cm) : Value × Value := (.int .u64 (c.1 : Int), .int .i64 c.2)
def cmV (c : Cm) : List Value := [.int .u64 (c.1 : Int), .int .i64 c.2]
def cmA (c : Cm) : Array Value := #[.int .u64 (c.1 : Int), .int .i64 c.2]
def cmL (l : List Cm) : List Value := flat2 (l.map cmP)
theorem cmL_length (l : List Cm) : (cmL l).length = l.length * 2 := by rw [cmL, flat2_length, List.length_map]
theorem cmL_append (a b : List Cm) : cmL (a ++ b) = cmL a ++ cmL b := by rw [cmL, List.map_append, flat2_append]; rfl
theorem cmL_cons (c : Cm) (l : List Cm) : cmL (c :: l) = cmV c ++ cmL l := rfl
theorem cmL_get (l : List Cm) (k : Nat) (h : k < l.length) : (cmL l)[k * 2]? = some (.int .u64 (l[k].1 : Int)) ∧ (cmL l)[k * 2 + 1]? = some (.int .i64 l[k].2) := by
  have := flat2_get (l.map cmP) k (by simpa using h)
  simpa [cmL, cmP] using this
theorem cmA_one (c : Cm) : (cmA c).all (·.oneCell') = true := by simp [cmA, Value.oneCell']
theorem cmL_one : ∀ l : List Cm, ∀ u ∈ cmL l, u.oneCell' = true
  | [], u, h => by cases h
  | c :: l, u, h => by
    rw [cmL_cons] at h
    rcases List.mem_append.1 h with h | h
    · simp [cmV] at h
      rcases h with rfl | rfl <;> rfl
    · exact cmL_one l u h
theorem cm_range {w : World} {b o : Nat} {l : List Cm} {k : Nat} (h : w.rangeAt b o (cmL l)) (hk : k < l.length) : w.rangeAt b (o + k * 2) (cmV l[k]) := fun j v hv => by
  have h2 := cmL_get l k hk
  match j, hv with
  | 0, hv =>
    have := h (k * 2) _ h2.1
    simp [cmV] at hv
    rw [← hv]
    exact this
  | 1, hv =>
    have := h (k * 2 + 1) _ h2.2
    simp [cmV] at hv
    rw [← hv, show o + k * 2 + 1 = o + (k * 2 + 1) by omega]
    exact this
/-- A slice of claims outside X: its k-th. -/
theorem Lz.cm {X : Nat → Prop} {w : World} {A : Option Addr} {n k : Nat} {l : List Cm} (h : Lz X w 2 A n (cmL l)) (hk : k < n) : ∃ b o, ∃ hl : k < l.length, A = some ⟨b, o, none⟩ ∧ ¬ X b ∧ b < w.heap.size ∧ w.rangeAt b (o + k * 2) (cmV l[k]) := by
  have hl : k < l.length := by have := h.len; rw [cmL_length] at this; omega
  obtain ⟨b, o, h1, h2, h3, h4⟩ := h.spot (by omega)
  exact ⟨b, o, hl, h1, h2, h3, cm_range h4 hl⟩
theorem Lz.cmlen {X : Nat → Prop} {w : World} {A : Option Addr} {n : Nat} {l : List Cm} (h : Lz X w 2 A n (cmL l)) : l.length = n := by
  have := h.len
  rw [cmL_length] at this
  omega
/-- What it returns; behind it everything that was there is as it was. -/
def RetB (w : World) (v : Value) (e : Ending) (w' : World) : Prop := e = .returned v ∧ Below w.heap.size w w'
theorem RetB.of {w0 w w' : World} {v : Value} {e : Ending} (hb : Below w0.heap.size w0 w) (h : RetB w v e w') : RetB w0 v e w' := ⟨h.1, hb.trans (h.2.mono hb.size)⟩

theorem nat_beq (a b : Nat) : ((a : Int) == (b : Int)) = (a == b) := by
  by_cases h : a = b
  · subst h
    rw [beq_self_eq_true, beq_self_eq_true]
  · have h2 : (a : Int) ≠ (b : Int) := by omega
    rw [beq_eq_false_iff_ne.2 h, beq_eq_false_iff_ne.2 h2]
theorem nat_bne (a b : Nat) : ((a : Int) != (b : Int)) = (a != b) := by
  unfold bne
  rw [nat_beq]
theorem tab_below {w z : World} (h : Tab w) (hb : Below w.heap.size w z) : Tab z := by
  have hs := h.size
  exact ⟨Nat.lt_of_lt_of_le hs hb.size, fun i j hi hj => (hb.cell (p := ⟨0, i * 6 + j, none⟩) (by show 0 < _; omega)).trans (h.comp i j hi hj), fun i hi => (hb.cell (p := ⟨1, i * 2, none⟩) (by show 1 < _; omega)).trans (h.rd i hi), fun i hi => (hb.cell (p := ⟨1, i * 2 + 1, none⟩) (by show 1 < _; omega)).trans (h.wr i hi)⟩

set_option maxHeartbeats 800000 in
theorem hinders_any (c d : Cm) (w : World) (hT : Tab w) : Calls Tryz.prog 38 #[.agg (cmA c), .agg (cmA d)] w (RetB w (.bool (hind c d))) := by
  obtain ⟨ct, cm⟩ := c
  obtain ⟨dt, dm⟩ := d
  have hT2 : Tab ((w.alloc (.cells (cmA (ct, cm)) 54)).alloc (.cells (cmA (dt, dm)) 54)) := tab_below hT (((Below.refl w.heap.size w).alloc (Nat.le_refl _) _).alloc (by simp) _)
  have HT := Lib.hid hT2
  clear hT hT2
  have hb : Below w.heap.size w ((w.alloc (.cells (cmA (ct, cm)) 54)).alloc (.cells (cmA (dt, dm)) 54)) := ((Below.refl w.heap.size w).alloc (Nat.le_refl _) _).alloc (by simp) _
  have HB := Lib.hid hb
  clear hb
  unfold hind
  cases ht : ((ct : Int) != (dt : Int))
  · have e : (ct != dt) = false := by rw [← nat_bne]; exact ht
    rw [e]
    unfold cmA
    go_enter Tryz.func38, Tryz.ntmps38
    go_wp2_with fail
    go_ret
    exact ⟨rfl, HB.out⟩
  · have e : (ct != dt) = true := by rw [← nat_bne]; exact ht
    rw [e]
    unfold cmA at *
    go_enter Tryz.func38, Tryz.ntmps38
    go_wp2_with fail
    refine (tog_any cm dm _ HT.out).mono ?_
    rintro e z ⟨rfl, rfl⟩
    go_wp2_with fail
    go_ret
    exact ⟨rfl, HB.out⟩
theorem of1_any (c : Cm) (t b : Nat) (w : World) (hc : w.cell? ⟨b, 0, none⟩ = some (.int .u64 (t : Int))) : Calls Tryz.prog 64 #[.agg (cmA c), .pointer (some ⟨b, 0, none⟩)] w (RetB w (.bool (c.1 == t))) := by
  obtain ⟨ct, cm⟩ := c
  have hlt : b < w.heap.size := World.block_lt_of_cell? w ⟨b, 0, none⟩ hc
  have hc2 : (w.alloc (.cells #[.int .u64 (ct : Int), .int .i64 cm] 54)).cell? ⟨b, 0, none⟩ = some (.int .u64 (t : Int)) := by
    have hb : Below w.heap.size w (w.alloc (.cells #[.int .u64 (ct : Int), .int .i64 cm] 54)) := (Below.refl w.heap.size w).alloc (Nat.le_refl _) _
    exact (hb.cell (p := ⟨b, 0, none⟩) hlt).trans hc
  have HB := Lib.hid (show Below w.heap.size w (w.alloc (.cells #[.int .u64 (ct : Int), .int .i64 cm] 54)) from (Below.refl w.heap.size w).alloc (Nat.le_refl _) _)
  clear hc
  unfold cmA
  go_enter Tryz.func64, Tryz.ntmps64
  go_wp2_with fail
  go_ret
  exact ⟨by rw [← nat_beq]; rfl, HB.out⟩

/-! ### the library over a function value -/
/-- What is asked of a function value: it says p of every claim, and only makes memory. -/
def PredB (f : Nat) (lb : Array Value) (p : Cm → Bool) (w : World) : Prop := ∀ (W : World) (c : Cm), Below w.heap.size w W → Calls Tryz.prog f (#[.agg (cmA c)] ++ lb) W (RetB W (.bool (p c)))
theorem PredB.later {f : Nat} {lb : Array Value} {p : Cm → Bool} {w z : World} (h : PredB f lb p w) (hb : Below w.heap.size w z) : PredB f lb p z := fun W c hW => h W c (hb.trans (hW.mono hb.size))
theorem pred_of (t b : Nat) (w : World) (hc : w.cell? ⟨b, 0, none⟩ = some (.int .u64 (t : Int))) : PredB 64 #[.pointer (some ⟨b, 0, none⟩)] (fun c => c.1 == t) w := fun W c hW =>
  of1_any c t b W ((hW.cell (p := ⟨b, 0, none⟩) (World.block_lt_of_cell? w ⟨b, 0, none⟩ hc)).trans hc)
def idxI (p : Cm → Bool) (l : List Cm) : Int := match l.findIdx? p with
  | some i => (i : Int)
  | none => -1
def IxL (w : World) (p : Cm → Bool) (l : List Cm) (n : Nat) (i : Value) (z : World) : Prop :=
  ∃ k : Nat, k ≤ n ∧ i = .int .i64 (k : Int) ∧ Hid (Below w.heap.size w z) ∧ Hid (∀ (j : Nat) (h : j < l.length), j < k → p l[j] = false)
theorem idx_none {p : Cm → Bool} {l : List Cm} (h : ∀ (j : Nat) (hj : j < l.length), p l[j] = false) : idxI p l = -1 := by
  unfold idxI
  have : l.findIdx? p = none := by
    rw [List.findIdx?_eq_none_iff]
    intro x hx
    obtain ⟨j, hj, rfl⟩ := List.getElem_of_mem hx
    exact h j hj
  rw [this]
theorem idx_some {p : Cm → Bool} {l : List Cm} {k : Nat} (hk : k < l.length) (h1 : p l[k] = true) (h : ∀ (j : Nat) (hj : j < l.length), j < k → p l[j] = false) : idxI p l = (k : Int) := by
  unfold idxI
  have : l.findIdx? p = some k := by
    rw [List.findIdx?_eq_some_iff_getElem]
    exact ⟨hk, h1, fun j hj => by simpa using h j (by omega) hj⟩
  rw [this]
set_option maxHeartbeats 800000 in
theorem index_any (f : Nat) (lb : Array Value) (p : Cm → Bool) (eg : ∀ args w, (callFunc f args).run Tryz.prog w = .ok (.enter f args) w) (X : Nat → Prop) (A : Option Addr) (n c : Nat) (l : List Cm) (w : World) (hp : PredB f lb p w) (h : Lz X w 2 A n (cmL l)) (hn : n ≤ 100000) :
    Calls Tryz.prog 36 #[.slice A n c, .func (.func f) #[] lb] w (RetB w (.int .i64 (idxI p l))) := by
  have HP := Lib.hid hp
  have HL := Lib.hid h
  have hlen := h.cmlen
  clear hp h
  go_enter Tryz.func36, Tryz.ntmps36
  go_wp2_with fail
  go_loopw [8] (fun i z => IxL w p l n i z) (fun i _ => n - (intOf i).toNat)
  case atStart => exact ⟨0, Nat.zero_le _, rfl, Lib.hid (Below.refl _ w), Lib.hid (fun j _ h => absurd h (Nat.not_lt_zero _))⟩
  case round =>
    obtain ⟨k, hk, rfl, HB, HN⟩ := hrel
    by_cases hlt : k < n
    · obtain ⟨b, o, hl, rfl, _, hb, hr⟩ := HL.out.cm hlt
      have R1 := Lib.hid (show wr.rangeAt b (o + k * 2) (cmV l[k]) from fun j v hv => (HB.out.cell (p := ⟨b, o + k * 2 + j, none⟩) hb).trans (hr j v hv))
      obtain ⟨x, hx⟩ : ∃ x, l[k] = x := ⟨_, rfl⟩
      rw [hx] at R1
      have HX := Lib.hid hx
      clear hr hx
      cases hpx : p x
      · have HPX := Lib.hid hpx
        clear hpx
        go_wp2_with (first
          | refine wpList_load_in 54 15 (.tmp 14) rfl rfl rfl b (o + k * 2) rfl (cmV x) 2 strC rfl R1.out ?_
          | (go_at_fn f; refine (HP.out _ x HB.out).mono ?_; rintro e z2 ⟨rfl, hb2⟩; have HB2 := Lib.hid (HB.out.trans (hb2.mono HB.out.size)); clear hb2; rw [HPX.out]))
        exact ⟨⟨k + 1, by omega, by go_num, HB2, Lib.hid fun j hj hjk => by
          rcases Nat.lt_succ_iff_lt_or_eq.1 hjk with h1 | rfl
          · exact HN.out j hj h1
          · rw [HX.out]; exact HPX.out⟩, by simp [intOf]; omega⟩
      · have HPX := Lib.hid hpx
        clear hpx
        go_wp2_with (first
          | refine wpList_load_in 54 15 (.tmp 14) rfl rfl rfl b (o + k * 2) rfl (cmV x) 2 strC rfl R1.out ?_
          | (go_at_fn f; refine (HP.out _ x HB.out).mono ?_; rintro e z2 ⟨rfl, hb2⟩; have HB2 := Lib.hid (HB.out.trans (hb2.mono HB.out.size)); clear hb2; rw [HPX.out]))
        go_ret
        exact ⟨by rw [idx_some hl (by rw [HX.out]; exact HPX.out) HN.out]; rfl, HB2.out⟩
    · obtain rfl : k = n := by omega
      go_wp2_with fail
      go_ret
      exact ⟨by rw [idx_none fun j hj => HN.out j hj (by omega)]; rfl, HB.out⟩
end Go.Proofs.YthbifccankfngaaGreatDoor

/-
  The walks of ContainsFunc, admits, held and place.
  Conditions: at most 100000 claims.
-/

namespace Go.Proofs.YthbifccankfngaaGreatDoor
open Go.RowKit Go.Shelf
attribute [local go_sem] Oper.semAt_some
set_option maxRecDepth 20000

theorem any_idx (p : Cm → Bool) (l : List Cm) : decide (0 ≤ idxI p l) = l.any p := by
  unfold idxI
  cases h : l.findIdx? p with
  | none =>
    rw [List.findIdx?_eq_none_iff] at h
    have : l.any p = false := by
      rw [List.any_eq_false]
      intro x hx
      simp [h x hx]
    rw [this]
    rfl
  | some i =>
    rw [List.findIdx?_eq_some_iff_getElem] at h
    obtain ⟨hi, h1, _⟩ := h
    have : l.any p = true := List.any_eq_true.2 ⟨l[i], List.getElem_mem hi, h1⟩
    rw [this]
    simp
theorem contains_any (f : Nat) (lb : Array Value) (p : Cm → Bool) (eg : ∀ args w, (callFunc f args).run Tryz.prog w = .ok (.enter f args) w) (X : Nat → Prop) (A : Option Addr) (n c : Nat) (l : List Cm) (w : World) (hp : PredB f lb p w) (h : Lz X w 2 A n (cmL l)) (hn : n ≤ 100000) :
    Calls Tryz.prog 69 #[.slice A n c, .func (.func f) #[] lb] w (RetB w (.bool (l.any p))) := by
  have hi := Lib.hid (index_any f lb p eg X A n c l w hp h hn)
  clear hp h eg
  go_enter Tryz.func69, Tryz.ntmps69
  go_wp2_with fail
  refine hi.out.mono ?_
  rintro e z ⟨rfl, hb⟩
  have HB := Lib.hid hb
  clear hb hi
  go_wp2_with fail
  go_ret
  exact ⟨by rw [← any_idx]; rfl, HB.out⟩

/-- A thing as the walks pass it. -/
def thA (H Q : Value) : Array Value := #[H, Q]
theorem ent_of : ∀ args w, (callFunc 64 args).run Tryz.prog w = .ok (.enter 64 args) w := enters_of Tryz.func64 (by kernel_rfl) rfl
theorem ent_adm : ∀ args w, (callFunc 70 args).run Tryz.prog w = .ok (.enter 70 args) w := enters_of Tryz.func70 (by kernel_rfl) rfl

set_option maxHeartbeats 800000 in
theorem admits1_any (d c : Cm) (b : Nat) (w : World) (hT : Tab w) (hc : At w b 54 (cmA c)) : Calls Tryz.prog 70 #[.agg (cmA d), .pointer (some ⟨b, 0, none⟩)] w (RetB w (.bool (hind d c))) := by
  have HB := Lib.hid (show Below w.heap.size w (w.alloc (.cells (cmA d) 54)) from (Below.refl w.heap.size w).alloc (Nat.le_refl _) _)
  have A2 := Lib.hid (At.new w 54 (cmA d))
  have A1 := Lib.hid (hc.alloc (.cells (cmA d) 54))
  have HT := Lib.hid (tab_below hT HB.out)
  clear hT hc
  go_enter Tryz.func70, Tryz.ntmps70
  go_upto_region 1 with fail
  generalize w.alloc (.cells (cmA d) 54) = z at HB A2 A1 HT ⊢
  generalize w.heap.size = g at A2 ⊢
  go_wp2_with (first
    | refine wpList_load_at 54 4 (.tmp 2) rfl rfl rfl g rfl (cmA d) 2 strC rfl A2.out ?_
    | refine wpList_load_at 54 5 (.tmp 1) rfl rfl rfl b rfl (cmA c) 2 strC rfl A1.out ?_)
  refine (hinders_any d c z HT.out).mono ?_
  rintro e z2 ⟨rfl, hb2⟩
  have HB2 := Lib.hid (HB.out.trans (hb2.mono HB.out.size))
  clear hb2
  go_wp2_with fail
  go_ret
  exact ⟨rfl, HB2.out⟩
theorem pred_adm (c : Cm) (b : Nat) (w : World) (hT : Tab w) (hc : At w b 54 (cmA c)) : PredB 70 #[.pointer (some ⟨b, 0, none⟩)] (fun d => hind d c) w := fun W d hW =>
  admits1_any d c b W (tab_below hT hW) (hc.under hW hc.lt)

set_option maxHeartbeats 800000 in
theorem admits_any (X : Nat → Prop) (A : Option Addr) (n cp : Nat) (l : List Cm) (q : Value) (c : Cm) (w : World) (hT : Tab w) (h : Lz X w 2 A n (cmL l)) (hn : n ≤ 100000) :
    Calls Tryz.prog 43 #[.agg (thA (.slice A n cp) q), .agg (cmA c)] w (RetB w (.bool (admI l c))) := by
  have HB := Lib.hid (show Below w.heap.size w ((w.alloc (.cells (thA (.slice A n cp) q) 79)).alloc (.cells (cmA c) 54)) from ((Below.refl w.heap.size w).alloc (Nat.le_refl _) _).alloc (by simp) _)
  have A3 := Lib.hid (At.new (w.alloc (.cells (thA (.slice A n cp) q) 79)) 54 (cmA c))
  have hs : (w.alloc (.cells (thA (.slice A n cp) q) 79)).heap.size = w.heap.size + 1 := by simp
  rw [hs] at A3
  have c0 : ((w.alloc (.cells (thA (.slice A n cp) q) 79)).alloc (.cells (cmA c) 54)).cell? ⟨w.heap.size, 0, none⟩ = some (.slice A n cp) := ((At.new w 79 (thA (.slice A n cp) q)).alloc (.cells (cmA c) 54)).cell 0
  have HT := Lib.hid (tab_below hT HB.out)
  have HL := Lib.hid (h.below HB.out)
  clear hT h hs
  go_enter Tryz.func43, Tryz.ntmps43
  go_upto_region 1 with fail
  generalize (w.alloc (.cells (thA (.slice A n cp) q) 79)).alloc (.cells (cmA c) 54) = z at HB A3 c0 HT HL ⊢
  generalize w.heap.size = g at A3 c0 ⊢
  go_wp2_with fail
  refine (contains_any 70 #[.pointer (some ⟨g + 1, 0, none⟩)] (fun d => hind d c) ent_adm X A n cp l z (pred_adm c (g + 1) z HT.out A3.out) HL.out hn).mono ?_
  rintro e z2 ⟨rfl, hb2⟩
  have HB2 := Lib.hid (HB.out.trans (hb2.mono HB.out.size))
  clear hb2
  go_wp2_with fail
  go_ret
  exact ⟨rfl, HB2.out⟩

def zC : Array Value := #[.int .u64 0, .int .i64 0]
theorem held_no {l : List Cm} {t : Nat} (h : ∀ (j : Nat) (hj : j < l.length), l[j].1 ≠ t) : heldI l t = 0 := by
  unfold heldI
  have : l.find? (fun c => c.1 == t) = none := by
    rw [List.find?_eq_none]
    intro x hx
    obtain ⟨j, hj, rfl⟩ := List.getElem_of_mem hx
    simpa using h j hj
  rw [this]
  rfl
theorem held_yes {l : List Cm} {t k : Nat} (hk : k < l.length) (h1 : l[k].1 = t) (h : ∀ (j : Nat) (hj : j < l.length), j < k → l[j].1 ≠ t) : heldI l t = l[k].2 := by
  unfold heldI
  have : l.find? (fun c => c.1 == t) = some l[k] := by
    rw [List.find?_eq_some_iff_getElem]
    exact ⟨by simp [h1], k, hk, rfl, fun j hj => by simpa using h j (by omega) hj⟩
  rw [this]
  rfl
def HeL (w : World) (t : Nat) (l : List Cm) (n : Nat) (i : Value) (z : World) : Prop :=
  ∃ k : Nat, k ≤ n ∧ i = .int .i64 (k : Int) ∧ Hid (Below w.heap.size w z) ∧ Hid (∀ (j : Nat) (h : j < l.length), j < k → l[j].1 ≠ t)
set_option maxHeartbeats 800000 in
theorem held_any (X : Nat → Prop) (A : Option Addr) (n cp : Nat) (l : List Cm) (q : Value) (t : Nat) (w : World) (h : Lz X w 2 A n (cmL l)) (hn : n ≤ 100000) :
    Calls Tryz.prog 41 #[.agg (thA (.slice A n cp) q), .int .u64 (t : Int)] w (RetB w (.int .i64 (heldI l t))) := by
  have HB := Lib.hid (show Below w.heap.size w (w.alloc (.cells (thA (.slice A n cp) q) 79)) from (Below.refl w.heap.size w).alloc (Nat.le_refl _) _)
  have c0 : (w.alloc (.cells (thA (.slice A n cp) q) 79)).cell? ⟨w.heap.size, 0, none⟩ = some (.slice A n cp) := (At.new w 79 (thA (.slice A n cp) q)).cell 0
  have HL := Lib.hid (h.below HB.out)
  have hlen := h.cmlen
  clear h
  go_enter Tryz.func41, Tryz.ntmps41
  go_upto_region 1 with fail
  generalize w.alloc (.cells (thA (.slice A n cp) q) 79) = z0 at HB c0 HL ⊢
  go_wp2_with fail
  clear c0
  go_loopw [10] (fun i z => HeL z0 t l n i z) (fun i _ => n - (intOf i).toNat)
  case atStart => exact ⟨0, Nat.zero_le _, rfl, Lib.hid (Below.refl _ z0), Lib.hid (fun j _ h => absurd h (Nat.not_lt_zero _))⟩
  case round =>
    obtain ⟨k, hk, rfl, HR, HN⟩ := hrel
    by_cases hlt : k < n
    · obtain ⟨b, o, hl, rfl, _, hb, hr⟩ := HL.out.cm hlt
      have R1 := Lib.hid (show wr.rangeAt b (o + k * 2) (cmV l[k]) from fun j v hv => (HR.out.cell (p := ⟨b, o + k * 2 + j, none⟩) hb).trans (hr j v hv))
      obtain ⟨x, hx⟩ : ∃ x, l[k] = x := ⟨_, rfl⟩
      rw [hx] at R1
      have HX := Lib.hid hx
      clear hr hx
      have c60 : (wr.alloc (.cells (cmA x) 54)).cell? ⟨wr.heap.size, 0, none⟩ = some (.int .u64 (x.1 : Int)) := (At.new wr 54 (cmA x)).cell 0
      have c61 : (wr.alloc (.cells (cmA x) 54)).cell? ⟨wr.heap.size, 1, none⟩ = some (.int .i64 x.2) := (At.new wr 54 (cmA x)).cell 1
      have HB2 := Lib.hid (HR.out.alloc HR.out.size (.cells (cmA x) 54))
      by_cases hpx : x.1 = t
      · have e : ((x.1 : Int) == (t : Int)) = true := by rw [nat_beq, hpx, beq_self_eq_true]
        have HPX := Lib.hid hpx
        clear hpx
        go_wp2_with (first
          | refine wpList_load_in 54 13 (.tmp 12) rfl rfl rfl b (o + k * 2) rfl (cmV x) 2 strC rfl R1.out ?_
          | refine wpList_store_new 54 (.tmp 6) (.tmp 13) rfl rfl rfl _ wr rfl rfl (cmA x) zC 2 rfl strC rfl rfl (cmA_one _) rfl ?_)
        go_ret
        exact ⟨by rw [held_yes hl (by rw [HX.out]; exact HPX.out) HN.out, HX.out]; rfl, HB.out.trans (HB2.out.mono HB.out.size)⟩
      · have e : ((x.1 : Int) == (t : Int)) = false := by rw [nat_beq]; simpa using hpx
        have HPX := Lib.hid hpx
        clear hpx
        go_wp2_with (first
          | refine wpList_load_in 54 13 (.tmp 12) rfl rfl rfl b (o + k * 2) rfl (cmV x) 2 strC rfl R1.out ?_
          | refine wpList_store_new 54 (.tmp 6) (.tmp 13) rfl rfl rfl _ wr rfl rfl (cmA x) zC 2 rfl strC rfl rfl (cmA_one _) rfl ?_)
        exact ⟨⟨k + 1, by omega, by go_num, HB2, Lib.hid fun j hj hjk => by
          rcases Nat.lt_succ_iff_lt_or_eq.1 hjk with h1 | rfl
          · exact HN.out j hj h1
          · rw [HX.out]; exact HPX.out⟩, by simp [intOf]; omega⟩
    · obtain rfl : k = n := by omega
      go_wp2_with fail
      go_ret
      exact ⟨by rw [held_no fun j hj => HN.out j hj (by omega)]; rfl, HB.out.trans (HR.out.mono HB.out.size)⟩
end Go.Proofs.YthbifccankfngaaGreatDoor

/-
  The lock table in memory: its three maps and the rows of its slices; keys of the maps.
  Conditions: none beyond those that each theorem names.
-/

namespace Go.Proofs.YthbifccankfngaaGreatDoor
open Go.RowKit Go.Shelf
set_option maxRecDepth 20000

def rsA (r : Rs) : Array Value := #[.int .i64 r.1, .int .u64 (r.2 : Int)]
def rsV (r : Rs) : Value := .agg (rsA r)
def rsP (r : Rs) : Value × Value := (.int .i64 r.1, .int .u64 (r.2 : Int))
def rsL (l : List Rs) : List Value := flat2 (l.map rsP)
def u64V (t : Nat) : Value := .int .u64 (t : Int)
/-- A number of eight bytes. -/
def U64 (t : Nat) : Prop := t < 18446744073709551616
def I64 (i : Int) : Prop := -9223372036854775808 ≤ i ∧ i < 9223372036854775808
def RsOk (r : Rs) : Prop := I64 r.1 ∧ U64 r.2
theorem rsA_one (r : Rs) : (rsA r).all (·.oneCell') = true := by simp [rsA, Value.oneCell']

theorem row_res : (33 : TypeId) < Tryz.prog.types.size := of_decide_eq_true (by kernel_rfl)
theorem key_res : Tryz.prog.keyTypeAt (Tryz.prog.types.size + 1) 33 = true := by kernel_rfl
theorem law_res : Maps.Keyed Tryz.prog 33 := Maps.Keyed.of_law (deep_law_laid laidOut (m := 2) (by omega) row_res (by kernel_rfl) (by rw [Tryz.underlying33]))
theorem cells_res : Tryz.prog.cellsOf 33 = 2 := by kernel_rfl
theorem wf_i64 {i : Int} (h : I64 i) : (Lit.int .i64 i).wf = true := by
  unfold I64 at h
  have e1 : IntKind.i64.min = -9223372036854775808 := by decide
  have e2 : IntKind.i64.max = 9223372036854775807 := by decide
  simp [Lit.wf, e1, e2]
  omega
theorem wf_u64 {n : Nat} (h : U64 n) : (Lit.int .u64 (n : Int)).wf = true := by
  unfold U64 at h
  have e1 : IntKind.u64.min = 0 := by decide
  have e2 : IntKind.u64.max = 18446744073709551615 := by decide
  simp [Lit.wf, e1, e2]
  omega
theorem lit_res (r : Rs) (h : RsOk r) : ∃ l, keyOf Tryz.prog 33 (rsV r) = some l := by
  have h1 := wf_i64 h.1
  have h2 := wf_u64 h.2
  have hk : Tryz.prog.keyType 33 = true := by kernel_rfl
  have hf : (rsV r).formed Tryz.prog 33 = true := by simp [rsV, rsA, Value.formed, Tryz.underlying33, cells_res]
  have c1 : Tryz.prog.cellsOf 3 = 1 := by kernel_rfl
  have c2 : Tryz.prog.cellsOf 31 = 1 := by kernel_rfl
  obtain ⟨m, hm⟩ : ∃ m, Tryz.prog.types.size = m + 1 := ⟨Tryz.prog.types.size - 1, by have h33 : (33 : Nat) < Tryz.prog.types.size := row_res; omega⟩
  have hl : Tryz.prog.keyLits (Tryz.prog.types.size + 1) 33 (rsV r).cells.toList = some [.int .i64 r.1, .int .u64 (r.2 : Int)] := by
    rw [hm]
    simp [Program.keyLits, Tryz.underlying33, rsV, rsA, Value.cells, cells_res, c1, c2, Tryz.underlying3, Tryz.underlying31, h1, h2]
  refine ⟨.string (keyBytes [.int .i64 r.1, .int .u64 (r.2 : Int)]), ?_⟩
  unfold keyOf
  rw [Tryz.underlying33]
  simp only [hk, hf, hl, Bool.and_self, if_true, Option.map_some]
theorem rsV_inj (a b : Rs) (h : rsV a = rsV b) : a = b := by
  obtain ⟨a1, a2⟩ := a
  obtain ⟨b1, b2⟩ := b
  simp [rsV, rsA] at h
  obtain ⟨h1, h2⟩ := h
  have h3 : a2 = b2 := by omega
  rw [h1, h3]
theorem keyT_res : KeyT Tryz.prog 33 rsV RsOk := ⟨law_res, rsV_inj, lit_res⟩
theorem u64V_inj (a b : Nat) (h : u64V a = u64V b) : a = b := by
  simp [u64V] at h
  omega
theorem keyT_u64 : KeyT Tryz.prog 31 u64V U64 := ⟨Maps.int_keyed Tryz.underlying31, u64V_inj, fun a h => by
  refine ⟨.int .u64 (a : Int), ?_⟩
  unfold keyOf
  rw [Tryz.underlying31]
  show mapKey _ _ _ = _
  unfold mapKey
  rw [Tryz.underlying31]
  show (if _ then _ else _) = _
  rw [if_pos ⟨rfl, wf_u64 h⟩]⟩

/-! ### the table in memory -/
inductive RI where
  | hold (r : Rs)
  | queue (r : Rs)
  | own (t : Nat)
deriving DecidableEq
def tyI : RI → TypeId
  | .hold _ => 54
  | .queue _ => 54
  | .own _ => 33
def rowI (s : TS) : RI → List (Value × Value)
  | .hold r => (s.at r).1.map cmP
  | .queue r => (s.at r).2.map cmP
  | .own t => ((s.ow t).getD []).map rsP
def nilS : Value := .slice none 0 0
def thV (h q : Value) : Value := .agg #[h, q]
def tabA (b1 b2 b3 : Nat) : Array Value := #[.map (some b1), .map (some b2), .map (some b3)]
/-- The maps say where the rows are. -/
structure MapsV (w : World) (b1 b2 b3 : Nat) (s : TS) (V : RI → Value) : Prop where
  m1 : MapAt rsV RsOk w b1 fun r => (s.th r).map fun _ => thV (V (.hold r)) (V (.queue r))
  m2 : MapAt u64V U64 w b2 fun t => (s.ow t).map fun _ => V (.own t)
  m3 : MapAt u64V U64 w b3 fun t => (s.wt t).map rsV
structure TbV (w : World) (B g b1 b2 b3 : Nat) (s : TS) (V : RI → Value) : Prop where
  gt : At w g 61 (tabA b1 b2 b3)
  ms : MapsV w b1 b2 b3 s V
  rows : RowsF B w tyI V (rowI s)
  n1 : ∀ r, s.th r = none → V (.hold r) = nilS ∧ V (.queue r) = nilS
  n2 : ∀ t, s.ow t = none → V (.own t) = nilS
  d12 : b1 ≠ b2
  d13 : b1 ≠ b3
  d23 : b2 ≠ b3
/-- The table's own blocks. -/
def TbX (g b1 b2 b3 : Nat) (V : RI → Value) : Nat → Prop := fun k => k = g ∨ k = b1 ∨ k = b2 ∨ k = b3 ∨ ∃ i, (V i).ownBlock = some k
/-- A table at g, its blocks within X. -/
structure Tb (w : World) (g : Nat) (s : TS) (X : Nat → Prop) : Prop where
  ex : ∃ B b1 b2 b3 V, TbV w B g b1 b2 b3 s V ∧ ∀ k, TbX g b1 b2 b3 V k → X k
  lt : ∀ k, X k → k < w.heap.size
section
variable {w w' : World} {B g b1 b2 b3 : Nat} {s : TS} {V : RI → Value} {X : Nat → Prop}
theorem tyI_ne (i : RI) : (61 : TypeId) ≠ tyI i := by
  cases i
  · exact show (61 : Nat) ≠ 54 by decide
  · exact show (61 : Nat) ≠ 54 by decide
  · exact show (61 : Nat) ≠ 33 by decide
theorem TbV.row_ne (h : TbV w B g b1 b2 b3 s V) {i : RI} {k : Nat} (hk : (V i).ownBlock = some k) : k ≠ g ∧ k ≠ b1 ∧ k ≠ b2 ∧ k ≠ b3 := by
  have ho := h.rows.own i
  refine ⟨fun e => own_ne ho h.gt (tyI_ne i) (by rw [hk, e]), fun e => ?_, fun e => ?_, fun e => ?_⟩
  · obtain ⟨es, c, hb, _⟩ := h.ms.m1
    exact own_map ho hb (by rw [hk, e])
  · obtain ⟨es, c, hb, _⟩ := h.ms.m2
    exact own_map ho hb (by rw [hk, e])
  · obtain ⟨es, c, hb, _⟩ := h.ms.m3
    exact own_map ho hb (by rw [hk, e])
theorem at_map {t : TypeId} {cs : Array Value} {b : Nat} {es : Array MapEntry} {c : Nat} (ha : At w g t cs) (hb : w.heap[b]? = some (.map es c)) : g ≠ b := by
  rintro rfl
  rw [show w.heap[g]? = some (.cells cs t (0, 0)) from ha] at hb
  cases hb
theorem TbV.g_ne (h : TbV w B g b1 b2 b3 s V) : g ≠ b1 ∧ g ≠ b2 ∧ g ≠ b3 := by
  obtain ⟨e1, c1, h1, _⟩ := h.ms.m1
  obtain ⟨e2, c2, h2, _⟩ := h.ms.m2
  obtain ⟨e3, c3, h3, _⟩ := h.ms.m3
  exact ⟨at_map h.gt h1, at_map h.gt h2, at_map h.gt h3⟩
theorem TbV.lt (h : TbV w B g b1 b2 b3 s V) : ∀ k, TbX g b1 b2 b3 V k → k < w.heap.size := by
  rintro k (rfl | rfl | rfl | rfl | ⟨i, hi⟩)
  · exact h.gt.lt
  · exact h.ms.m1.lt
  · exact h.ms.m2.lt
  · exact h.ms.m3.lt
  · exact ((h.rows.own i).lt k hi).2
/-- Nothing of the table is turned. -/
theorem TbV.grown (h : TbV w B g b1 b2 b3 s V) {row : Option Nat} (hg : w.grownBy w' row) (hr : ∀ k, row = some k → ¬ TbX g b1 b2 b3 V k) : TbV w' B g b1 b2 b3 s V := by
  have ne : ∀ k, TbX g b1 b2 b3 V k → some k ≠ row := fun k hk e => hr k e.symm hk
  exact ⟨h.gt.grown hg (ne _ (.inl rfl)), ⟨h.ms.m1.kept hg (ne _ (.inr (.inl rfl))), h.ms.m2.kept hg (ne _ (.inr (.inr (.inl rfl)))), h.ms.m3.kept hg (ne _ (.inr (.inr (.inr (.inl rfl)))))⟩,
    h.rows.move hg fun i k hi e => ne k (.inr (.inr (.inr (.inr ⟨i, hi⟩)))) e.symm, h.n1, h.n2, h.d12, h.d13, h.d23⟩
theorem grown_below (hb : Below w.heap.size w w') : w.grownBy w' none := ⟨hb.os, hb.tape, hb.output, hb.size, fun k hk _ => hb.block k hk⟩
theorem TbV.below (h : TbV w B g b1 b2 b3 s V) (hb : Below w.heap.size w w') : TbV w' B g b1 b2 b3 s V := h.grown (grown_below hb) fun k e => by cases e
/-- What a look-up of a thing gives, there or not. -/
theorem TbV.look1 (h : TbV w B g b1 b2 b3 s V) (r : Rs) : lookV (thV nilS nilS) ((s.th r).map fun _ => thV (V (.hold r)) (V (.queue r))) false = thV (V (.hold r)) (V (.queue r)) := by
  cases hr : s.th r with
  | none =>
    obtain ⟨h1, h2⟩ := h.n1 r hr
    rw [h1, h2]
    rfl
  | some x => rfl
theorem TbV.look2 (h : TbV w B g b1 b2 b3 s V) (t : Nat) : lookV nilS ((s.ow t).map fun _ => V (.own t)) false = V (.own t) := by
  cases hr : s.ow t with
  | none =>
    rw [h.n2 t hr]
    rfl
  | some x => rfl
/-- A row's block alone is turned; the maps stand. -/
theorem TbV.row_keeps (h : TbV w B g b1 b2 b3 s V) (i : RI) (hg : w.grownBy w' (V i).ownBlock) : At w' g 61 (tabA b1 b2 b3) ∧ MapsV w' b1 b2 b3 s V := by
  have ne : ∀ k, k = g ∨ k = b1 ∨ k = b2 ∨ k = b3 → some k ≠ (V i).ownBlock := fun k hk e => by
    obtain ⟨h1, h2, h3, h4⟩ := h.row_ne e.symm
    rcases hk with hk | hk | hk | hk
    · exact h1 hk
    · exact h2 hk
    · exact h3 hk
    · exact h4 hk
  exact ⟨h.gt.grown hg (ne _ (.inl rfl)), h.ms.m1.kept hg (ne _ (.inr (.inl rfl))), h.ms.m2.kept hg (ne _ (.inr (.inr (.inl rfl)))), h.ms.m3.kept hg (ne _ (.inr (.inr (.inr rfl))))⟩
end
theorem zero_th (w : World) : (zeroValue 79).run Tryz.prog w = .ok (thV nilS nilS) w := by kernel_rfl
theorem zero_rr (w : World) : (zeroValue 40).run Tryz.prog w = .ok nilS w := by kernel_rfl
theorem zero_res (w : World) : (zeroValue 33).run Tryz.prog w = .ok (rsV (0, 0)) w := by kernel_rfl
end Go.Proofs.YthbifccankfngaaGreatDoor

/-
  The walk of place: where in the queue a claim belongs.
  Conditions: at most 100000 claims.
-/

namespace Go.Proofs.YthbifccankfngaaGreatDoor
open Go.RowKit Go.Shelf
attribute [local go_sem] Oper.semAt_some
set_option maxRecDepth 20000

theorem tw_all {p : Cm → Bool} : ∀ {l : List Cm}, (∀ (j : Nat) (hj : j < l.length), p l[j] = true) → (l.takeWhile p).length = l.length
  | [], _ => rfl
  | a :: l, h => by
    have ha : p a = true := h 0 (by simp)
    rw [List.takeWhile_cons, if_pos ha, List.length_cons, List.length_cons, tw_all (l := l) fun j hj => by
      have := h (j + 1) (by simpa using hj)
      simpa using this]
theorem tw_at {p : Cm → Bool} : ∀ {l : List Cm} {k : Nat} (hk : k < l.length), p l[k] = false → (∀ (j : Nat) (hj : j < l.length), j < k → p l[j] = true) → (l.takeWhile p).length = k
  | [], k, hk, _, _ => by simp at hk
  | a :: l, 0, hk, h1, _ => by
    simp at h1
    simp [h1]
  | a :: l, k + 1, hk, h1, h => by
    have ha : p a = true := h 0 (by simp) (by omega)
    rw [List.takeWhile_cons, if_pos ha, List.length_cons]
    rw [tw_at (l := l) (k := k) (by simpa using hk) (by simpa using h1) fun j hj hjk => by
      have := h (j + 1) (by simpa using hj) (by omega)
      simpa using this]
def PlL (z : World) (h q : List Cm) (n : Nat) (i : Value) (w : World) : Prop :=
  ∃ k : Nat, k ≤ n ∧ i = .int .i64 (k : Int) ∧ Hid (Below z.heap.size z w) ∧ Hid (∀ (j : Nat) (hj : j < q.length), j < k → heldI h q[j].1 ≠ 0)
set_option maxHeartbeats 1600000 in
theorem place_any (X : Nat → Prop) (A1 : Option Addr) (n1 c1 : Nat) (h : List Cm) (A2 : Option Addr) (n2 c2 : Nat) (q : List Cm) (c : Cm) (w : World) (hL : Lz X w 2 A1 n1 (cmL h)) (hQ : Lz X w 2 A2 n2 (cmL q)) (hn1 : n1 ≤ 100000) (hn2 : n2 ≤ 100000) :
    Calls Tryz.prog 46 #[.agg (thA (.slice A1 n1 c1) (.slice A2 n2 c2)), .agg (cmA c)] w (RetB w (.int .i64 ((placeI h q c.1 : Nat) : Int))) := by
  have hql := hQ.cmlen
  obtain ⟨ct, cm⟩ := c
  obtain ⟨N, hN⟩ : ∃ N, placeI h q ct = N := ⟨_, rfl⟩
  show Calls _ _ _ _ (RetB w (.int .i64 ((placeI h q ct : Nat) : Int)))
  rw [hN]
  have HN0 := Lib.hid hN
  clear hN
  have hs : (w.alloc (.cells (thA (.slice A1 n1 c1) (.slice A2 n2 c2)) 79)).heap.size = w.heap.size + 1 := by simp
  have HB := Lib.hid (show Below w.heap.size w ((w.alloc (.cells (thA (.slice A1 n1 c1) (.slice A2 n2 c2)) 79)).alloc (.cells (cmA (ct, cm)) 54)) from ((Below.refl w.heap.size w).alloc (Nat.le_refl _) _).alloc (by simp) _)
  have A2B := Lib.hid ((At.new w 79 (thA (.slice A1 n1 c1) (.slice A2 n2 c2))).alloc (.cells (cmA (ct, cm)) 54))
  have c30 : ((w.alloc (.cells (thA (.slice A1 n1 c1) (.slice A2 n2 c2)) 79)).alloc (.cells (cmA (ct, cm)) 54)).cell? ⟨w.heap.size + 1, 0, none⟩ = some (.int .u64 (ct : Int)) := by
    have := (At.new (w.alloc (.cells (thA (.slice A1 n1 c1) (.slice A2 n2 c2)) 79)) 54 (cmA (ct, cm))).cell 0
    rw [hs] at this
    exact this
  have HL := Lib.hid (hL.below HB.out)
  have HQ := Lib.hid (hQ.below HB.out)
  have HQL := Lib.hid hql
  clear hL hQ hs hql
  go_enter Tryz.func46, Tryz.ntmps46
  go_upto_region 1 with fail
  generalize (w.alloc (.cells (thA (.slice A1 n1 c1) (.slice A2 n2 c2)) 79)).alloc (.cells (cmA (ct, cm)) 54) = z at HB A2B c30 HL HQ ⊢
  generalize w.heap.size = g at A2B c30 ⊢
  go_wp2_with (first
    | refine wpList_load_at 79 6 (.tmp 2) rfl rfl rfl g rfl _ 2 strTh rfl A2B.out ?_)
  refine (held_any X A1 n1 c1 h (.slice A2 n2 c2) ct z HL.out hn1).mono ?_
  rintro e z2 ⟨rfl, hb2⟩
  have HB2 := Lib.hid (HB.out.trans (hb2.mono HB.out.size))
  have HB3 := Lib.hid hb2
  have A2C := Lib.hid (A2B.out.under hb2 A2B.out.lt)
  have HL2 := Lib.hid (HL.out.below hb2)
  have HQ2 := Lib.hid (HQ.out.below hb2)
  have d1 : z2.cell? ⟨g, 1, none⟩ = some (.slice A2 n2 c2) := A2C.out.cell 1
  clear hb2 c30 HL HQ A2B
  by_cases h0 : heldI h ct = 0
  · have e0 : (heldI h ct == 0) = true := by rw [h0]; rfl
    have e1 : N = n2 := by rw [← HN0.out]; unfold placeI; rw [if_pos h0, HQL.out]
    have HH0 := Lib.hid h0
    have HE1 := Lib.hid e1
    clear h0 e1
    go_wp2_with fail
    go_ret
    exact ⟨by rw [HE1.out]; rfl, HB2.out⟩
  · have e0 : (heldI h ct == 0) = false := by simpa using h0
    have e1 : N = (q.takeWhile fun c => heldI h c.1 != 0).length := by rw [← HN0.out]; unfold placeI; rw [if_neg h0]
    have HE1 := Lib.hid e1
    clear h0 e1
    go_wp2_with fail
    clear d1
    go_loopw [5] (fun i z => PlL z2 h q n2 i z) (fun i _ => n2 - (intOf i).toNat)
    case atStart => exact ⟨0, Nat.zero_le _, rfl, Lib.hid (Below.refl _ z2), Lib.hid (fun j _ h => absurd h (Nat.not_lt_zero _))⟩
    case round =>
      obtain ⟨k, hk, rfl, HR, HN⟩ := hrel
      have A2B := Lib.hid (A2C.out.under HR.out A2C.out.lt)
      by_cases hlt : k < n2
      · have hd : decide ((k : Int) < (n2 : Int)) = true := by simp; omega
        obtain ⟨bL, oL, hl, rfl, _, hb, hr⟩ := (HQ2.out.below HR.out).cm hlt
        have hbl := hb
        obtain ⟨x, hx⟩ : ∃ x, q[k] = x := ⟨_, rfl⟩
        have C0 : Hid (wr.cell? ⟨bL, oL + k * 2, none⟩ = some (.int .u64 (x.1 : Int))) := by
          have := hr 0 (.int .u64 (q[k].1 : Int)) rfl
          rw [hx] at this
          exact this
        have HX := Lib.hid hx
        have HH : Hid (∀ W, Below wr.heap.size wr W → Calls Tryz.prog 41 #[.agg (thA (.slice A1 n1 c1) (.slice (some ⟨bL, oL, none⟩) n2 c2)), .int .u64 (x.1 : Int)] W (RetB W (.int .i64 (heldI h x.1)))) := fun W hW => held_any X A1 n1 c1 h _ x.1 W ((HL2.out.below HR.out).below hW) hn1
        clear hr hx hb
        have hkn : (k : Int) < (n2 : Int) := by omega
        cases hh : (heldI h x.1 != 0)
        · have hone : (1 : Nat) = 1 := rfl
          go_upto_region 4 with fail
          refine wp_region_held_drew (S := Below wr.heap.size wr) (by kernel_rfl) ((Below.refl _ wr).drew) (fun hS => ?_)
          refine tk 0 hS ?_
          refine tk 1 hS ?_
          refine tk 2 hS ?_ (hy := by intro wz hz; have p1 : wz.cell? ⟨g, 1, none⟩ = some (.slice (some ⟨bL, oL, none⟩) n2 c2) := (A2B.out.under hz A2B.out.lt).cell 1; have q0 := (hz.cell (p := ⟨bL, oL + k * 2, none⟩) hbl).trans C0.out; go_simp <;> with_reducible rfl)
          refine tk 3 hS ?_
          refine tk 4 hS ?_
          refine tk 5 hS ?_
          refine tk (v := .agg (thA (.slice A1 n1 c1) (.slice (some ⟨bL, oL, none⟩) n2 c2))) 6 hS ?_ (hy := by intro wz hz; have p1 : wz.cell? ⟨g, 1, none⟩ = some (.slice (some ⟨bL, oL, none⟩) n2 c2) := (A2B.out.under hz A2B.out.lt).cell 1; have q0 := (hz.cell (p := ⟨bL, oL + k * 2, none⟩) hbl).trans C0.out; exact exec_load_at 79 (.tmp 2) rfl g rfl _ 2 strTh rfl (A2B.out.under hz A2B.out.lt))
          refine tk 7 hS ?_
          refine tk 8 hS ?_ (hy := by intro wz hz; have p1 : wz.cell? ⟨g, 1, none⟩ = some (.slice (some ⟨bL, oL, none⟩) n2 c2) := (A2B.out.under hz A2B.out.lt).cell 1; have q0 := (hz.cell (p := ⟨bL, oL + k * 2, none⟩) hbl).trans C0.out; go_simp <;> with_reducible rfl)
          refine tk 9 hS ?_
          refine tk 10 hS ?_
          refine tk 11 hS ?_
          refine tk 12 hS ?_ (hy := by intro wz hz; have p1 : wz.cell? ⟨g, 1, none⟩ = some (.slice (some ⟨bL, oL, none⟩) n2 c2) := (A2B.out.under hz A2B.out.lt).cell 1; have q0 := (hz.cell (p := ⟨bL, oL + k * 2, none⟩) hbl).trans C0.out; go_simp <;> with_reducible rfl)
          refine wpAnyH_ready (rs := [13]) (by kernel_rfl) (by simp) ?_
          refine AllReadyH.cons rfl (fun K hK => ?_) AllReadyH.nil
          go_simp
          refine (HH.out _ hS).mono ?_
          rintro e y9 ⟨rfl, hb9⟩
          have hb : True := trivial
          have B9 := Lib.hid (hS.trans (hb9.mono hS.size))
          clear hb9
          refine hK.out _ _ (B9.out) (fun hT => ?_)
          clear hK hb hS
          have hS := hT
          clear hT
          refine tk 14 hS ?_
          refine tk 15 hS ?_
          refine wpAnyH_done (by kernel_rfl) ?_ _
          have HC := Lib.hid hS
          clear hS hone
          go_wp2_with fail
          go_ret
          exact ⟨by rw [HE1.out, tw_at hl (by rw [HX.out]; exact hh) (fun j hj hjk => by simpa using HN.out j hj hjk)]; rfl, HB2.out.trans ((HR.out.trans (HC.out.mono HR.out.size)).mono HB2.out.size)⟩
        · have hone : (1 : Nat) = 1 := rfl
          go_upto_region 4 with fail
          refine wp_region_held_drew (S := Below wr.heap.size wr) (by kernel_rfl) ((Below.refl _ wr).drew) (fun hS => ?_)
          refine tk 0 hS ?_
          refine tk 1 hS ?_
          refine tk 2 hS ?_ (hy := by intro wz hz; have p1 : wz.cell? ⟨g, 1, none⟩ = some (.slice (some ⟨bL, oL, none⟩) n2 c2) := (A2B.out.under hz A2B.out.lt).cell 1; have q0 := (hz.cell (p := ⟨bL, oL + k * 2, none⟩) hbl).trans C0.out; go_simp <;> with_reducible rfl)
          refine tk 3 hS ?_
          refine tk 4 hS ?_
          refine tk 5 hS ?_
          refine tk (v := .agg (thA (.slice A1 n1 c1) (.slice (some ⟨bL, oL, none⟩) n2 c2))) 6 hS ?_ (hy := by intro wz hz; have p1 : wz.cell? ⟨g, 1, none⟩ = some (.slice (some ⟨bL, oL, none⟩) n2 c2) := (A2B.out.under hz A2B.out.lt).cell 1; have q0 := (hz.cell (p := ⟨bL, oL + k * 2, none⟩) hbl).trans C0.out; exact exec_load_at 79 (.tmp 2) rfl g rfl _ 2 strTh rfl (A2B.out.under hz A2B.out.lt))
          refine tk 7 hS ?_
          refine tk 8 hS ?_ (hy := by intro wz hz; have p1 : wz.cell? ⟨g, 1, none⟩ = some (.slice (some ⟨bL, oL, none⟩) n2 c2) := (A2B.out.under hz A2B.out.lt).cell 1; have q0 := (hz.cell (p := ⟨bL, oL + k * 2, none⟩) hbl).trans C0.out; go_simp <;> with_reducible rfl)
          refine tk 9 hS ?_
          refine tk 10 hS ?_
          refine tk 11 hS ?_
          refine tk 12 hS ?_ (hy := by intro wz hz; have p1 : wz.cell? ⟨g, 1, none⟩ = some (.slice (some ⟨bL, oL, none⟩) n2 c2) := (A2B.out.under hz A2B.out.lt).cell 1; have q0 := (hz.cell (p := ⟨bL, oL + k * 2, none⟩) hbl).trans C0.out; go_simp <;> with_reducible rfl)
          refine wpAnyH_ready (rs := [13]) (by kernel_rfl) (by simp) ?_
          refine AllReadyH.cons rfl (fun K hK => ?_) AllReadyH.nil
          go_simp
          refine (HH.out _ hS).mono ?_
          rintro e y9 ⟨rfl, hb9⟩
          have hb : True := trivial
          have B9 := Lib.hid (hS.trans (hb9.mono hS.size))
          clear hb9
          refine hK.out _ _ (B9.out) (fun hT => ?_)
          clear hK hb hS
          have hS := hT
          clear hT
          refine tk 14 hS ?_
          refine tk 15 hS ?_
          refine wpAnyH_done (by kernel_rfl) ?_ _
          have HC := Lib.hid hS
          clear hS hone
          go_wp2_with fail
          exact ⟨⟨k + 1, by omega, by go_num, Lib.hid (HR.out.trans (HC.out.mono HR.out.size)), Lib.hid fun j hj hjk => by
            rcases Nat.lt_succ_iff_lt_or_eq.1 hjk with h1 | rfl
            · exact HN.out j hj h1
            · rw [HX.out]; simpa using hh⟩, by simp [intOf]; omega⟩
      · obtain rfl : k = n2 := by omega
        have hd : decide ((k : Int) < (k : Int)) = false := by simp
        have hkn : ¬ (k : Int) < (k : Int) := by omega
        go_upto_region 4 with fail
        refine wp_region_held_drew (S := Below wr.heap.size wr) (by kernel_rfl) ((Below.refl _ wr).drew) (fun hS => ?_)
        refine tk 0 hS ?_
        refine tk 1 hS ?_
        refine tk 2 hS ?_ (hy := by intro wz hz; have p1 : wz.cell? ⟨g, 1, none⟩ = some (.slice A2 k c2) := (A2B.out.under hz A2B.out.lt).cell 1; go_simp <;> with_reducible rfl)
        refine tk 3 hS ?_
        refine tk 4 hS ?_
        refine tk 5 hS ?_
        refine sk 6 hS ?_
        refine sk 7 hS ?_
        refine sk 8 hS ?_
        refine sk 9 hS ?_
        refine sk 10 hS ?_
        refine sk 11 hS ?_
        refine sk 12 hS ?_
        refine sk 13 hS ?_
        refine sk 14 hS ?_
        refine tk 15 hS ?_
        refine wpAnyH_done (by kernel_rfl) ?_ _
        have HC := Lib.hid hS
        clear hS
        go_wp2_with fail
        go_ret
        exact ⟨by rw [HE1.out, tw_all (fun j hj => by simpa using HN.out j hj (by have := HQL.out; omega)), HQL.out]; rfl, HB2.out.trans ((HR.out.trans (HC.out.mono HR.out.size)).mono HB2.out.size)⟩
end Go.Proofs.YthbifccankfngaaGreatDoor

/-
  Rows of structs of two cells, written in their places; the walks of slices.DeleteFunc and remove.
  Conditions: at most 100000 claims.
-/

namespace Go.Proofs.YthbifccankfngaaGreatDoor
open Go.RowKit Go.Shelf
attribute [local go_sem] Oper.semAt_some
set_option maxRecDepth 20000

/-! ### a block's cells -/
theorem setCells_at (g : Nat) (t : TypeId) : ∀ (vs : List Value) (o : Nat) (w : World) (cur : List Value), At w g t cur.toArray → o + vs.length ≤ cur.length → At (w.setCells g o vs) g t (splice cur o vs).toArray
  | [], o, w, cur, h, _ => by
    rw [show splice cur o [] = cur by simp [splice]]
    exact h
  | v :: r, o, w, cur, h, hl => by
    have hl' : o + r.length + 1 ≤ cur.length := by simp at hl; omega
    rw [World.setCells]
    have h1 := h.set o v
    have e : cur.toArray.setIfInBounds o v = (cur.set o v).toArray := by simp
    rw [e] at h1
    have h2 := setCells_at g t r (o + 1) _ _ h1 (by simp; omega)
    have e2 : splice (cur.set o v) (o + 1) r = splice cur o (v :: r) := by
      unfold splice
      rw [List.take_add_one, List.take_set_of_le (Nat.le_refl _), List.getElem?_set_self (by omega), List.drop_set, if_pos (by omega), List.length_cons]
      simp [Nat.add_assoc, Nat.add_comm 1]
    rw [e2] at h2
    exact h2
theorem setCells_grown (w : World) (g o : Nat) (vs : List Value) : w.grownBy (w.setCells g o vs) (some g) := by
  obtain ⟨h1, h2, h3⟩ := pl_setCells_rest g vs o w
  exact ⟨h1, h2, h3, by rw [pl_setCells_size]; exact Nat.le_refl _, fun k _ hk => pl_setCells_heap g vs o w k fun e => hk (by rw [e])⟩
/-- A row's whole block. -/
structure Bk (w : World) (B : Nat) (e : TypeId) (g cap : Nat) (cur : List Value) : Prop where
  base : B ≤ g
  cells : At w g e cur.toArray
  capm : cap ≤ maxLen
  len : cur.length = cap * 2
section
variable {w w' : World} {B g cap n : Nat} {e : TypeId} {cur xs : List Value}
theorem Bk.own (h : Bk w B e g cap cur) (hn : n ≤ cap) (hx : cur.take (n * 2) = xs) : w.ownsRow B e 2 (.slice (some ⟨g, 0, none⟩) n cap) n xs := by
  refine ⟨?_, .inr ⟨g, cap, cur.toArray, rfl, h.base, h.cells, hn, h.capm, by simpa using h.len, by simpa using hx⟩⟩
  rw [← hx, List.length_take, h.len, Nat.min_eq_left (Nat.mul_le_mul_right _ hn)]
theorem own_bk {v : Value} (h : w.ownsRow B e 2 v n xs) (hn : 0 < n) : ∃ g cap cur, v = .slice (some ⟨g, 0, none⟩) n cap ∧ Bk w B e g cap cur ∧ n ≤ cap ∧ cur.take (n * 2) = xs := by
  rcases h.2 with ⟨_, h0⟩ | ⟨g, cap, cur, rfl, hb, hg, hc, hm, hs, ht⟩
  · omega
  · exact ⟨g, cap, cur.toList, rfl, ⟨hb, hg, hm, by simpa using hs⟩, hc, ht⟩
theorem Bk.kept (h : Bk w B e g cap cur) {row : Option Nat} (hg : w.grownBy w' row) (hr : some g ≠ row) : Bk w' B e g cap cur := ⟨h.base, h.cells.grown hg hr, h.capm, h.len⟩
theorem Bk.set (h : Bk w B e g cap cur) (o : Nat) (vs : List Value) (ho : o + vs.length ≤ cur.length) : Bk (w.setCells g o vs) B e g cap (splice cur o vs) :=
  ⟨h.base, setCells_at g e vs o w cur h.cells ho, h.capm, by rw [length_splice _ _ _ ho, h.len]⟩
theorem Bk.there (h : Bk w B e g cap cur) (o m : Nat) (ho : o + m ≤ cur.length) : w.there g o m := fun j hj => by
  refine ⟨?_, h.cells.frozen _⟩
  rw [h.cells.cell]
  simp [show o + j < cur.length by omega]
theorem Bk.range (h : Bk w B e g cap cur) (hx : cur.take (n * 2) = xs) : w.rangeAt g 0 xs := fun j v hv => by
  rw [Nat.zero_add, h.cells.cell, List.getElem?_toArray]
  rw [← hx, List.getElem?_take] at hv
  split at hv
  · exact hv
  · cases hv
end
theorem splice_take (L : List Value) (o : Nat) (vs : List Value) (m : Nat) (h : o + vs.length ≤ m) (ho : m ≤ L.length) : (splice L o vs).take m = splice (L.take m) o vs := by
  unfold splice
  rw [List.take_append, List.take_append, List.take_of_length_le (by simp; omega), List.take_of_length_le (l := vs) (by simp; omega), List.take_take, Nat.min_eq_left (by omega), List.drop_take, List.length_take, Nat.min_eq_left (by omega), Nat.sub_sub]
theorem splice_low (L : List Value) (o : Nat) (vs : List Value) (ho : o ≤ L.length) : (splice L o vs).take o = L.take o := by
  unfold splice
  rw [List.take_append_of_le_length (by rw [List.length_take]; omega), List.take_take, Nat.min_self]
theorem splice_cm (a b : List Cm) (y x : Cm) : splice (cmL (a ++ y :: b)) (a.length * 2) (cmV x) = cmL (a ++ x :: b) := by
  rw [cmL_append, cmL_append, cmL_cons, cmL_cons]
  unfold splice
  have e1 : (cmL a).length = a.length * 2 := cmL_length a
  rw [List.take_append_of_le_length (by omega), List.take_of_length_le (by omega), List.drop_append]
  rw [List.drop_of_length_le (by simp [cmV]; omega), e1]
  have e2 : a.length * 2 + (cmV x).length - a.length * 2 = 2 := by simp [cmV]
  rw [e2]
  rfl

/-! ### cuts of slices of two cells -/
theorem run_tail2 {P : Program} (t e : TypeId) (ht : P.underlying t = some (.slice e)) (hi : (P.info? e).map (·.size) = some 2) (A : Option Addr) (n c k : Nat) (hk : k ≤ n) (w : World) :
    (Instr.slice t (.slice A n c) (some (.int .i64 (k : Int))) none none).run P w = .ok (.slice (if c = k then A else A.map (·.add (k * 2))) (n - k) (c - k)) w := by
  cases hq : P.info? e with
  | none => simp [hq] at hi
  | some i =>
    have hs : i.size = 2 := by simpa [hq] using hi
    have h0 : (0 : Int) ≤ k := by omega
    have h1 : (k : Int) ≤ n := by omega
    simp [Instr.slice, Instr.sliceBounds, Instr.sliceBound, asIntOf, run_underlying ht, sizeOf, typeInfo, hq, hs, hk]
theorem run_head2 {P : Program} (t e : TypeId) (ht : P.underlying t = some (.slice e)) (hi : (P.info? e).map (·.size) = some 2) (A : Option Addr) (n c k : Nat) (hk : k ≤ c) (w : World) :
    (Instr.slice t (.slice A n c) none (some (.int .i64 (k : Int))) none).run P w = .ok (.slice A k c) w := by
  cases hq : P.info? e with
  | none => simp [hq] at hi
  | some i =>
    have hz : ∀ a : Addr, a.add 0 = a := fun a => by simp [Addr.add]
    simp [Instr.slice, Instr.sliceBounds, Instr.sliceBound, asIntOf, run_underlying ht, sizeOf, typeInfo, hq, hk, hz]
theorem c_size : (Tryz.prog.info? 54).map (·.size) = some 2 := by kernel_rfl
theorem r_size : (Tryz.prog.info? 33).map (·.size) = some 2 := by kernel_rfl

/-! ### DeleteFunc -/
/-- What is asked of a function value while the blocks of X turn. -/
def PredX (f : Nat) (lb : Array Value) (p : Cm → Bool) (X : Nat → Prop) (w : World) : Prop := ∀ (W : World) (c : Cm), Mod X w W → Calls Tryz.prog f (#[.agg (cmA c)] ++ lb) W (RetB W (.bool (p c)))
theorem PredX.b {f : Nat} {lb : Array Value} {p : Cm → Bool} {X : Nat → Prop} {w : World} (h : PredX f lb p X w) : PredB f lb p w := fun W c hW => h W c (Mod.of_below hW X)
theorem pred_ofX (t b : Nat) (X : Nat → Prop) (w : World) (hX : ¬ X b) (hc : w.cell? ⟨b, 0, none⟩ = some (.int .u64 (t : Int))) : PredX 64 #[.pointer (some ⟨b, 0, none⟩)] (fun c => c.1 == t) X w := fun W c hW => by
  refine of1_any c t b W ?_
  have hlt := World.block_lt_of_cell? w ⟨b, 0, none⟩ hc
  rw [World.cell?_of_block (w := w) (a := ⟨b, 0, none⟩) (hW.block b hlt hX)]
  exact hc
structure DfS (w : World) (B g cap n : Nat) (l : List Cm) (p : Cm → Bool) (k m : Nat) (J : List Cm) (cur : List Value) (z : World) : Prop where
  hm : ((l.take k).filter fun c => !p c).length = m
  hJ : 1 ≤ J.length
  hk : m + J.length = k
  bk : Bk z B 54 g cap cur
  row : cur.take (n * 2) = cmL ((l.take k).filter (fun c => !p c) ++ J ++ l.drop k)
  grown : w.grownBy z (some g)
def DfL (w : World) (B g cap n : Nat) (l : List Cm) (p : Cm → Bool) (i j : Value) (z : World) : Prop :=
  ∃ (k m : Nat) (J : List Cm) (cur : List Value), k ≤ n ∧ m ≤ k ∧ i = .int .i64 (m : Int) ∧ j = .int .i64 (k : Int) ∧ Hid (DfS w B g cap n l p k m J cur z)
theorem grown_trans {a b c : World} {row : Option Nat} (h : a.grownBy b row) (k : b.grownBy c row) : a.grownBy c row :=
  ⟨k.os.trans h.os, k.tape.trans h.tape, k.output.trans h.output, Nat.le_trans h.size k.size, fun i hi hr => (k.block i (Nat.lt_of_lt_of_le hi h.size) hr).trans (h.block i hi hr)⟩
theorem grown_low {a b : World} (row : Option Nat) (h : Below a.heap.size a b) : a.grownBy b row := ⟨h.os, h.tape, h.output, h.size, fun i hi _ => h.block i hi⟩
theorem grown_mod {a b : World} {g : Nat} (h : a.grownBy b (some g)) : Mod (fun k => k = g) a b := ⟨h.os, h.tape, h.output, h.size, fun k hk hx => h.block k hk fun e => hx (Option.some.inj e)⟩
section
variable {w z z' : World} {B g cap n : Nat} {l : List Cm} {p : Cm → Bool} {k m : Nat} {J : List Cm} {cur : List Value}
theorem DfS.below (h : DfS w B g cap n l p k m J cur z) (hb : Below z.heap.size z z') : DfS w B g cap n l p k m J cur z' :=
  ⟨h.hm, h.hJ, h.hk, h.bk.kept (grown_low none hb) (by simp), h.row, grown_trans h.grown (grown_low _ hb)⟩
theorem DfS.start (hb : Bk w B 54 g cap cur) (hr : cur.take (n * 2) = cmL l) {i : Nat} (hi : i < l.length) (h1 : p l[i] = true) (h0 : ∀ (j : Nat) (hj : j < l.length), j < i → p l[j] = false) : DfS w B g cap n l p (i + 1) i [l[i]] cur w := by
  have ht : (l.take i).filter (fun c => !p c) = l.take i := List.filter_eq_self.2 fun x hx => by
    obtain ⟨j, hj, rfl⟩ := List.getElem_of_mem hx
    rw [List.getElem_take, h0 j _ (by simp at hj; omega)]
    rfl
  have ht2 : (l.take (i + 1)).filter (fun c => !p c) = l.take i := by
    rw [List.take_add_one, List.filter_append, ht, List.getElem?_eq_getElem hi]
    simp [h1]
  refine ⟨by rw [ht2]; simp; omega, by simp, rfl, hb, ?_, ⟨rfl, rfl, rfl, Nat.le_refl _, fun _ _ _ => rfl⟩⟩
  rw [hr, ht2]
  congr 1
  rw [List.append_assoc]
  simp
theorem DfS.drop (h : DfS w B g cap n l p k m J cur z) (hk : k < l.length) (h1 : p l[k] = true) : DfS w B g cap n l p (k + 1) m (J ++ [l[k]]) cur z := by
  have e1 : (l.take (k + 1)).filter (fun c => !p c) = (l.take k).filter fun c => !p c := by
    rw [List.take_add_one, List.filter_append, List.getElem?_eq_getElem hk]
    simp [h1]
  refine ⟨by rw [e1]; exact h.hm, by simp, by have := h.hk; simp; omega, h.bk, ?_, h.grown⟩
  rw [h.row, e1, List.drop_eq_getElem_cons hk]
  simp
theorem DfS.keep2 {y : Cm} (h : DfS w B g cap n l p k m (y :: J) cur z) (hk : k < l.length) (hn : l.length = n) (hc : n ≤ cap) (h1 : p l[k] = false) : DfS w B g cap n l p (k + 1) (m + 1) (J ++ [l[k]]) (splice cur (m * 2) (cmV l[k])) (z.setCells g (m * 2) (cmV l[k])) := by
  have hk2 := h.hk
  have hm2 := h.hm
  have hfit : m * 2 + (cmV l[k]).length ≤ n * 2 := by simp [cmV]; simp at hk2; omega
  have hfit2 : m * 2 + (cmV l[k]).length ≤ cur.length := by rw [h.bk.len]; have := Nat.mul_le_mul_right 2 hc; omega
  have e1 : (l.take (k + 1)).filter (fun c => !p c) = (l.take k).filter (fun c => !p c) ++ [l[k]] := by
    rw [List.take_add_one, List.filter_append, List.getElem?_eq_getElem hk]
    simp [h1]
  refine ⟨?_, by simp, by simp at hk2 ⊢; omega, h.bk.set _ _ hfit2, ?_, grown_trans h.grown (setCells_grown _ _ _ _)⟩
  · rw [e1]
    simp [hm2]
  · rw [splice_take _ _ _ _ hfit (by rw [h.bk.len]; exact Nat.mul_le_mul_right 2 hc), h.row, e1]
    have := splice_cm ((l.take k).filter fun c => !p c) (J ++ l.drop k) y l[k]
    rw [hm2] at this
    rw [show (l.take k).filter (fun c => !p c) ++ y :: J ++ l.drop k = (l.take k).filter (fun c => !p c) ++ y :: (J ++ l.drop k) by simp, this, List.drop_eq_getElem_cons hk]
    simp
theorem DfS.there (h : DfS w B g cap n l p k m J cur z) (hk : k < l.length) (hn : l.length = n) (hc : n ≤ cap) : z.there g (m * 2) 2 := by
  have hk2 := h.hk
  refine h.bk.there _ _ ?_
  rw [h.bk.len]
  have := Nat.mul_le_mul_right 2 hc
  omega
end
end Go.Proofs.YthbifccankfngaaGreatDoor

/-
  The walks of slices.DeleteFunc and of remove.
  Conditions: at most 100000 claims.
-/

namespace Go.Proofs.YthbifccankfngaaGreatDoor
open Go.RowKit Go.Shelf
attribute [local go_sem] Oper.semAt_some
set_option maxRecDepth 20000

theorem zero_C (w : World) : (zeroValue 54).run Tryz.prog w = .ok (.agg zC) w := by kernel_rfl
/-- clear(s) of claims: its cells are written anew. -/
theorem run_clear2 (w : World) (t ty : TypeId) (ht : Tryz.prog.underlying t = some (.slice 54)) (b o n c : Nat) (hth : w.there b o (n * 2)) : ∃ vs : List Value, vs.length = n * 2 ∧
    (Builtin.clear_ #[t] ty #[.slice (some ⟨b, o, none⟩) n c]).run Tryz.prog w = .ok (.tuple #[]) (w.setCells b o vs) := by
  cases n with
  | zero => exact ⟨[], rfl, by simp [Builtin.clear_, run_underlying ht, World.setCells]⟩
  | succ n =>
    have hlen : (Builtin.zeroCells (Value.agg zC).cells (n + 1)).toList.length = (n + 1) * 2 := by
      rw [Array.length_toList, size_zeroCells]
      rfl
    have hone : ∀ v ∈ (Builtin.zeroCells (Value.agg zC).cells (n + 1)).toList, v.oneCell' = true := by
      intro v hv
      simp only [Builtin.zeroCells] at hv
      simp [Value.cells, zC] at hv
      obtain ⟨a, _, rfl⟩ := hv
      have h2 : a % 2 = 0 ∨ a % 2 = 1 := by omega
      rcases h2 with h2 | h2 <;> simp [h2, Value.oneCell']
    refine ⟨(Builtin.zeroCells (Value.agg zC).cells (n + 1)).toList, hlen, ?_⟩
    have hst := run_storeCells_cells (P := Tryz.prog) b o (Builtin.zeroCells (Value.agg zC).cells (n + 1)).toList 0 w (fun j hj => by simpa using (hth j (by omega)).1) (fun j hj => by simpa using (hth j (by omega)).2) hone
    simp only [Nat.add_zero] at hst
    have hz := zero_C
    unfold zC at hst hz ⊢
    simp [Builtin.clear_, run_underlying ht, hz, hst]
section
variable {ops : Array Oper} {rest : List Oper} {o : Oper} {a : Act} {w : World} {Q : Exit → Act → World → Prop}
theorem wpList_clear2 (hgd : o.guard = none) (hdst : o.dst = none) (x : Operand) (t : TypeId) (ho : o.op = .call { callee := .builtin .clear, args := #[x], argTypes := #[t] }) (ht : Tryz.prog.underlying t = some (.slice 54)) (b of n c : Nat)
    (hx : a.eval x = .slice (some ⟨b, of, none⟩) n c) (hth : w.there b of (n * 2)) (h : ∀ vs : List Value, vs.length = n * 2 → wpList Tryz.prog ops Q rest (a.put none (.tuple #[])) (w.setCells b of vs)) : wpList Tryz.prog ops Q (o :: rest) a w := by
  obtain ⟨vs, hl, hrun⟩ := run_clear2 w t o.type ht b of n c hth
  refine wpList_plain hgd fun K hK => ?_
  unfold Oper.wp
  simp [execOp, ho, resolve, invoke, builtin, hx, hrun, Result.andThen]
  have := h vs hl
  rw [← hdst] at this
  exact hK _ _ this
end
/-- Claims taken out of a row of the call's own. -/
def DelR (B : Nat) (v : Value) (l : List Cm) (w : World) (e : Ending) (w' : World) : Prop :=
  ∃ v', e = .returned v' ∧ w'.ownsRow B 54 2 v' l.length (cmL l) ∧ v'.ownBlock = v.ownBlock ∧ w.grownBy w' v.ownBlock
theorem filt_len {l : List Cm} {p : Cm → Bool} {i : Nat} (hi : i < l.length) (h1 : p l[i] = true) : (l.filter fun c => !p c).length < l.length := by
  refine Nat.lt_of_le_of_ne (List.length_filter_le _ _) fun he => ?_
  have := List.length_filter_eq_length_iff.1 he l[i] (List.getElem_mem hi)
  simp [h1] at this
theorem idx_cases (p : Cm → Bool) (l : List Cm) : (idxI p l = -1 ∧ l.filter (fun c => !p c) = l) ∨ ∃ i, ∃ hi : i < l.length, idxI p l = (i : Int) ∧ p l[i] = true ∧ ∀ (j : Nat) (hj : j < l.length), j < i → p l[j] = false := by
  unfold idxI
  cases h : l.findIdx? p with
  | none =>
    left
    refine ⟨rfl, List.filter_eq_self.2 fun x hx => ?_⟩
    rw [List.findIdx?_eq_none_iff] at h
    simp [h x hx]
  | some i =>
    right
    rw [List.findIdx?_eq_some_iff_getElem] at h
    obtain ⟨hi, h1, h2⟩ := h
    exact ⟨i, hi, rfl, h1, fun j hj hji => by simpa using h2 j hji⟩
set_option maxHeartbeats 3200000 in
theorem delete_any (f : Nat) (lb : Array Value) (p : Cm → Bool) (eg : ∀ args w, (callFunc f args).run Tryz.prog w = .ok (.enter f args) w) (B : Nat) (v : Value) (l : List Cm) (w : World) (hown : w.ownsRow B 54 2 v l.length (cmL l))
    (hp : PredX f lb p (fun k => v.ownBlock = some k) w) (hn : l.length ≤ 100000) : Calls Tryz.prog 73 #[v, .func (.func f) #[] lb] w (DelR B v (l.filter fun c => !p c) w) := by
  obtain ⟨A, c, hv, hc, _⟩ := pl_own_slice hown
  have HI := Lib.hid (index_any f lb p eg (fun _ => False) A l.length c l w hp.b (by rw [hv] at hown; exact Lz.of_own hown (fun _ h => h.elim)) hn)
  have HO := Lib.hid hown
  obtain ⟨ll, hll⟩ : ∃ ll, ll = l.filter fun c => !p c := ⟨_, rfl⟩
  rw [← hll]
  have HLL := Lib.hid hll
  obtain ⟨n, hln⟩ : ∃ n, l.length = n := ⟨_, rfl⟩
  have HLN := Lib.hid hln
  rw [hln] at HI hn hc hv
  subst hv
  clear hown hll hln
  rcases idx_cases p l with ⟨hi, hf⟩ | ⟨i, hi, hx, h1, h0⟩
  · have HF := Lib.hid hf
    rw [hi] at HI
    clear hf hi hp
    go_enter Tryz.func73, Tryz.ntmps73
    go_wp2_with fail
    refine HI.out.mono ?_
    rintro e z ⟨rfl, hb⟩
    have HB := Lib.hid hb
    clear hb HI
    go_wp2_with fail
    go_ret
    refine ⟨_, rfl, ?_, rfl, grown_low _ HB.out⟩
    rw [HLL.out, HF.out]
    exact HO.out.kept (grown_low none HB.out) (by cases A <;> first | exact .inl rfl | exact .inr (by simp [Value.ownBlock]))
  · have hn0 : 0 < n := by rw [← HLN.out]; omega
    obtain ⟨g, cap, cur, hA, hbk, hcap, hcur⟩ := own_bk HO.out (by rw [HLN.out]; exact hn0)
    injection hA with hA hlen hC
    clear hlen
    subst hA hC
    rw [HLN.out] at hcur hcap
    have ST := Lib.hid (DfS.start hbk hcur hi h1 h0)
    have hlt := filt_len (p := p) hi h1
    have HLT := Lib.hid hlt
    have hin : i < n := by rw [← HLN.out]; exact hi
    have hP : Hid (∀ (W : World) (c : Cm), w.grownBy W (some g) → Calls Tryz.prog f (#[.agg (cmA c)] ++ lb) W (RetB W (.bool (p c)))) := fun W c hW => hp W c ((grown_mod hW).mono fun k _ hk => by rw [hk]; rfl)
    have HGL : g < w.heap.size := hbk.cells.lt
    rw [hx] at HI
    have he : ((i : Int) == -1) = false := by simp
    clear hp hbk hcur h1 h0 hlt hx
    go_enter Tryz.func73, Tryz.ntmps73
    go_wp2_with fail
    refine HI.out.mono ?_
    rintro e z ⟨rfl, hb⟩
    have ST2 := Lib.hid (ST.out.below hb)
    clear hb HI ST
    go_wp2_with fail
    go_loopw [5, 6] (fun i j z => DfL w B g c n l p i j z) (fun i j _ => n - (intOf j).toNat)
    case atStart => exact ⟨i + 1, i, [l[i]], cur, by omega, by omega, rfl, by go_num, ST2⟩
    case round =>
      obtain ⟨k, m, J, cu, hk, hmk, rfl, rfl, HS⟩ := hrel
      by_cases hlt : k < n
      · have hkl : k < l.length := by rw [HLN.out]; exact hlt
        obtain ⟨x, hx⟩ : ∃ x, l[k] = x := ⟨_, rfl⟩
        have R1 : Hid (wr.rangeAt g (0 + k * 2) (cmV x)) := by
          have hlen : (List.filter (fun c => !p c) (l.take k) ++ J).length = k := by rw [List.length_append, HS.out.hm, HS.out.hk]
          have h3 := cm_range (HS.out.bk.range HS.out.row) (k := k) (by rw [List.length_append, hlen, List.length_drop]; omega)
          have h4 : (List.filter (fun c => !p c) (l.take k) ++ J ++ l.drop k)[k]'(by rw [List.length_append, hlen, List.length_drop]; omega) = l[k] := by
            rw [List.getElem_append_right (by omega)]
            simp [hlen]
          rw [h4, hx] at h3
          exact h3
        have HX := Lib.hid hx
        clear hx
        have HS1 := Lib.hid (HS.out.below ((Below.refl wr.heap.size wr).alloc (Nat.le_refl _) (.cells (cmA x) 54)))
        have A7 := Lib.hid (At.new wr 54 (cmA x))
        have hzs : 0 + k * 2 = k * 2 := by omega
        rw [hzs] at R1
        clear hzs
        cases hpx : p x
        · obtain ⟨J2, hth, hS2⟩ : ∃ J2, ∃ hth : ∀ z, Below (wr.alloc (.cells (cmA x) 54)).heap.size (wr.alloc (.cells (cmA x) 54)) z → z.there g (m * 2) 2, ∀ z, Below (wr.alloc (.cells (cmA x) 54)).heap.size (wr.alloc (.cells (cmA x) 54)) z → DfS w B g c n l p (k + 1) (m + 1) J2 (splice cu (m * 2) (cmV x)) (z.setCells g (m * 2) (cmV x)) := by
            have hJ2 : ∃ y J3, J = y :: J3 := by
              have := HS.out.hJ
              cases J with
              | nil => simp at this
              | cons y J3 => exact ⟨y, J3, rfl⟩
            obtain ⟨y, J3, rfl⟩ := hJ2
            exact ⟨J3 ++ [x], fun z hz => DfS.there (HS1.out.below (z' := z) hz) hkl HLN.out hcap, fun z hz => by
              have h6 := HS1.out.below (z' := z) hz
              have h7 := DfS.keep2 h6 hkl HLN.out hcap (by rw [HX.out]; exact hpx)
              rw [HX.out] at h7
              exact h7⟩
          have TH := Lib.hid hth
          have S2 := Lib.hid hS2
          have HPX := Lib.hid hpx
          clear hpx hth hS2
          go_wp2_with (first
            | refine wpList_load_in 54 25 (.tmp 24) rfl rfl rfl g (k * 2) rfl (cmV x) 2 strC rfl R1.out ?_
            | refine wpList_store_new 54 (.tmp 7) (.tmp 25) rfl rfl rfl _ wr rfl rfl (cmA x) zC 2 rfl strC rfl rfl (cmA_one _) rfl ?_
            | refine wpList_load_at 54 27 (.tmp 7) rfl rfl rfl wr.heap.size rfl (cmA x) 2 strC rfl A7.out ?_
            | (go_at_fn f; refine (hP.out _ x HS1.out.grown).mono ?_; rintro e z2 ⟨rfl, hb2⟩; have HB2 := Lib.hid hb2; have A72 := Lib.hid (A7.out.under hb2 A7.out.lt); have TH2 := Lib.hid (TH.out z2 hb2); have S22 := Lib.hid (S2.out z2 hb2); clear hb2; rw [HPX.out])
            | refine wpList_load_at 54 32 (.tmp 7) rfl rfl rfl wr.heap.size rfl (cmA x) 2 strC rfl A72.out ?_
            | refine wpList_store_mid rfl 54 (.tmp 33) (.tmp 32) rfl g (m * 2) (cmA x) rfl rfl TH2.out c_size (cmA_one _) ?_)
          exact ⟨⟨k + 1, m + 1, J2, _, by omega, by omega, by go_num, by go_num, S22⟩, by simp [intOf]; omega⟩
        · have HS3 : Hid (∀ z, Below (wr.alloc (.cells (cmA x) 54)).heap.size (wr.alloc (.cells (cmA x) 54)) z → DfS w B g c n l p (k + 1) m (J ++ [x]) cu z) := fun z hz => by
            have := DfS.drop (HS1.out.below (z' := z) hz) hkl (by rw [HX.out]; exact hpx)
            rw [HX.out] at this
            exact this
          have HPX := Lib.hid hpx
          clear hpx
          go_wp2_with (first
            | refine wpList_load_in 54 25 (.tmp 24) rfl rfl rfl g (k * 2) rfl (cmV x) 2 strC rfl R1.out ?_
            | refine wpList_store_new 54 (.tmp 7) (.tmp 25) rfl rfl rfl _ wr rfl rfl (cmA x) zC 2 rfl strC rfl rfl (cmA_one _) rfl ?_
            | refine wpList_load_at 54 27 (.tmp 7) rfl rfl rfl wr.heap.size rfl (cmA x) 2 strC rfl A7.out ?_
            | (go_at_fn f; refine (hP.out _ x HS1.out.grown).mono ?_; rintro e z2 ⟨rfl, hb2⟩; have S22 := Lib.hid (HS3.out z2 hb2); clear hb2; rw [HPX.out]))
          exact ⟨⟨k + 1, m, J ++ [x], _, by omega, by omega, rfl, by go_num, S22⟩, by simp [intOf]; omega⟩
      · obtain rfl : k = n := by omega
        have hm : m = ll.length := by rw [← HS.out.hm, HLL.out, ← HLN.out, List.take_length]
        have hmk2 : m < k := by rw [hm, HLL.out, ← HLN.out]; exact HLT.out
        have hm3 : ¬ (c = m) := by omega
        have rt := fun W => run_tail2 (P := Tryz.prog) 77 54 Tryz.underlying77 c_size (some ⟨g, 0, none⟩) k c m (by omega) W
        have rh := fun W => run_head2 (P := Tryz.prog) 77 54 Tryz.underlying77 c_size (some ⟨g, 0, none⟩) k c m (by omega) W
        rw [if_neg hm3] at rt
        simp only [Option.map_some, add_plain, Nat.zero_add] at rt
        have hmc : m * 2 + (k - m) * 2 ≤ cu.length := by rw [HS.out.bk.len]; omega
        have TH := Lib.hid (HS.out.bk.there (m * 2) ((k - m) * 2) hmc)
        have HMC := Lib.hid hmc
        have HM := Lib.hid hm
        clear hm hmc
        obtain ⟨vs, hvs, hrun⟩ := run_clear2 wr 77 0 Tryz.underlying77 g (m * 2) (k - m) (c - m) TH.out
        have HVS := Lib.hid hvs
        clear hvs
        go_wp2_with fail
        go_ret
        refine ⟨_, rfl, ?_, rfl, grown_trans HS.out.grown (setCells_grown _ _ _ _)⟩
        have hb2 := HS.out.bk.set (m * 2) vs (by rw [HVS.out]; exact HMC.out)
        rw [← HM.out]
        refine hb2.own (by omega) ?_
        have hmc := HMC.out
        rw [splice_low _ _ _ (by omega)]
        have h9 := congrArg (List.take (m * 2)) HS.out.row
        rw [List.take_take, Nat.min_eq_left (by omega)] at h9
        have hl9 : (List.filter (fun c => !p c) (l.take k)).length = m := HS.out.hm
        rw [h9, List.append_assoc, cmL_append, List.take_append_of_le_length (by rw [cmL_length, hl9]; exact Nat.le_refl _), List.take_of_length_le (by rw [cmL_length, hl9]; exact Nat.le_refl _), HLL.out, ← HLN.out, List.take_length]

/-- What remove leaves: the slice in its cell, its row. -/
def RemR (B bx i : Nat) (cs : Array Value) (v : Value) (l : List Cm) (w : World) (e : Ending) (w' : World) : Prop :=
  e = .returned (.tuple #[]) ∧ ∃ v', w'.ownsRow B 54 2 v' l.length (cmL l) ∧ v'.ownBlock = v.ownBlock ∧ At w' bx 79 (cs.setIfInBounds i v') ∧ Mod (fun k => k = bx ∨ v.ownBlock = some k) w w'
theorem one_own {w : World} {B : Nat} {e : TypeId} {v : Value} {n : Nat} {xs : List Value} (h : w.ownsRow B e 2 v n xs) : v.oneCell' = true := by
  obtain ⟨A, c, rfl, _⟩ := pl_own_slice h
  rfl
set_option maxHeartbeats 1600000 in
theorem remove_any (f : Nat) (lb : Array Value) (p : Cm → Bool) (eg : ∀ args w, (callFunc f args).run Tryz.prog w = .ok (.enter f args) w) (B : Nat) (v : Value) (l : List Cm) (w : World) (hown : w.ownsRow B 54 2 v l.length (cmL l))
    (hp : PredX f lb p (fun k => v.ownBlock = some k) w) (hn : l.length ≤ 100000) (bx i : Nat) (cs : Array Value) (hb : At w bx 79 cs) (hi : cs[i]? = some v) :
    Calls Tryz.prog 48 #[.pointer (some ⟨bx, i, none⟩), .func (.func f) #[] lb] w (RemR B bx i cs v (l.filter fun c => !p c) w) := by
  have HD := Lib.hid (delete_any f lb p eg B v l w hown hp hn)
  have hne : some bx ≠ v.ownBlock := own_ne hown hb (show (79 : Nat) ≠ 54 by decide)
  have c0 : w.cell? ⟨bx, i, none⟩ = some v := (hb.cell i).trans hi
  have HB := Lib.hid hb
  obtain ⟨ll, hll⟩ : ∃ ll, ll = l.filter fun c => !p c := ⟨_, rfl⟩
  rw [← hll] at HD ⊢
  have hvv := one_own hown
  obtain ⟨A, cc, hv, _⟩ := pl_own_slice hown
  clear hown hp hb hll eg
  subst hv
  go_enter Tryz.func48, Tryz.ntmps48
  go_wp2_with fail
  refine HD.out.mono ?_
  rintro e z ⟨v', rfl, ho, hv', hg⟩
  have HO := Lib.hid ho
  have HV := Lib.hid hv'
  have HG := Lib.hid hg
  have hz := HB.out.grown hg hne
  have HZ := Lib.hid hz
  obtain ⟨A2, c2, hv2, _⟩ := pl_own_slice ho
  have c1 : z.cell? ⟨bx, i, none⟩ = some (.slice A l.length cc) := (hz.cell i).trans hi
  have f1 : z.frozen? ⟨bx, i, none⟩ = false := hz.frozen i
  clear ho hg hz HD hv'
  subst hv2
  go_wp2_with fail
  go_end0
  have hset := HZ.out.set i (.slice A2 ll.length c2)
  have hgs : z.grownBy (z.setCell ⟨bx, i, none⟩ (.slice A2 ll.length c2)) (some bx) := ⟨rfl, rfl, rfl, by simp [World.setCell], fun k _ hk => Below.heap_setCell _ _ _ _ (by simpa using fun e => hk (by rw [e]))⟩
  refine ⟨rfl, _, HO.out.kept hgs ?_, HV.out, hset, ((Mod.refl _ w).grown HG.out fun k hk => .inl (.inr hk)).grown hgs fun k hk => .inl (.inl (by injection hk with hk; exact hk.symm))⟩
  have := HV.out
  rw [this]
  cases h9 : (Value.slice A l.length cc).ownBlock with
  | none => exact .inl rfl
  | some k => exact .inr (by rw [← h9]; exact Ne.symm hne)
end Go.Proofs.YthbifccankfngaaGreatDoor

/-
  A struct of two cells put into a row of the call's own: the walks of slices.Insert and of insert.
  Conditions: at most 100000 claims.
-/

namespace Go.Proofs.YthbifccankfngaaGreatDoor
open Go.RowKit Go.Shelf
attribute [local go_sem] Oper.semAt_some
set_option maxRecDepth 20000

/-! ### two cuts of one row -/
theorem splice_at (a r xs : List Value) : splice (a ++ r) a.length xs = a ++ (xs ++ r.drop xs.length) := by
  unfold splice
  rw [List.take_left, List.drop_append, List.drop_of_length_le (by omega), Nat.add_sub_cancel_left]
  rfl
theorem row_parts {cur a : List Value} {n : Nat} (h : cur.take n = a) : ∃ r, cur = a ++ r := ⟨cur.drop n, by rw [← h, List.take_append_drop]⟩
/-- First what follows, then what comes in. -/
theorem splice_in1 {cur a b xs : List Value} {n p q m : Nat} (h : cur.take n = a ++ b) (hp : p = a.length) (hq : q = a.length + xs.length) (hm : m = a.length + xs.length + b.length) (hl : m ≤ cur.length) : (splice (splice cur q b) p xs).take m = a ++ (xs ++ b) := by
  obtain ⟨r, rfl⟩ := row_parts h
  subst hp hq hm
  obtain ⟨r1, r2, hr, hl1⟩ : ∃ r1 r2, b ++ r = r1 ++ r2 ∧ r1.length = xs.length := ⟨(b ++ r).take xs.length, (b ++ r).drop xs.length, by rw [List.take_append_drop], by simp at hl ⊢; omega⟩
  have e1 : splice (a ++ b ++ r) (a.length + xs.length) b = a ++ (r1 ++ (b ++ r2.drop b.length)) := by
    have := splice_at (a ++ r1) r2 b
    rw [List.length_append, hl1] at this
    rw [List.append_assoc, hr, ← List.append_assoc, this, List.append_assoc]
  rw [e1, splice_at, ← hl1, List.drop_left, hl1]
  rw [← List.append_assoc, ← List.append_assoc, List.take_append_of_le_length (by simp; omega), List.take_of_length_le (by simp; omega), List.append_assoc]
/-- First what comes in, then what follows. -/
theorem splice_in2 {cur a b xs : List Value} {n p q m : Nat} (h : cur.take n = a) (hp : p = a.length) (hq : q = a.length + xs.length) (hm : m = a.length + xs.length + b.length) (hl : m ≤ cur.length) : (splice (splice cur p xs) q b).take m = a ++ (xs ++ b) := by
  obtain ⟨r, rfl⟩ := row_parts h
  subst hp hq hm
  rw [splice_at, ← List.append_assoc]
  have := splice_at (a ++ xs) (r.drop xs.length) b
  rw [List.length_append] at this
  rw [this, ← List.append_assoc, List.take_append_of_le_length (by simp; omega), List.take_of_length_le (by simp; omega), List.append_assoc]

/-! ### the run of copy, of append at two types, of append of zeros -/
section
variable {P : Program} (w : World)
theorem run_copy2 (dT sT ty elem : TypeId) (b o dLen dCap sLen sCap m : Nat) (a : Addr) (cs : List Value) (hu : P.underlying dT = some (.slice elem)) (hs : (P.info? elem).map (·.size) = some 2) (hm : Nat.min sLen dLen = m) (hn : cs.length = m * 2)
    (hsrc : ∀ j v, cs[j]? = some v → w.cell? (a.add j) = some v) (hth : w.there b o cs.length) (h1 : ∀ v ∈ cs, v.oneCell' = true) :
    (Builtin.copy_ #[dT, sT] ty #[.slice (some ⟨b, o, none⟩) dLen dCap, .slice (some a) sLen sCap]).run P w = .ok (goInt m) (w.setCells b o cs) := by
  have hst := run_storeCells_cells (P := P) b o cs 0 w (by simpa using fun j hj => (hth j hj).1) (by simpa using fun j hj => (hth j hj).2) h1
  cases hq : P.info? elem with
  | none => simp [hq] at hs
  | some i =>
    have hi : i.size = 2 := by simpa [hq] using hs
    have hl := run_loadCells_list (P := P) w a cs hsrc
    rw [hn] at hl
    simp only [Nat.add_zero] at hst
    simp [Builtin.copy_, run_underlying hu, Builtin.lenOf, Builtin.firstCells, sizeOf, typeInfo, hq, hi, hm, hl, hst]
theorem append_two (t tx ty e e' : TypeId) (ht : P.underlying t = some (.slice e)) (hx : P.underlying tx = some (.slice e')) (A : Option Addr) (n c : Nat) (X : Option Addr) (m d : Nat) : (Builtin.append_ #[t, tx] ty #[.slice A n c, .slice X m d]).run P w = (Builtin.append_ #[t, t] ty #[.slice A n c, .slice X m d]).run P w := by
  simp [Builtin.append_, run_underlying ht, run_underlying hx]
end
/-- append(s[:i], make([]T, m)...) that has no room: a new row that begins with the i elements. -/
theorem run_appz2 (w : World) (B : Nat) (t tn ty e : TypeId) (i : TypeInfo) (z : Value) (ht : Tryz.prog.underlying t = some (.slice e)) (htn : Tryz.prog.underlying tn = some (.int .i64)) (hi : Tryz.prog.info? e = some i) (hz : i.zero = some z) (hs : i.size = 2) (hzs : z.cells.size = 2) (hby : i.bytes = 16)
    (a : Addr) (n c m : Nat) (xs : List Value) (hx : xs.length = n * 2) (hr : ∀ j v, xs[j]? = some v → w.cell? (a.add j) = some v) (hg : c < n + m) (hm : 0 < m) (hbig : n + m ≤ 1000000) (hB : B ≤ w.heap.size) :
    ∃ C cur w', (Builtin.append_ #[t, tn] ty #[.slice (some a) n c, .int .i64 (m : Int)]).run Tryz.prog w = .ok (.slice (some ⟨w.heap.size, 0, none⟩) (n + m) C) w' ∧ Bk w' B e w.heap.size C cur ∧ cur.take (n * 2) = xs ∧ n + m ≤ C ∧ Below w.heap.size w w' := by
  have hw : IntKind.i64.wrap (m : Int) = m := by rw [IntKind.wrap_i64]; omega
  have hneg : ¬ ((m : Int) < 0) := by omega
  have h48i : ¬ (281474976710656 < (m : Int) * 16) := by omega
  have hroom : ¬ (n + m ≤ c) := by omega
  have h63' : ¬ (9223372036854775807 < ((n : Int) + (m : Int))) := by omega
  have hfit : ¬ (281474976710656 < Builtin.nextslicecap (n + m) c * 16) := by
    have := @growslice_fits (n + m) c 16 (by omega) (by omega)
    omega
  have hm2 : ¬ (m * 2 = 0) := by omega
  have hfo := run_firstCells_some (P := Tryz.prog) w.drew 2 n a n c xs hx (by simpa using hr)
  have hge := grownCap_ge w (n + m) c e
  have hcm : grownCap w (n + m) c e ≤ maxLen := grownCap_le_maxLen w (n + m) c e (by simp only [maxLen]; omega)
  refine ⟨grownCap w (n + m) c e, (xs.toArray ++ Builtin.zeroCells z.cells m ++ Builtin.zeroCells z.cells (grownCap w (n + m) c e - (n + m))).toList, w.drew.alloc (.cells (xs.toArray ++ Builtin.zeroCells z.cells m ++ Builtin.zeroCells z.cells (grownCap w (n + m) c e - (n + m))) e), ?_, ⟨hB, ?_, hcm, ?_⟩, ?_, hge, ?_⟩
  · simp [Builtin.append_, run_underlying ht, run_underlying htn, sizeOf, typeInfo, zeroValue, hi, hz, hs, hby, asInt, asIntOf, hw, hneg, h48i, hm2, hroom, h63', hfit, Question.forced, hfo, newRow, grownCap]
  · exact heap_alloc_new w.drew _
  · simp only [Array.length_toList, Array.size_append, List.size_toArray, size_zeroCells, hx, hzs]
    omega
  · simp only [Array.toList_append, List.append_assoc]
    rw [← hx]
    exact List.take_left
  · exact ((Below.refl w.heap.size w).drew).alloc (by simp) _
theorem ov_none (w : World) (a b : Addr) (la ca lb cb : Nat) (hne : a.block ≠ b.block) (tA tB : TypeId) (kA kB : Nat) (hsa : w.shape? a.block = some (tA, kA)) (hsb : w.shape? b.block = some (tB, kB)) (hkB : kB ≠ 0) (hfa : w.frozen? a = false) (hfe : w.frozen? { block := a.block, off := kA } = false) :
    (callFunc 91 #[.slice (some a) la ca, .slice (some b) lb cb]).run Tryz.prog w = .ok (.value (.bool false)) w := by
  rw [run_callFunc_extern (fn := Tryz.f91) Tryz.func91 (by kernel_rfl) (by kernel_rfl) (by kernel_rfl) (e := Extern.SlicesOverlaps.overlaps #[43, 43] #[4]) (by kernel_rfl),
    Lib.run_overlaps_apart w 43 4 54 Tryz.underlying43 2 (fun w => by kernel_rfl) a b la ca lb cb hne tA tB kA kB hsa hsb hkB hfa hfe]
  rfl
theorem At.shape {w : World} {g : Nat} {t : TypeId} {cs : Array Value} (h : At w g t cs) : w.shape? g = some (t, cs.size) := by
  unfold World.shape?
  rw [show w.heap[g]? = some (.cells cs t (0, 0)) from h]
end Go.Proofs.YthbifccankfngaaGreatDoor

/-
  The walks of slices.Insert (one struct) and of insert.
  Conditions: at most 100000 claims.
-/

namespace Go.Proofs.YthbifccankfngaaGreatDoor
open Go.RowKit Go.Shelf
attribute [local go_sem] Oper.semAt_some
set_option maxRecDepth 20000

/-- One claim more in a row of the call's own. -/
def InsR (B : Nat) (v : Value) (l : List Cm) (w : World) (e : Ending) (w' : World) : Prop :=
  ∃ v', e = .returned v' ∧ w'.ownsRow B 54 2 v' l.length (cmL l) ∧ (∀ k, v'.ownBlock = some k → v.ownBlock = some k ∨ w.heap.size ≤ k) ∧ w.grownBy w' v.ownBlock
theorem grown_drew (w : World) (n : Nat) (row : Option Nat) : w.grownBy (w.drewN n) row := ⟨rfl, rfl, rfl, Nat.le_refl _, fun _ _ _ => rfl⟩
theorem grown_drew1 (w : World) (row : Option Nat) : w.grownBy w.drew row := ⟨rfl, rfl, rfl, Nat.le_refl _, fun _ _ _ => rfl⟩
set_option maxHeartbeats 3200000 in
/-- At the end. -/
theorem insert_end (B : Nat) (v : Value) (l : List Cm) (w : World) (hown : w.ownsRow B 54 2 v l.length (cmL l)) (hn : l.length ≤ 100000) (hB : B ≤ w.heap.size) (vb : Nat) (x : Cm) (hx : At w vb 54 (cmA x)) :
    Calls Tryz.prog 71 #[v, .int .i64 (l.length : Int), .slice (some ⟨vb, 0, none⟩) 1 1] w (InsR B v (l ++ [x]) w) := by
  obtain ⟨A, c, hv, hc, _⟩ := pl_own_slice hown
  have hlies : Lies w w.heap.size 2 (some ⟨vb, 0, none⟩) 1 (cmV x) := ⟨rfl, fun _ => ⟨_, rfl, hx.lt, fun j u hu => by
    rw [add_plain, Nat.zero_add, hx.cell]
    simpa [cmA, cmV] using hu⟩⟩
  have h1 : ∀ u ∈ cmV x, u.oneCell' = true := fun u hu => by
    simp [cmV] at hu
    rcases hu with rfl | rfl <;> rfl
  obtain ⟨v', w', hrun, ho, hg, hbk⟩ := run_append_lies2 (P := Tryz.prog) w B 77 77 54 _ (.agg zC) 2 16 Tryz.underlying77 rfl rfl rfl rfl rfl (by omega) v l.length (cmL l) hown w.heap.size (some ⟨vb, 0, none⟩) 1 1 (cmV x) hlies h1 (by omega) (by simp only [maxLen]; omega) (by omega) hB
  have hrun2 : ∀ ty, (Builtin.append_ #[77, 43] ty #[v, .slice (some ⟨vb, 0, none⟩) 1 1]).run Tryz.prog w = .ok v' w' := fun ty => by
    rw [hv, append_two w 77 43 ty 54 54 Tryz.underlying77 Tryz.underlying43, ← hv]
    exact hrun
  have HR : Hid (InsR B v (l ++ [x]) w (.returned v') w') := by
    refine ⟨v', rfl, ?_, ?_, hg⟩
    · rw [List.length_append, cmL_append]
      exact ho
    · intro k hk
      rcases hbk with h | h
      · exact .inl (by rw [← h]; exact hk)
      · rw [h] at hk
        injection hk with hk
        exact .inr (by omega)
  obtain ⟨n, hln⟩ : ∃ n, l.length = n := ⟨_, rfl⟩
  rw [hln] at hv hc hn ⊢
  clear hown hlies h1 hrun ho hg hbk hx hB hln
  subst hv
  have rt := fun W => run_tail2 (P := Tryz.prog) 77 54 Tryz.underlying77 c_size A n c n (by omega) W
  obtain ⟨tl, htl⟩ : ∃ tl, (if c = n then A else A.map (·.add (n * 2))) = tl := ⟨_, rfl⟩
  rw [htl] at rt
  clear htl
  go_enter Tryz.func71, Tryz.ntmps71
  go_wp2_with (at_builtin; refine Lib.wpList_append_run w rfl (.tmp 23) (.tmp 24) 77 43 rfl _ _ rfl rfl v' w' (hrun2 _) ?_)
  go_ret
  exact HR.out
theorem cm_one1 (x : Cm) : ∀ u ∈ cmV x, u.oneCell' = true := fun u hu => by
  simp [cmV] at hu
  rcases hu with rfl | rfl <;> rfl
theorem cm_take (l : List Cm) (i : Nat) : (cmL l).take (i * 2) = cmL (l.take i) := by
  by_cases h : i ≤ l.length
  · conv => lhs; rw [← List.take_append_drop i l, cmL_append]
    rw [List.take_append_of_le_length (by rw [cmL_length, List.length_take]; omega), List.take_of_length_le (by rw [cmL_length, List.length_take]; omega)]
  · rw [List.take_of_length_le (by rw [cmL_length]; omega), List.take_of_length_le (by omega)]
theorem cm_split (l : List Cm) (i : Nat) : cmL l = cmL (l.take i) ++ cmL (l.drop i) := by rw [← cmL_append, List.take_append_drop]
theorem ins_eq (x : Cm) : ∀ (l : List Cm) (i : Nat), i ≤ l.length → l.insertIdx i x = l.take i ++ x :: l.drop i
  | l, 0, _ => by simp
  | [], i + 1, h => by simp at h
  | a :: l, i + 1, h => by rw [List.insertIdx_succ_cons, ins_eq x l i (by simpa using h)]; simp
theorem ins_list {l : List Cm} {i : Nat} (hi : i ≤ l.length) (x : Cm) : cmL (l.insertIdx i x) = cmL (l.take i) ++ (cmV x ++ cmL (l.drop i)) := by
  rw [ins_eq x l i hi, cmL_append, cmL_cons]
theorem cells_from {w : World} {g : Nat} {l : List Cm} {i : Nat} (h : w.rangeAt g 0 (cmL l)) (hi : i ≤ l.length) : ∀ j v, (cmL (l.drop i))[j]? = some v → w.cell? ((⟨g, i * 2, none⟩ : Addr).add j) = some v := fun j v hv => by
  rw [add_plain, ← Nat.zero_add (i * 2 + j)]
  refine h (i * 2 + j) v ?_
  rw [cm_split l i, List.getElem?_append_right (by rw [cmL_length, List.length_take]; omega), cmL_length, List.length_take, Nat.min_eq_left hi, Nat.add_sub_cancel_left]
  exact hv
set_option maxHeartbeats 3200000 in
/-- Within, no room: a new row. -/
theorem insert_grow (B g c : Nat) (cur : List Value) (l : List Cm) (w : World) (hb : Bk w B 54 g c cur) (hcur : cur.take (l.length * 2) = cmL l) (hc : l.length ≤ c) (hroom : c < l.length + 1) (hn : l.length ≤ 100000) (hB : B ≤ w.heap.size) (i : Nat) (hi : i < l.length) (vb : Nat) (x : Cm) (hx : At w vb 54 (cmA x)) :
    Calls Tryz.prog 71 #[.slice (some ⟨g, 0, none⟩) l.length c, .int .i64 (i : Int), .slice (some ⟨vb, 0, none⟩) 1 1] w (InsR B (.slice (some ⟨g, 0, none⟩) l.length c) (l.insertIdx i x) w) := by
  obtain ⟨n, hln⟩ : ∃ n, l.length = n := ⟨_, rfl⟩
  obtain ⟨p, hp⟩ : ∃ p, n + 1 = p := ⟨_, rfl⟩
  obtain ⟨q, hq⟩ : ∃ q, p - i = q := ⟨_, rfl⟩
  obtain ⟨h, hh⟩ : ∃ h, w.heap.size = h := ⟨_, rfl⟩
  obtain ⟨j, hj⟩ : ∃ j, i + 1 = j := ⟨_, rfl⟩
  have hrg := hb.range hcur
  have hgl := hb.cells.lt
  obtain ⟨C, cur1, w1, hap, hbk, htk, hpc, hbel⟩ := run_appz2 w B 77 3 77 54 _ (.agg zC) Tryz.underlying77 Tryz.underlying3 rfl rfl rfl rfl rfl ⟨g, 0, none⟩ i c q (cmL (l.take i)) (by rw [cmL_length, List.length_take]; omega)
    (fun j v hv => by
      rw [add_plain]
      refine hrg j v ?_
      rw [← cm_take, List.getElem?_take] at hv
      split at hv
      · exact hv
      · cases hv) (by omega) (by omega) (by omega) hB
  have hap2 : ∀ ty, (Builtin.append_ #[77, 3] ty #[.slice (some ⟨g, 0, none⟩) i c, .int .i64 (q : Int)]).run Tryz.prog w = .ok (.slice (some ⟨h, 0, none⟩) p C) w1 := fun ty => by
    rw [← show i + q = p by omega, ← hh]
    exact hap
  rw [hh] at hbk
  rw [show i + q = p by omega] at hpc
  have hgh : g < h := by omega
  have hx1 := hx.under hbel hx.lt
  have hvh : vb < h := by have := hx.lt; omega
  have hcp1 : ∀ ty, (Builtin.copy_ #[77, 43] ty #[.slice (some ⟨h, i * 2, none⟩) (p - i) (C - i), .slice (some ⟨vb, 0, none⟩) 1 1]).run Tryz.prog w1 = .ok (goInt 1) (w1.setCells h (i * 2) (cmV x)) := fun ty =>
    run_copy2 w1 77 43 ty 54 h (i * 2) (p - i) (C - i) 1 1 1 ⟨vb, 0, none⟩ (cmV x) Tryz.underlying77 c_size (by show min _ _ = _; rw [Nat.min_eq_left (by omega)]) rfl (fun j v hv => by
      rw [add_plain, Nat.zero_add, hx1.cell]
      simpa [cmA, cmV] using hv) (hbk.there _ _ (by rw [hbk.len]; simp [cmV]; omega)) (cm_one1 x)
  have hbk2 := hbk.set (i * 2) (cmV x) (by rw [hbk.len]; simp [cmV]; omega)
  obtain ⟨w2, hw2⟩ : ∃ w2, w1.setCells h (i * 2) (cmV x) = w2 := ⟨_, rfl⟩
  rw [hw2] at hcp1 hbk2
  have hg2 : w1.grownBy w2 (some h) := by rw [← hw2]; exact setCells_grown _ _ _ _
  have hrg2 : w2.drew.rangeAt g 0 (cmL l) := by
    have h1 : Below h w w2 := hh ▸ (hbel.trans (hh.symm ▸ ⟨hg2.os, hg2.tape, hg2.output, hg2.size, fun k hk => hg2.block k (by have := hbk.cells.lt; omega) (by simp; omega)⟩))
    exact fun j v hv => (h1.cell (p := ⟨g, 0 + j, none⟩) hgh).trans (hrg j v hv)
  have hdl : (cmL (l.drop i)).length = (n - i) * 2 := by rw [cmL_length, List.length_drop, hln]
  have hcp2 : ∀ ty, (Builtin.copy_ #[77, 77] ty #[.slice (some ⟨h, j * 2, none⟩) (p - j) (C - j), .slice (some ⟨g, i * 2, none⟩) (n - i) (c - i)]).run Tryz.prog w2.drew = .ok (goInt (n - i : Nat)) (w2.drew.setCells h (j * 2) (cmL (l.drop i))) := fun ty =>
    run_copy2 w2.drew 77 77 ty 54 h (j * 2) (p - j) (C - j) (n - i) (c - i) (n - i) ⟨g, i * 2, none⟩ (cmL (l.drop i)) Tryz.underlying77 c_size (by show min _ _ = _; rw [Nat.min_eq_left (by omega)]) hdl
      (cells_from hrg2 (by omega)) ((hbk2.kept (grown_drew1 w2 none) (by simp)).there _ _ (by rw [hbk2.len, hdl]; omega)) (cmL_one _)
  have HR : Hid (InsR B (.slice (some ⟨g, 0, none⟩) l.length c) (l.insertIdx i x) w (.returned (.slice (some ⟨h, 0, none⟩) p C)) (w2.drew.setCells h (j * 2) (cmL (l.drop i)))) := by
    refine ⟨_, rfl, ?_, ?_, ?_⟩
    · have hb3 := (hbk2.kept (grown_drew1 w2 none) (by simp)).set (j * 2) (cmL (l.drop i)) (by rw [hbk2.len, hdl]; omega)
      have hll : (l.insertIdx i x).length = p := by rw [List.length_insertIdx, if_pos (by omega)]; omega
      rw [hll]
      refine hb3.own hpc ?_
      rw [ins_list (by omega) x]
      have ha : (cmL (l.take i)).length = i * 2 := by rw [cmL_length, List.length_take]; omega
      exact splice_in2 (n := i * 2) htk (by rw [ha]) (by rw [ha]; simp [cmV]; omega) (by rw [ha, hdl]; simp [cmV]; omega) (by rw [hbk.len]; omega)
    · intro k hk
      simp [Value.ownBlock] at hk
      exact .inr (by omega)
    · have h1 : w.grownBy w1 (some g) := grown_low _ hbel
      have h2 : Below w.heap.size w (w2.drew.setCells h (j * 2) (cmL (l.drop i))) := by
        have g3 := grown_trans (grown_trans hg2 (grown_drew1 w2 _)) (setCells_grown w2.drew h (j * 2) (cmL (l.drop i)))
        exact hbel.trans ⟨g3.os, g3.tape, g3.output, g3.size, fun k hk => g3.block k (by have := hbel.size; omega) (by simp; omega)⟩
      exact grown_low _ h2
  have e1 : (n : Int) + 1 = (p : Int) := by omega
  have e2 : IntKind.i64.wrap (p : Int) = (p : Int) := by rw [IntKind.wrap_i64]; omega
  have e3 : (p : Int) - (i : Int) = (q : Int) := by omega
  have e4 : IntKind.i64.wrap (q : Int) = (q : Int) := by rw [IntKind.wrap_i64]; omega
  have e5 : (i : Int) + 1 = (j : Int) := by omega
  have e6 : IntKind.i64.wrap (j : Int) = (j : Int) := by rw [IntKind.wrap_i64]; omega
  have e7 : ((i : Int) == (n : Int)) = false := by simp; omega
  have e8 : decide ((p : Int) > (c : Int)) = true := by simp; omega
  have e9 : (c : Int) < (p : Int) := by omega
  have rh := fun W => run_head2 (P := Tryz.prog) 77 54 Tryz.underlying77 c_size (some ⟨g, 0, none⟩) n c i (by omega) W
  have rt1 := fun W => run_tail2 (P := Tryz.prog) 77 54 Tryz.underlying77 c_size (some ⟨g, 0, none⟩) n c i (by omega) W
  have rt2 := fun W => run_tail2 (P := Tryz.prog) 77 54 Tryz.underlying77 c_size (some ⟨h, 0, none⟩) p C i (by omega) W
  have rt3 := fun W => run_tail2 (P := Tryz.prog) 77 54 Tryz.underlying77 c_size (some ⟨h, 0, none⟩) p C j (by omega) W
  rw [if_neg (by omega)] at rt1 rt2 rt3
  simp only [Option.map_some, add_plain, Nat.zero_add] at rt1 rt2 rt3
  rw [hln] at HR ⊢
  clear hb hcur hc hroom hn hB hi hx hln hp hq hj hrg hgl hap hbk htk hpc hbel hgh hx1 hvh hbk2 hw2 hg2 hrg2 hdl hh
  go_enter Tryz.func71, Tryz.ntmps71
  go_wp2_with (at_builtin; refine Lib.wpList_append_run w rfl (.tmp 34) (.tmp 39) 77 3 rfl _ _ rfl rfl _ _ (hap2 _) ?_)
  go_upto_region 11 with fail
  refine wp_region_held_drew (S := fun _ => True) (by kernel_rfl) trivial (fun hS => ?_)
  refine tk 0 hS ?_
  refine tk 1 hS ?_
  refine tk 2 hS ?_
  refine tk 3 hS ?_
  refine tk 4 hS ?_
  refine tk 5 hS ?_
  refine tk 6 hS ?_
  refine tk 7 hS ?_
  refine wpAnyH_ready (rs := [8]) (by kernel_rfl) (by simp) ?_
  refine AllReadyH.cons rfl (fun K hK => ?_) AllReadyH.nil
  go_simp
  have hb : True := trivial
  refine hK.out _ _ (trivial) (fun hT => ?_)
  clear hK hb hS
  have hS := hT
  clear hT
  refine wpAnyH_done (by kernel_rfl) ?_ _
  go_wp2_with fail
  go_ret
  exact HR.out
set_option maxHeartbeats 3200000 in
/-- Within, where there is room: in place. -/
theorem insert_shift (B g c : Nat) (cur : List Value) (l : List Cm) (w : World) (hb : Bk w B 54 g c cur) (hcur : cur.take (l.length * 2) = cmL l) (hroom : l.length + 1 ≤ c) (hn : l.length ≤ 100000) (i : Nat) (hi : i < l.length) (vb : Nat) (x : Cm) (hx : At w vb 54 (cmA x)) (hvg : vb ≠ g) :
    Calls Tryz.prog 71 #[.slice (some ⟨g, 0, none⟩) l.length c, .int .i64 (i : Int), .slice (some ⟨vb, 0, none⟩) 1 1] w (InsR B (.slice (some ⟨g, 0, none⟩) l.length c) (l.insertIdx i x) w) := by
  obtain ⟨n, hln⟩ : ∃ n, l.length = n := ⟨_, rfl⟩
  obtain ⟨p, hp⟩ : ∃ p, n + 1 = p := ⟨_, rfl⟩
  obtain ⟨j, hj⟩ : ∃ j, i + 1 = j := ⟨_, rfl⟩
  have hrg := hb.range hcur
  have hcl := hb.len
  have hdl : (cmL (l.drop i)).length = (n - i) * 2 := by rw [cmL_length, List.length_drop, hln]
  have hrgd : w.drew.rangeAt g 0 (cmL l) := fun j v hv => hrg j v hv
  have hbd := hb.kept (grown_drew1 w none) (by simp)
  have hcp1 : ∀ ty, (Builtin.copy_ #[77, 77] ty #[.slice (some ⟨g, j * 2, none⟩) (p - j) (c - j), .slice (some ⟨g, i * 2, none⟩) (p - i) (c - i)]).run Tryz.prog w.drew = .ok (goInt (n - i : Nat)) (w.drew.setCells g (j * 2) (cmL (l.drop i))) := fun ty =>
    run_copy2 w.drew 77 77 ty 54 g (j * 2) (p - j) (c - j) (p - i) (c - i) (n - i) ⟨g, i * 2, none⟩ (cmL (l.drop i)) Tryz.underlying77 c_size (by show min _ _ = _; rw [Nat.min_eq_right (by omega)]; omega) hdl
      (cells_from hrgd (by omega)) (hbd.there _ _ (by rw [hcl, hdl]; omega)) (cmL_one _)
  have hb1 := hbd.set (j * 2) (cmL (l.drop i)) (by rw [hcl, hdl]; omega)
  obtain ⟨w1, hw1⟩ : ∃ w1, w.drew.setCells g (j * 2) (cmL (l.drop i)) = w1 := ⟨_, rfl⟩
  rw [hw1] at hcp1 hb1
  have hg1 : w.drew.grownBy w1 (some g) := by rw [← hw1]; exact setCells_grown _ _ _ _
  have hx1 : At w1 vb 54 (cmA x) := (hx.grown (grown_drew1 w none) (by simp)).grown hg1 (fun e => hvg (Option.some.inj e))
  have hcp2 : ∀ ty, (Builtin.copy_ #[77, 43] ty #[.slice (some ⟨g, i * 2, none⟩) (p - i) (c - i), .slice (some ⟨vb, 0, none⟩) 1 1]).run Tryz.prog w1 = .ok (goInt 1) (w1.setCells g (i * 2) (cmV x)) := fun ty =>
    run_copy2 w1 77 43 ty 54 g (i * 2) (p - i) (c - i) 1 1 1 ⟨vb, 0, none⟩ (cmV x) Tryz.underlying77 c_size (by show min _ _ = _; rw [Nat.min_eq_left (by omega)]) rfl (fun j v hv => by
      rw [add_plain, Nat.zero_add, hx1.cell]
      simpa [cmA, cmV] using hv) (hb1.there _ _ (by rw [hb1.len]; simp [cmV]; omega)) (cm_one1 x)
  have HR : Hid (InsR B (.slice (some ⟨g, 0, none⟩) l.length c) (l.insertIdx i x) w (.returned (.slice (some ⟨g, 0, none⟩) p c)) (w1.setCells g (i * 2) (cmV x))) := by
    refine ⟨_, rfl, ?_, ?_, ?_⟩
    · have hb3 := hb1.set (i * 2) (cmV x) (by rw [hb1.len]; simp [cmV]; omega)
      have hll : (l.insertIdx i x).length = p := by rw [List.length_insertIdx, if_pos (by omega)]; omega
      rw [hll]
      refine hb3.own (by omega) ?_
      rw [ins_list (by omega) x]
      have ha : (cmL (l.take i)).length = i * 2 := by rw [cmL_length, List.length_take]; omega
      exact splice_in1 (n := l.length * 2) (by rw [hcur, cm_split l i]) (by rw [ha]) (by rw [ha]; simp [cmV]; omega) (by rw [ha, hdl]; simp [cmV]; omega) (by rw [hcl]; omega)
    · intro k hk
      exact .inl hk
    · exact grown_trans (grown_trans (grown_drew1 w _) hg1) (setCells_grown _ _ _ _)
  have hov : ∀ lb cb, (callFunc 91 #[.slice (some ⟨vb, 0, none⟩) 1 1, .slice (some ⟨g, j * 2, none⟩) lb cb]).run Tryz.prog w = .ok (.value (.bool false)) w := fun lb cb =>
    ov_none w ⟨vb, 0, none⟩ ⟨g, j * 2, none⟩ 1 1 lb cb hvg 54 54 2 cur.toArray.size hx.shape hb.cells.shape (by rw [List.size_toArray, hcl]; omega) (hx.frozen 0) (hx.frozen 2)
  have e1 : (n : Int) + 1 = (p : Int) := by omega
  have e2 : IntKind.i64.wrap (p : Int) = (p : Int) := by rw [IntKind.wrap_i64]; omega
  have e5 : (i : Int) + 1 = (j : Int) := by omega
  have e6 : IntKind.i64.wrap (j : Int) = (j : Int) := by rw [IntKind.wrap_i64]; omega
  have e7 : ((i : Int) == (n : Int)) = false := by simp; omega
  have e8 : decide ((p : Int) > (c : Int)) = false := by simp; omega
  have e9 : ¬ (c : Int) < (p : Int) := by omega
  have rh := fun W => run_head2 (P := Tryz.prog) 77 54 Tryz.underlying77 c_size (some ⟨g, 0, none⟩) n c p (by omega) W
  have rt1 := fun W => run_tail2 (P := Tryz.prog) 77 54 Tryz.underlying77 c_size (some ⟨g, 0, none⟩) n c i (by omega) W
  have rt2 := fun W => run_tail2 (P := Tryz.prog) 77 54 Tryz.underlying77 c_size (some ⟨g, 0, none⟩) p c i (by omega) W
  have rt3 := fun W => run_tail2 (P := Tryz.prog) 77 54 Tryz.underlying77 c_size (some ⟨g, 0, none⟩) p c j (by omega) W
  rw [if_neg (by omega)] at rt1 rt2 rt3
  simp only [Option.map_some, add_plain, Nat.zero_add] at rt1 rt2 rt3
  rw [hln] at HR ⊢
  clear hb hcur hroom hn hi hx hln hp hj hrg hcl hrgd hbd hb1 hw1 hg1 hx1 hdl hvg
  go_enter Tryz.func71, Tryz.ntmps71
  go_upto_region 15 with (simp only [hov])
  refine wp_region_held_drew (S := fun _ => True) (by kernel_rfl) trivial (fun hS => ?_)
  refine tk 0 hS ?_
  refine tk 1 hS ?_
  refine tk 2 hS ?_
  refine tk 3 hS ?_
  refine tk 4 hS ?_
  refine tk 5 hS ?_
  refine tk 6 hS ?_
  refine tk 7 hS ?_
  refine wpAnyH_ready (rs := [8]) (by kernel_rfl) (by simp) ?_
  refine AllReadyH.cons rfl (fun K hK => ?_) AllReadyH.nil
  go_simp
  have hb : True := trivial
  refine hK.out _ _ (trivial) (fun hT => ?_)
  clear hK hb hS
  have hS := hT
  clear hT
  refine wpAnyH_done (by kernel_rfl) ?_ _
  go_wp2_with fail
  go_ret
  exact HR.out
/-- One claim put in at a place. -/
theorem insert0_any (B : Nat) (v : Value) (l : List Cm) (w : World) (hown : w.ownsRow B 54 2 v l.length (cmL l)) (hn : l.length ≤ 100000) (hB : B ≤ w.heap.size) (i : Nat) (hi : i ≤ l.length) (vb : Nat) (x : Cm) (hx : At w vb 54 (cmA x)) (hvg : v.ownBlock ≠ some vb) :
    Calls Tryz.prog 71 #[v, .int .i64 (i : Int), .slice (some ⟨vb, 0, none⟩) 1 1] w (InsR B v (l.insertIdx i x) w) := by
  by_cases he : i = l.length
  · subst he
    rw [ins_eq x l _ (Nat.le_refl _), List.take_length, List.drop_length]
    exact insert_end B v l w hown hn hB vb x hx
  · obtain ⟨g, cap, cur, rfl, hbk, hcap, hcur⟩ := own_bk hown (by omega)
    by_cases hr : l.length + 1 ≤ cap
    · exact insert_shift B g cap cur l w hbk hcur hr hn i (by omega) vb x hx (fun e => hvg (by rw [e]; rfl))
    · exact insert_grow B g cap cur l w hbk hcur hcap (by omega) hn hB i (by omega) vb x hx
end Go.Proofs.YthbifccankfngaaGreatDoor

/-
  A law of no program: the literal of a slice with one element of several cells.
  Conditions: none beyond those that each theorem names.
-/

namespace Go.Proofs.YthbifccankfngaaGreatDoor
open Go.RowKit

theorem put_all (z : Nat) : ∀ (l : List Value) (k : Nat) (Z : Array Value) (i : Nat), k + l.length ≤ Z.size →
    ((l.zipIdx k).foldl (fun cs (p : Value × Nat) => cs.setIfInBounds (0 * z + p.2) p.1) Z)[i]? = if k ≤ i ∧ i < k + l.length then l[i - k]? else Z[i]?
  | [], k, Z, i, _ => by simp; omega
  | v :: r, k, Z, i, h => by
    rw [List.zipIdx_cons, List.foldl_cons, put_all z r (k + 1) _ i (by simp at h ⊢; omega)]
    simp only [List.length_cons] at h ⊢
    by_cases h1 : k + 1 ≤ i ∧ i < k + 1 + r.length
    · rw [if_pos h1, if_pos (by omega), show i - k = (i - (k + 1)) + 1 from by omega, List.getElem?_cons_succ]
    · rw [if_neg h1, Array.getElem?_setIfInBounds]
      by_cases h2 : k = i
      · subst h2
        rw [if_pos (by omega), if_pos (by omega), if_pos (by omega)]
        simp
      · rw [if_neg (by omega), if_neg (by omega)]

theorem fill_one (size : Nat) (c Z : Array Value) (hc : c.size = size) (hZ : Z.size = size) : Instr.fill (fun i => some (i * size, size)) Z [(0, .agg c)] = some c := by
  have hcs : (Value.agg c).cells = c := rfl
  simp only [Instr.fill, hcs]
  rw [if_neg (by simp [hc, hZ])]
  congr 1
  apply Array.ext_getElem?
  intro i
  have := put_all size c.toList 0 Z i (by simp [hc, hZ])
  rw [← Array.foldl_toList, Array.toList_zipIdx]
  rw [this]
  simp only [Array.length_toList, hc, Nat.zero_add, Nat.sub_zero, Nat.zero_le, true_and]
  by_cases h : i < size
  · rw [if_pos h]; simp
  · rw [if_neg h, Array.getElem?_eq_none (by omega), Array.getElem?_eq_none (by omega)]

variable {P : Program}
theorem run_buildSlice_one (w : World) (t e : TypeId) (size : Nat) (z : Value) (c : Array Value) (ht : P.underlying t = some (.slice e)) (hi : (P.info? e).map (fun i => (i.zero, i.size)) = some (some z, size)) (h0 : 0 < size) (hs : size ≤ 100000) (hc : c.size = size) :
    (Instr.buildSlice t 1 #[(0, .agg c)]).run P w = .ok (.slice (some ⟨w.heap.size, 0, none⟩) 1 1) (w.alloc (.cells c e)) := by
  have hz := (zero_of_info (P := P) hi).1
  have hq : ∃ i, P.info? e = some i ∧ i.size = size := by
    cases hq : P.info? e with
    | none => simp [hq] at hi
    | some i => exact ⟨i, rfl, by simp [hq] at hi; exact hi.2⟩
  obtain ⟨i, hq, hsz⟩ := hq
  have hn : ¬ (1 * size > 2 ^ 24) := by omega
  have hn0 : ¬ (1 * size = 0) := by omega
  have hf := fill_one size c ((Array.range (1 * size)).map (z.cells[· % z.cells.size]!)) hc (by simp)
  simp only [Instr.buildSlice, Sem.run_bind, run_underlying ht, Result.andThen_ok, sizeOf, typeInfo, run_program, hq, hsz, Sem.run_pure, hn, if_false, hn0, hz, hf]
  rfl

theorem wpList_lit1 {ops : Array Oper} {rest : List Oper} {o : Oper} {a : Act} {w : World} {Q : Exit → Act → World → Prop} (hgd : o.guard = none) (x : Operand) (t e : TypeId) (size : Nat) (z : Value) (c : Array Value)
    (ho : o.op = .buildSlice t 1 #[(0, x)]) (hx : a.eval x = .agg c) (ht : P.underlying t = some (.slice e)) (hi : (P.info? e).map (fun i => (i.zero, i.size)) = some (some z, size)) (h0 : 0 < size) (hs : size ≤ 100000) (hc : c.size = size)
    (h : wpList P ops Q rest (a.put o.dst (.slice (some ⟨w.heap.size, 0, none⟩) 1 1)) (w.alloc (.cells c e))) : wpList P ops Q (o :: rest) a w := by
  refine wpList_plain hgd fun K hK => ?_
  have hrun := run_buildSlice_one (P := P) w t e size z c ht hi h0 hs hc
  unfold Oper.wp
  simp [execOp, ho, hx, hrun, Result.andThen]
  exact hK _ _ h
end Go.Proofs.YthbifccankfngaaGreatDoor

/-
  The walk of insert: a claim put into a queue in its cell.
  Conditions: at most 100000 claims.
-/

namespace Go.Proofs.YthbifccankfngaaGreatDoor
open Go.RowKit Go.Shelf
attribute [local go_sem] Oper.semAt_some
set_option maxRecDepth 20000

theorem wp_lit1 {o : Oper} {a : Act} {w : World} {K : Act → World → Prop} {Q : Exit → Act → World → Prop} (d : Nat) (x : Operand) (t e : TypeId) (size : Nat) (z : Value) (c : Array Value) (hop : o.dst = some d)
    (ho : o.op = .buildSlice t 1 #[(0, x)]) (hx : a.eval x = .agg c) (ht : Tryz.prog.underlying t = some (.slice e)) (hi : (Tryz.prog.info? e).map (fun i => (i.zero, i.size)) = some (some z, size)) (h0 : 0 < size) (hs : size ≤ 100000) (hc : c.size = size)
    (h : K (a.put (some d) (.slice (some ⟨w.heap.size, 0, none⟩) 1 1)) (w.alloc (.cells c e))) : o.wp Tryz.prog a w K Q := by
  have hrun := run_buildSlice_one (P := Tryz.prog) w t e size z c ht hi h0 hs hc
  unfold Oper.wp
  simp [execOp, ho, hx, hrun, Result.andThen]
  simp only [Oper.upon]
  rw [hop]
  exact h
theorem one_C : ∀ (x : Cm) (w : World), (Instr.buildSlice 43 1 #[(0, .agg (cmA x))]).run Tryz.prog w = .ok (.slice (some ⟨w.heap.size, 0, none⟩) 1 1) (w.alloc (.cells (cmA x) 54)) := fun x w =>
  run_buildSlice_one (P := Tryz.prog) w 43 54 2 (.agg zC) (cmA x) Tryz.underlying43 (by kernel_rfl) (by omega) (by omega) rfl
/-- What insert leaves: the slice in its cell, its row. -/
def InR (B bx j : Nat) (cs : Array Value) (v : Value) (l : List Cm) (w : World) (e : Ending) (w' : World) : Prop :=
  e = .returned (.tuple #[]) ∧ ∃ v', w'.ownsRow B 54 2 v' l.length (cmL l) ∧ (∀ k, v'.ownBlock = some k → v.ownBlock = some k ∨ w.heap.size ≤ k) ∧ At w' bx 79 (cs.setIfInBounds j v') ∧ Mod (fun k => k = bx ∨ v.ownBlock = some k) w w'
theorem own_kept {w w' : World} {B : Nat} {e : TypeId} {v : Value} {n : Nat} {xs : List Value} {row : Option Nat} (h : w.ownsRow B e 2 v n xs) (hg : w.grownBy w' row) (hr : ∀ k, v.ownBlock = some k → row ≠ some k) : w'.ownsRow B e 2 v n xs :=
  h.kept hg (by
    cases hv : v.ownBlock with
    | none => exact .inl rfl
    | some k => exact .inr (Ne.symm (hr k hv)))
theorem grown_setCell (w : World) (b i : Nat) (u : Value) : w.grownBy (w.setCell ⟨b, i, none⟩ u) (some b) :=
  ⟨rfl, rfl, rfl, by simp [World.setCell], fun k _ hk => Below.heap_setCell _ _ _ _ (by simpa using fun e => hk (by rw [e]))⟩
set_option maxHeartbeats 3200000 in
theorem insert_any (B : Nat) (v : Value) (l : List Cm) (w : World) (hown : w.ownsRow B 54 2 v l.length (cmL l)) (hn : l.length ≤ 100000) (hB : B ≤ w.heap.size) (i : Nat) (hi : i ≤ l.length) (x : Cm) (bx k : Nat) (cs : Array Value) (hb : At w bx 79 cs) (hk : cs[k]? = some v) :
    Calls Tryz.prog 45 #[.pointer (some ⟨bx, k, none⟩), .int .i64 (i : Int), .agg (cmA x)] w (InR B bx k cs v (l.insertIdx i x) w) := by
  obtain ⟨A, cc, hv, _⟩ := pl_own_slice hown
  obtain ⟨ll, hll⟩ : ∃ ll, ll = l.insertIdx i x := ⟨_, rfl⟩
  rw [← hll]
  subst hv
  obtain ⟨b5, hb5⟩ : ∃ b5, w.heap.size = b5 := ⟨_, rfl⟩
  have A5 := Lib.hid (At.new w 54 (cmA x))
  have hlt := hb.lt
  have hol := hown.lt
  obtain ⟨z1, hz1⟩ : ∃ z1, w.alloc (.cells (cmA x) 54) = z1 := ⟨_, rfl⟩
  have g1 : w.grownBy z1 none := by rw [← hz1]; exact grown_low none ((Below.refl w.heap.size w).alloc (Nat.le_refl _) _)
  have hs1 : z1.heap.size = b5 + 1 := by rw [← hz1, ← hb5]; simp
  have g2 : z1.grownBy (z1.drew.alloc (.cells (cmA x) 54)) none := grown_low none (((Below.refl z1.heap.size z1).drew).alloc (Nat.le_refl _) _)
  have g12 := grown_trans g1 g2
  have hsW : (z1.drew.alloc (.cells (cmA x) 54)).heap.size = b5 + 2 := by simp [hs1]
  rw [hb5, hz1] at A5
  have hown2 := own_kept hown g12 (fun k _ e => by cases e)
  have HBX := Lib.hid (hb.grown g12 (by simp))
  have HS5 := Lib.hid (A5.out.grown g2 (by simp))
  have hne : some bx ≠ (Value.slice A l.length cc).ownBlock := own_ne hown hb (show (79 : Nat) ≠ 54 by decide)
  have HNE := Lib.hid hne
  have HN5 : Hid (some b5 ≠ (Value.slice A l.length cc).ownBlock) := fun e => by
    have := (hol b5 e.symm).2
    omega
  have HI := Lib.hid (insert0_any B (.slice A l.length cc) l (z1.drew.alloc (.cells (cmA x) 54)) hown2 hn (by rw [hsW]; omega) i hi z1.heap.size x (At.new z1.drew 54 (cmA x)) (fun e => by
    have := (hol _ e).2
    omega))
  rw [← hll] at HI
  have HC := Lib.hid hk
  have HB5 : Hid (b5 ≠ (⟨bx, k, none⟩ : Addr).block) := by show b5 ≠ bx; omega
  have HE : Hid (∀ (w2 : World) (A2 : Option Addr) (c2 : Nat), w2.ownsRow B 54 2 (.slice A2 ll.length c2) ll.length (cmL ll) → (∀ j, (Value.slice A2 ll.length c2).ownBlock = some j → (Value.slice A l.length cc).ownBlock = some j ∨ (z1.drew.alloc (.cells (cmA x) 54)).heap.size ≤ j) →
      (z1.drew.alloc (.cells (cmA x) 54)).grownBy w2 (Value.slice A l.length cc).ownBlock → At w2 bx 79 cs → InR B bx k cs (.slice A l.length cc) ll w (.returned (.tuple #[])) (w2.setCell ⟨bx, k, none⟩ (.slice A2 ll.length c2))) := fun w2 A2 c2 ho hv hg hx => by
    have hgs := grown_setCell w2 bx k (.slice A2 ll.length c2)
    refine ⟨rfl, _, own_kept ho hgs fun j hj e => ?_, fun j hj => ?_, hx.set k _, ?_⟩
    · injection e with e
      subst e
      exact own_ne ho hx (show (79 : Nat) ≠ 54 by decide) hj.symm
    · rcases hv j hj with h | h
      · exact .inl h
      · exact .inr (by rw [hsW] at h; omega)
    · have m1 : Mod (fun k => k = bx ∨ (Value.slice A l.length cc).ownBlock = some k) w (z1.drew.alloc (.cells (cmA x) 54)) := (Mod.refl _ w).grown g12 (fun k e => by cases e)
      exact (m1.grown hg fun k hk => .inl (.inr hk)).grown hgs fun k hk => .inl (.inl (by injection hk with hk; exact hk.symm))
  have hbs := one_C x
  have q1 : z1.cell? ⟨bx, k, none⟩ = some (.slice A l.length cc) := ((hb.grown g1 (by simp)).cell k).trans hk
  have q2 : (z1.alloc (.cells (cmA x) 54)).cell? ⟨bx, k, none⟩ = some (.slice A l.length cc) := (HBX.out.cell k).trans hk
  obtain ⟨n, hln⟩ : ∃ n, l.length = n := ⟨_, rfl⟩
  obtain ⟨m, hlm⟩ : ∃ m, ll.length = m := ⟨_, rfl⟩
  have HLM := Lib.hid hlm
  have hbz : w.heap.size = b5 := hb5
  clear hown hn hB hi hb hk hll hlt hol g1 hs1 g2 g12 hsW hown2 hne hln hlm hb5
  go_enter Tryz.func45, Tryz.ntmps45
  go_upto_region 1 with fail
  clear hz1 hbz
  refine wp_region_held_drew (S := fun wz => At wz b5 54 (cmA x)) (by kernel_rfl) (A5.out.grown (grown_drew1 z1 none) (by simp)) (fun hS => ?_)
  refine tk 0 hS ?_
  refine tk 1 hS ?_
  refine tk 2 hS ?_
  refine tk 4 hS ?_
  refine tk (v := .agg (cmA x)) 5 hS ?_ (hy := by intro wz hz; exact exec_load_at 54 (.tmp 5) rfl b5 rfl _ 2 strC rfl hz)
  refine wpAnyH_ready (rs := [3, 6]) (by kernel_rfl) (by simp) ?_
  refine AllReadyH.cons rfl (fun K hK => ?_) (AllReadyH.cons rfl (fun K hK => ?_) AllReadyH.nil)
  · go_simp
    refine hK.out _ _ (hS) (fun hT => ?_)
    clear hK hS
    have hS := hT
    clear hT
    refine wpAnyH_ready (rs := [6]) (by kernel_rfl) (by simp) ?_
    refine AllReadyH.cons rfl (fun K hK => ?_) AllReadyH.nil
    rw [if_pos (by rfl)]
    refine wp_lit1 12 (.tmp 11) 43 54 2 (.agg zC) (cmA x) rfl rfl rfl Tryz.underlying43 (by kernel_rfl) (by omega) (by omega) rfl ?_
    refine hK.out _ _ (HS5.out) (fun hT => ?_)
    clear hK hS
    have hS := hT
    clear hT
    refine wpAnyH_ready (rs := [7]) (by kernel_rfl) (by simp) ?_
    refine AllReadyH.cons rfl (fun K hK => ?_) AllReadyH.nil
    go_simp
    refine HI.out.mono ?_
    rintro e w2 ⟨v2, rfl, ho, hv, hg⟩
    obtain ⟨A2, c2, hv2, _⟩ := pl_own_slice ho
    subst hv2
    have hbx := HBX.out.grown hg HNE.out
    have h5 := HS5.out.grown hg HN5.out
    have HO := Lib.hid ho
    have HV := Lib.hid hv
    have HG := Lib.hid hg
    have HX2 := Lib.hid hbx
    have c1 : w2.cell? ⟨bx, k, none⟩ = some (.slice A l.length cc) := (hbx.cell k).trans HC.out
    have f1 : w2.frozen? ⟨bx, k, none⟩ = false := hbx.frozen k
    have hS2 := Lib.hid h5
    clear ho hv hg hbx h5
    refine hK.out _ _ (hS2.out) (fun hT => ?_)
    clear hK hS
    have hS := hT
    clear hT
    refine tk 8 hS ?_
    refine wpAnyH_ready (rs := [9]) (by kernel_rfl) (by simp) ?_
    refine AllReadyH.cons rfl (fun K hK => ?_) AllReadyH.nil
    go_simp
    refine hK.out _ _ (hS2.out.other (p := ⟨bx, k, none⟩) HB5.out _) (fun hT => ?_)
    clear hK hS
    have hS := hT
    clear hT
    refine wpAnyH_done (by kernel_rfl) ?_ _
    go_wp2_with fail
    go_end0
    exact HE.out w2 _ _ HO.out HV.out HG.out HX2.out
  · rw [if_pos (by rfl)]
    refine wp_lit1 12 (.tmp 11) 43 54 2 (.agg zC) (cmA x) rfl rfl rfl Tryz.underlying43 (by kernel_rfl) (by omega) (by omega) rfl ?_
    refine hK.out _ _ (HS5.out) (fun hT => ?_)
    clear hK hS
    have hS := hT
    clear hT
    refine wpAnyH_ready (rs := [3]) (by kernel_rfl) (by simp) ?_
    refine AllReadyH.cons rfl (fun K hK => ?_) AllReadyH.nil
    go_simp
    refine hK.out _ _ (hS) (fun hT => ?_)
    clear hK hS
    have hS := hT
    clear hT
    refine wpAnyH_ready (rs := [7]) (by kernel_rfl) (by simp) ?_
    refine AllReadyH.cons rfl (fun K hK => ?_) AllReadyH.nil
    go_simp
    refine HI.out.mono ?_
    rintro e w2 ⟨v2, rfl, ho, hv, hg⟩
    obtain ⟨A2, c2, hv2, _⟩ := pl_own_slice ho
    subst hv2
    have hbx := HBX.out.grown hg HNE.out
    have h5 := HS5.out.grown hg HN5.out
    have HO := Lib.hid ho
    have HV := Lib.hid hv
    have HG := Lib.hid hg
    have HX2 := Lib.hid hbx
    have c1 : w2.cell? ⟨bx, k, none⟩ = some (.slice A l.length cc) := (hbx.cell k).trans HC.out
    have f1 : w2.frozen? ⟨bx, k, none⟩ = false := hbx.frozen k
    have hS2 := Lib.hid h5
    clear ho hv hg hbx h5
    refine hK.out _ _ (hS2.out) (fun hT => ?_)
    clear hK hS
    have hS := hT
    clear hT
    refine tk 8 hS ?_
    refine wpAnyH_ready (rs := [9]) (by kernel_rfl) (by simp) ?_
    refine AllReadyH.cons rfl (fun K hK => ?_) AllReadyH.nil
    go_simp
    refine hK.out _ _ (hS2.out.other (p := ⟨bx, k, none⟩) HB5.out _) (fun hT => ?_)
    clear hK hS
    have hS := hT
    clear hT
    refine wpAnyH_done (by kernel_rfl) ?_ _
    go_wp2_with fail
    go_end0
    exact HE.out w2 _ _ HO.out HV.out HG.out HX2.out
end Go.Proofs.YthbifccankfngaaGreatDoor

/-
  What a change of one row, or of one entry of a map, leaves of the lock table in memory.
  Conditions: none beyond those that each theorem names.
-/

namespace Go.Proofs.YthbifccankfngaaGreatDoor
open Go.RowKit Go.Shelf
set_option maxRecDepth 20000

/-- A table at g, its blocks within X. -/
structure Tt (w : World) (g : Nat) (s : TS) (X : Nat → Prop) : Prop where
  ex : ∃ B b1 b2 b3 V, TbV w B g b1 b2 b3 s V ∧ B ≤ w.heap.size ∧ ∀ k, TbX g b1 b2 b3 V k → X k
  lt : ∀ k, X k → k < w.heap.size
/-- What a call on the table leaves: the table s, its blocks those that were within X, or new; nothing else is turned. -/
def Tw (w0 : World) (X : Nat → Prop) (g : Nat) (s : TS) (w : World) : Prop := ∃ X', Tt w g s X' ∧ (∀ k, X' k → X k ∨ w0.heap.size ≤ k) ∧ Mod X w0 w
theorem Tt.below {w w' : World} {g : Nat} {s : TS} {X : Nat → Prop} (h : Tt w g s X) (hb : Below w.heap.size w w') : Tt w' g s X := by
  obtain ⟨B, b1, b2, b3, V, hv, hB, hx⟩ := h.ex
  exact ⟨⟨B, b1, b2, b3, V, hv.below hb, Nat.le_trans hB hb.size, hx⟩, fun k hk => Nat.lt_of_lt_of_le (h.lt k hk) hb.size⟩
theorem Tw.refl {w : World} {g : Nat} {s : TS} {X : Nat → Prop} (h : Tt w g s X) : Tw w X g s w := ⟨X, h, fun _ hk => .inl hk, Mod.refl _ _⟩
theorem Mod.sub {X Y : Nat → Prop} {a b c : World} (h : Mod X a b) (k : Mod Y b c) (hY : ∀ i, Y i → X i ∨ a.heap.size ≤ i) : Mod X a c :=
  ⟨k.os.trans h.os, k.tape.trans h.tape, k.output.trans h.output, Nat.le_trans h.size k.size, fun i hi hx => (k.block i (Nat.lt_of_lt_of_le hi h.size) fun hy => by
    rcases hY i hy with h1 | h1
    · exact hx h1
    · omega).trans (h.block i hi hx)⟩
theorem Tw.step {w0 w1 w2 : World} {X X1 : Nat → Prop} {g : Nat} {s : TS} (h : Tw w1 X1 g s w2) (hx : ∀ k, X1 k → X k ∨ w0.heap.size ≤ k) (hm : Mod X w0 w1) : Tw w0 X g s w2 := by
  obtain ⟨X2, h1, h2, h3⟩ := h
  refine ⟨X2, h1, fun k hk => ?_, hm.sub h3 hx⟩
  rcases h2 k hk with h | h
  · exact hx k h
  · exact .inr (Nat.le_trans hm.size h)

/-- A table in the midst of a call that began at w0: its maps say (s, V), its rows are (V', L). -/
structure TbR (w0 : World) (X : Nat → Prop) (w : World) (B g b1 b2 b3 : Nat) (s : TS) (V V' : RI → Value) (L : RI → List (Value × Value)) : Prop where
  gt : At w g 61 (tabA b1 b2 b3)
  ms : MapsV w b1 b2 b3 s V
  rows : RowsF B w tyI V' L
  d12 : b1 ≠ b2
  d13 : b1 ≠ b3
  d23 : b2 ≠ b3
  hB : B ≤ w.heap.size
  xg : X g ∧ X b1 ∧ X b2 ∧ X b3
  xr : ∀ i k, (V' i).ownBlock = some k → X k ∨ w0.heap.size ≤ k
  mod : Mod X w0 w
section
variable {w0 w w' : World} {X : Nat → Prop} {B g b1 b2 b3 : Nat} {s : TS} {V V' : RI → Value} {L : RI → List (Value × Value)}
theorem TbR.start (h : TbV w B g b1 b2 b3 s V) (hB : B ≤ w.heap.size) (hx : ∀ k, TbX g b1 b2 b3 V k → X k) : TbR w X w B g b1 b2 b3 s V V (rowI s) :=
  ⟨h.gt, h.ms, h.rows, h.d12, h.d13, h.d23, hB, ⟨hx _ (.inl rfl), hx _ (.inr (.inl rfl)), hx _ (.inr (.inr (.inl rfl))), hx _ (.inr (.inr (.inr (.inl rfl))))⟩, fun i k hk => .inl (hx k (.inr (.inr (.inr (.inr ⟨i, hk⟩))))), Mod.refl _ _⟩
theorem TbR.row_ne (h : TbR w0 X w B g b1 b2 b3 s V V' L) {i : RI} {k : Nat} (hk : (V' i).ownBlock = some k) : k ≠ g ∧ k ≠ b1 ∧ k ≠ b2 ∧ k ≠ b3 := by
  have ho := h.rows.own i
  refine ⟨fun e => own_ne ho h.gt (tyI_ne i) (by rw [hk, e]), fun e => ?_, fun e => ?_, fun e => ?_⟩
  · obtain ⟨es, c, hb, _⟩ := h.ms.m1
    exact own_map ho hb (by rw [hk, e])
  · obtain ⟨es, c, hb, _⟩ := h.ms.m2
    exact own_map ho hb (by rw [hk, e])
  · obtain ⟨es, c, hb, _⟩ := h.ms.m3
    exact own_map ho hb (by rw [hk, e])
theorem TbR.g_ne (h : TbR w0 X w B g b1 b2 b3 s V V' L) : g ≠ b1 ∧ g ≠ b2 ∧ g ≠ b3 := by
  obtain ⟨e1, c1, h1, _⟩ := h.ms.m1
  obtain ⟨e2, c2, h2, _⟩ := h.ms.m2
  obtain ⟨e3, c3, h3, _⟩ := h.ms.m3
  exact ⟨at_map h.gt h1, at_map h.gt h2, at_map h.gt h3⟩
/-- Nothing of the table is turned. -/
theorem TbR.grown (h : TbR w0 X w B g b1 b2 b3 s V V' L) {row : Option Nat} (hg : w.grownBy w' row) (hr : ∀ k, row = some k → ¬ TbX g b1 b2 b3 V' k) (hx : ∀ k, row = some k → X k ∨ w0.heap.size ≤ k) : TbR w0 X w' B g b1 b2 b3 s V V' L := by
  have ne : ∀ k, TbX g b1 b2 b3 V' k → some k ≠ row := fun k hk e => hr k e.symm hk
  exact ⟨h.gt.grown hg (ne _ (.inl rfl)), ⟨h.ms.m1.kept hg (ne _ (.inr (.inl rfl))), h.ms.m2.kept hg (ne _ (.inr (.inr (.inl rfl)))), h.ms.m3.kept hg (ne _ (.inr (.inr (.inr (.inl rfl)))))⟩,
    h.rows.move hg fun i k hi e => ne k (.inr (.inr (.inr (.inr ⟨i, hi⟩)))) e.symm, h.d12, h.d13, h.d23, Nat.le_trans h.hB hg.size, h.xg, h.xr, h.mod.grown hg hx⟩
theorem TbR.below (h : TbR w0 X w B g b1 b2 b3 s V V' L) (hb : Below w.heap.size w w') : TbR w0 X w' B g b1 b2 b3 s V V' L := h.grown (grown_below hb) (fun k e => by cases e) (fun k e => by cases e)
theorem TbR.lt (h : TbR w0 X w B g b1 b2 b3 s V V' L) : ∀ k, TbX g b1 b2 b3 V' k → k < w.heap.size := by
  rintro k (rfl | rfl | rfl | rfl | ⟨i, hi⟩)
  · exact h.gt.lt
  · exact h.ms.m1.lt
  · exact h.ms.m2.lt
  · exact h.ms.m3.lt
  · exact ((h.rows.own i).lt k hi).2
/-- A block beside the table's is turned. -/
theorem TbR.beside (h : TbR w0 X w B g b1 b2 b3 s V V' L) {k : Nat} (hg : w.grownBy w' (some k)) (hk : ¬ TbX g b1 b2 b3 V' k) (hx : w0.heap.size ≤ k) : TbR w0 X w' B g b1 b2 b3 s V V' L :=
  h.grown hg (fun j e => by injection e with e; subst e; exact hk) (fun j e => by injection e with e; subst e; exact .inr hx)
/-- A block made in the call, of another type than any row's, is none of the table's. -/
theorem TbR.box_ne (h : TbR w0 X w B g b1 b2 b3 s V V' L) {k : Nat} {t : TypeId} {cs : Array Value} (ha : At w k t cs) (ht : t ≠ 54 ∧ t ≠ 33 ∧ t ≠ 61) : ¬ TbX g b1 b2 b3 V' k := by
  rintro (rfl | rfl | rfl | rfl | ⟨i, hi⟩)
  · have := h.gt
    unfold At at this ha
    rw [ha] at this
    injection this with this
    injection this with _ this
    exact ht.2.2 this
  · obtain ⟨es, c, hb, _⟩ := h.ms.m1
    exact at_map ha hb rfl
  · obtain ⟨es, c, hb, _⟩ := h.ms.m2
    exact at_map ha hb rfl
  · obtain ⟨es, c, hb, _⟩ := h.ms.m3
    exact at_map ha hb rfl
  · refine own_ne (h.rows.own i) ha ?_ hi.symm
    cases i
    · exact ht.1
    · exact ht.1
    · exact ht.2.1
/-- Row i is written anew. -/
theorem TbR.row (h : TbR w0 X w B g b1 b2 b3 s V V' L) (i : RI) (hg : w.grownBy w' (V' i).ownBlock) {v : Value} {l : List (Value × Value)} (ho : w'.ownsRow B (tyI i) 2 v l.length (flat2 l))
    (hv : ∀ k, v.ownBlock = some k → (V' i).ownBlock = some k ∨ w.heap.size ≤ k) : TbR w0 X w' B g b1 b2 b3 s V (setF V' i v) (setF L i l) := by
  have ne : ∀ k, k = g ∨ k = b1 ∨ k = b2 ∨ k = b3 → some k ≠ (V' i).ownBlock := fun k hk e => by
    obtain ⟨h1, h2, h3, h4⟩ := h.row_ne e.symm
    rcases hk with hk | hk | hk | hk
    · exact h1 hk
    · exact h2 hk
    · exact h3 hk
    · exact h4 hk
  refine ⟨h.gt.grown hg (ne _ (.inl rfl)), ⟨h.ms.m1.kept hg (ne _ (.inr (.inl rfl))), h.ms.m2.kept hg (ne _ (.inr (.inr (.inl rfl)))), h.ms.m3.kept hg (ne _ (.inr (.inr (.inr rfl))))⟩,
    h.rows.set i hg ho hv, h.d12, h.d13, h.d23, Nat.le_trans h.hB hg.size, h.xg, fun j k hk => ?_, h.mod.grown hg fun k hk => h.xr i k hk⟩
  by_cases hj : j = i
  · subst hj
    rw [setF_same] at hk
    rcases hv k hk with h1 | h1
    · exact h.xr j k h1
    · exact .inr (Nat.le_trans h.mod.size h1)
  · rw [setF_ne _ _ hj] at hk
    exact h.xr j k hk
/-- Row i is left lying: the table holds no slice there. -/
theorem TbR.forget (h : TbR w0 X w B g b1 b2 b3 s V V' L) (i : RI) : TbR w0 X w B g b1 b2 b3 s V (setF V' i nilS) (setF L i []) := by
  have hg : w.grownBy w (V' i).ownBlock := ⟨rfl, rfl, rfl, Nat.le_refl _, fun _ _ _ => rfl⟩
  exact h.row i hg (World.ownsRow_nil w B (tyI i) 2) (fun k hk => by cases hk)
theorem TbR.maps (h : TbR w0 X w B g b1 b2 b3 s V V' L) {b : Nat} (hb : b = b1 ∨ b = b2 ∨ b = b3) (hg : w.grownBy w' (some b)) {s' : TS} {W : RI → Value} (hm : MapsV w' b1 b2 b3 s' W) : TbR w0 X w' B g b1 b2 b3 s' W V' L := by
  obtain ⟨n1, n2, n3⟩ := h.g_ne
  refine ⟨h.gt.grown hg (fun e => ?_), hm, h.rows.move hg (fun i k hi e => ?_), h.d12, h.d13, h.d23, Nat.le_trans h.hB hg.size, h.xg, h.xr, h.mod.grown hg (fun k e => ?_)⟩
  · injection e with e
    rcases hb with rfl | rfl | rfl
    · exact n1 e
    · exact n2 e
    · exact n3 e
  · injection e with e
    obtain ⟨h1, h2, h3, h4⟩ := h.row_ne hi
    rcases hb with rfl | rfl | rfl
    · exact h2 e.symm
    · exact h3 e.symm
    · exact h4 e.symm
  · injection e with e
    subst e
    rcases hb with rfl | rfl | rfl
    · exact .inl h.xg.2.1
    · exact .inl h.xg.2.2.1
    · exact .inl h.xg.2.2.2
def setTh (V : RI → Value) (r : Rs) (vh vq : Value) : RI → Value := setF (setF V (.hold r) vh) (.queue r) vq
theorem setTh_h (V : RI → Value) (r r' : Rs) (vh vq : Value) : setTh V r vh vq (.hold r') = if r' = r then vh else V (.hold r') := by
  unfold setTh
  rw [setF_ne _ _ (by intro e; cases e)]
  by_cases h : r' = r
  · subst h; rw [setF_same, if_pos rfl]
  · rw [setF_ne _ _ (by intro e; injection e with e; exact h e), if_neg h]
theorem setTh_q (V : RI → Value) (r r' : Rs) (vh vq : Value) : setTh V r vh vq (.queue r') = if r' = r then vq else V (.queue r') := by
  unfold setTh
  by_cases h : r' = r
  · subst h; rw [setF_same, if_pos rfl]
  · rw [setF_ne _ _ (by intro e; injection e with e; exact h e), setF_ne _ _ (by intro e; cases e), if_neg h]
theorem setTh_o (V : RI → Value) (r : Rs) (t : Nat) (vh vq : Value) : setTh V r vh vq (.own t) = V (.own t) := by
  unfold setTh
  rw [setF_ne _ _ (by intro e; cases e), setF_ne _ _ (by intro e; cases e)]
/-- An entry of the things is stored. -/
theorem TbR.put1 (h : TbR w0 X w B g b1 b2 b3 s V V' L) (r : Rs) (x : List Cm × List Cm) (vh vq : Value) (hm : MapAt rsV RsOk w' b1 (updF (fun r => (s.th r).map fun _ => thV (V (.hold r)) (V (.queue r))) r (some (thV vh vq)))) (hg : w.grownBy w' (some b1)) :
    TbR w0 X w' B g b1 b2 b3 { s with th := upd s.th r (some x) } (setTh V r vh vq) V' L := by
  refine h.maps (.inl rfl) hg ⟨hm.ext fun r' => ?_, (h.ms.m2.kept hg (fun e => h.d12 (Option.some.inj e).symm)).ext fun t => ?_, h.ms.m3.kept hg (fun e => h.d13 (Option.some.inj e).symm)⟩
  · simp only [updF, upd, setTh_h, setTh_q]
    by_cases e : r' = r
    · subst e; simp
    · simp [e]
  · simp only [setTh_o]
/-- An entry of the things is deleted. -/
theorem TbR.del1 (h : TbR w0 X w B g b1 b2 b3 s V V' L) (r : Rs) (hm : MapAt rsV RsOk w' b1 (updF (fun r => (s.th r).map fun _ => thV (V (.hold r)) (V (.queue r))) r none)) (hg : w.grownBy w' (some b1)) :
    TbR w0 X w' B g b1 b2 b3 { s with th := upd s.th r none } (setTh V r nilS nilS) V' L := by
  refine h.maps (.inl rfl) hg ⟨hm.ext fun r' => ?_, (h.ms.m2.kept hg (fun e => h.d12 (Option.some.inj e).symm)).ext fun t => ?_, h.ms.m3.kept hg (fun e => h.d13 (Option.some.inj e).symm)⟩
  · simp only [updF, upd, setTh_h, setTh_q]
    by_cases e : r' = r
    · subst e; simp
    · simp [e]
  · simp only [setTh_o]
/-- An entry of what is owned is stored. -/
theorem TbR.put2 (h : TbR w0 X w B g b1 b2 b3 s V V' L) (t : Nat) (l : List Rs) (v : Value) (hm : MapAt u64V U64 w' b2 (updF (fun t => (s.ow t).map fun _ => V (.own t)) t (some v))) (hg : w.grownBy w' (some b2)) :
    TbR w0 X w' B g b1 b2 b3 { s with ow := upd s.ow t (some l) } (setF V (.own t) v) V' L := by
  refine h.maps (.inr (.inl rfl)) hg ⟨(h.ms.m1.kept hg (fun e => h.d12 (Option.some.inj e))).ext fun r' => ?_, hm.ext fun t' => ?_, h.ms.m3.kept hg (fun e => h.d23 (Option.some.inj e).symm)⟩
  · rw [setF_ne _ _ (by intro e; cases e), setF_ne _ _ (by intro e; cases e)]
  · simp only [updF, upd]
    by_cases e : t' = t
    · subst e; simp [setF_same]
    · rw [if_neg e, if_neg e, setF_ne _ _ (by intro e2; injection e2 with e2; exact e e2)]
theorem TbR.del2 (h : TbR w0 X w B g b1 b2 b3 s V V' L) (t : Nat) (hm : MapAt u64V U64 w' b2 (updF (fun t => (s.ow t).map fun _ => V (.own t)) t none)) (hg : w.grownBy w' (some b2)) :
    TbR w0 X w' B g b1 b2 b3 { s with ow := upd s.ow t none } (setF V (.own t) nilS) V' L := by
  refine h.maps (.inr (.inl rfl)) hg ⟨(h.ms.m1.kept hg (fun e => h.d12 (Option.some.inj e))).ext fun r' => ?_, hm.ext fun t' => ?_, h.ms.m3.kept hg (fun e => h.d23 (Option.some.inj e).symm)⟩
  · rw [setF_ne _ _ (by intro e; cases e), setF_ne _ _ (by intro e; cases e)]
  · simp only [updF, upd]
    by_cases e : t' = t
    · subst e; simp
    · rw [if_neg e, if_neg e, setF_ne _ _ (by intro e2; injection e2 with e2; exact e e2)]
/-- An entry of the waits is stored, or deleted. -/
theorem TbR.put3 (h : TbR w0 X w B g b1 b2 b3 s V V' L) (t : Nat) (o : Option Rs) (hm : MapAt u64V U64 w' b3 (updF (fun t => (s.wt t).map rsV) t (o.map rsV))) (hg : w.grownBy w' (some b3)) :
    TbR w0 X w' B g b1 b2 b3 { s with wt := upd s.wt t o } V V' L := by
  refine h.maps (.inr (.inr rfl)) hg ⟨h.ms.m1.kept hg (fun e => h.d13 (Option.some.inj e)), h.ms.m2.kept hg (fun e => h.d23 (Option.some.inj e)), hm.ext fun t' => ?_⟩
  simp only [updF, upd]
  by_cases e : t' = t
  · subst e; simp
  · simp [e]
/-- The end: maps and rows agree again. -/
theorem TbR.fin (h : TbR w0 X w B g b1 b2 b3 s V V' L) (hV : ∀ i, V i = V' i) (hL : ∀ i, L i = rowI s i) (n1 : ∀ r, s.th r = none → V (.hold r) = nilS ∧ V (.queue r) = nilS) (n2 : ∀ t, s.ow t = none → V (.own t) = nilS) : Tw w0 X g s w := by
  obtain rfl : V = V' := funext hV
  obtain rfl : L = rowI s := funext hL
  refine ⟨TbX g b1 b2 b3 V, ⟨⟨B, b1, b2, b3, V, ⟨h.gt, h.ms, h.rows, n1, n2, h.d12, h.d13, h.d23⟩, h.hB, fun _ hk => hk⟩, h.lt⟩, ?_, h.mod⟩
  rintro k (rfl | rfl | rfl | rfl | ⟨i, hi⟩)
  · exact .inl h.xg.1
  · exact .inl h.xg.2.1
  · exact .inl h.xg.2.2.1
  · exact .inl h.xg.2.2.2
  · exact h.xr i k hi
end
/-- A look-up of a region that draws. -/
theorem exec_look {α : Type} {P : Program} {k t e : TypeId} {key : α → Value} {ok : α → Prop} {w : World} {b : Nat} {f : α → Option Value} {op : Oper} {a : Act} (m x : Operand) (c : Bool) (ho : op.op = .lookup t m x c) (T : KeyT P k key ok) (ht : P.underlying t = some (.map k e)) (z : Value) (hz : ∀ w, (zeroValue e).run P w = .ok z w)
    (hm : a.eval m = .map (some b)) (h : MapAt key ok w b f) (i : α) (hx : a.eval x = key i) (hi : ok i) (v : Value) (hv : lookV z (f i) c = v) : (execOp a.eval op).run P w = .ok (.value v) w := by
  have := h.look T ht (hz w) c hi
  rw [hv] at this
  unfold execOp
  simp [ho, hm, hx, this, Result.andThen]
end Go.Proofs.YthbifccankfngaaGreatDoor

/-
  The walks of slices.Clone of claims, New, Held, Waits, Holders, Queue.
  Conditions: at most 100000 claims a row.
-/

namespace Go.Proofs.YthbifccankfngaaGreatDoor
open Go.RowKit Go.Shelf
attribute [local go_sem] Oper.semAt_some
set_option maxRecDepth 20000

/-- New claims come back; nothing that was there has turned. -/
def RetC (w : World) (l : List Cm) (e : Ending) (w' : World) : Prop :=
  ∃ A c, e = .returned (.slice A l.length c) ∧ w'.ownsRow w.heap.size 54 2 (.slice A l.length c) l.length (cmL l) ∧ Below w.heap.size w w'
theorem RetC.mk {w w' : World} {l : List Cm} {v : Value} {n : Nat} (h : w'.ownsRow w.heap.size 54 2 v n (cmL l)) (hb : Below w.heap.size w w') : RetC w l (.returned v) w' := by
  have hl : l.length = n := by have := h.1; rw [cmL_length] at this; omega
  subst hl
  obtain ⟨A, c, rfl, _⟩ := pl_own_slice h
  exact ⟨A, c, rfl, h, hb⟩
theorem c_info : ∃ i, Tryz.prog.info? 54 = some i ∧ i.zero = some (.agg zC) ∧ i.size = 2 ∧ i.bytes = 16 := ⟨_, rfl, rfl, rfl, rfl⟩
theorem r_info : ∃ i, Tryz.prog.info? 33 = some i ∧ i.zero = some (rsV (0, 0)) ∧ i.size = 2 ∧ i.bytes = 16 := ⟨_, rfl, rfl, rfl, rfl⟩
set_option maxHeartbeats 400000 in
theorem clone_some (X : Nat → Prop) (n c : Nat) (a : Addr) (l : List Cm) (w : World) (h : Lz X w 2 (some a) n (cmL l)) (hn : n ≤ 100000) :
    Calls Tryz.prog 35 #[.slice (some a) n c] w fun e w' => ∃ v, e = .returned v ∧ w'.ownsRow w.heap.size 54 2 v n (cmL l) ∧ Below w.heap.size w w' := by
  obtain ⟨i0, hi0, hz0, hz1, hz2⟩ := c_info
  have hnil := fun W => Lib.run_eql_slice_nil (P := Tryz.prog) W 77 54 (some a) n c 0 0 Tryz.underlying77
  have HH := Lib.hid h
  clear h
  have hm : (w.alloc (.cells #[] 54)).ownsRow w.heap.size 54 2 (.slice (some ⟨w.heap.size, 0, none⟩) 0 0) 0 [] := World.ownsRow_made w #[] 0 (Nat.le_refl _) (by simp [maxLen]) rfl
  have HM := Lib.hid hm
  clear hm
  go_enter Tryz.func35, Tryz.ntmps35
  go_wp2_with (at_builtin; refine pl_wpList_app _ rfl (.tmp 5) (.tmp 6) _ rfl w.heap.size 54 i0 _ 2 16 Tryz.underlying77 hi0 hz0 hz1 hz2 rfl (by omega) _ 0 [] rfl HM.out a n c (cmL l) rfl HH.out.len (HH.out.alloc _).cells (cmL_one l) (by simp only [maxLen]; omega) (by omega) (by simp) ?_; intro v1 w1 hown hg)
  go_ret
  exact ⟨v1, rfl, by simpa using hown, pl_below_own ((Below.refl _ _).alloc (Nat.le_refl _) _) HM.out hg (Nat.le_refl _) (by simp)⟩
set_option maxHeartbeats 400000 in
theorem clone_none (n c : Nat) (w : World) : Calls Tryz.prog 35 #[.slice none n c] w fun e w' => e = .returned (.slice none 0 0) ∧ w = w' := by
  have hnil := fun W => Lib.run_eql_slice_nil (P := Tryz.prog) W 77 54 none n c 0 0 Tryz.underlying77
  go_enter Tryz.func35, Tryz.ntmps35
  go_wp2_with fail
  go_ret
  exact ⟨rfl, rfl⟩
theorem clone_any (X : Nat → Prop) (n c : Nat) (A : Option Addr) (l : List Cm) (w : World) (h : Lz X w 2 A n (cmL l)) (hn : n ≤ 100000) : Calls Tryz.prog 35 #[.slice A n c] w (RetC w l) := by
  cases A with
  | some a =>
    refine (clone_some X n c a l w h hn).mono ?_
    rintro e w' ⟨v, rfl, ho, hb⟩
    exact RetC.mk ho hb
  | none =>
    refine (clone_none n c w).mono ?_
    rintro e w' ⟨rfl, rfl⟩
    obtain ⟨rfl, h2⟩ := h.nil_of_none
    have : l = [] := List.eq_nil_of_length_eq_zero (by have := cmL_length l; rw [h2] at this; simp at this; omega)
    subst this
    exact RetC.mk (World.ownsRow_nil w w.heap.size 54 2) (Below.refl _ _)

/-! ### New -/
def emptyS : TS := ⟨fun _ => none, fun _ => none, fun _ => none⟩
theorem tb_new (w : World) (b1 b2 b3 g : Nat) (hgt : At w g 61 (tabA b1 b2 b3)) (h1 : MapAt rsV RsOk w b1 fun _ => none) (h2 : MapAt u64V U64 w b2 fun _ => none) (h3 : MapAt u64V U64 w b3 fun _ => none) (d12 : b1 ≠ b2) (d13 : b1 ≠ b3) (d23 : b2 ≠ b3) :
    Tt w g emptyS (TbX g b1 b2 b3 fun _ => nilS) := by
  have hv : TbV w 0 g b1 b2 b3 emptyS fun _ => nilS := by
    refine ⟨hgt, ⟨h1.ext fun _ => rfl, h2.ext fun _ => rfl, h3.ext fun _ => rfl⟩, ⟨fun i => ?_, fun i j _ k hk => ?_⟩, fun _ _ => ⟨rfl, rfl⟩, fun _ _ => rfl, d12, d13, d23⟩
    · have : rowI emptyS i = [] := by cases i <;> rfl
      rw [this]
      exact World.ownsRow_nil w 0 (tyI i) 2
    · cases hk
  exact ⟨⟨0, b1, b2, b3, _, hv, Nat.zero_le _, fun _ hk => hk⟩, hv.lt⟩
set_option maxHeartbeats 800000 in
theorem new_any (w : World) : Calls Tryz.prog 7 #[] w fun e w' => ∃ g X, e = .returned (.pointer (some ⟨g, 0, none⟩)) ∧ Tt w' g emptyS X ∧ (∀ k, X k → w.heap.size ≤ k) ∧ Below w.heap.size w w' := by
  obtain ⟨w1, hw1⟩ : ∃ w1, w.alloc (.map #[] 0) = w1 := ⟨_, rfl⟩
  obtain ⟨w2, hw2⟩ : ∃ w2, w1.alloc (.map #[] 0) = w2 := ⟨_, rfl⟩
  obtain ⟨w3, hw3⟩ : ∃ w3, w2.alloc (.map #[] 0) = w3 := ⟨_, rfl⟩
  obtain ⟨n, hn⟩ : ∃ n, w.heap.size = n := ⟨_, rfl⟩
  have s1 : w1.heap.size = n + 1 := by rw [← hw1, ← hn]; simp
  have s2 : w2.heap.size = n + 2 := by rw [← hw2]; simp [s1]
  have s3 : w3.heap.size = n + 3 := by rw [← hw3]; simp [s2]
  have b1 : Below w.heap.size w w1 := hw1 ▸ (Below.refl _ w).alloc (Nat.le_refl _) _
  have b2 : Below w.heap.size w w2 := hw2 ▸ b1.alloc (by omega) _
  have b3 : Below w.heap.size w w3 := hw3 ▸ b2.alloc (by omega) _
  have HB := Lib.hid (show Below w.heap.size w (w3.alloc (.cells (tabA n (n + 1) (n + 2)) 61)) from b3.alloc (by omega) _)
  have a2 : w1.grownBy w2 none := hw2 ▸ grown_low none ((Below.refl _ w1).alloc (Nat.le_refl _) _)
  have a3 : w2.grownBy w3 none := hw3 ▸ grown_low none ((Below.refl _ w2).alloc (Nat.le_refl _) _)
  have a4 : w3.grownBy (w3.alloc (.cells (tabA n (n + 1) (n + 2)) 61)) none := grown_low none ((Below.refl _ w3).alloc (Nat.le_refl _) _)
  have m1 : MapAt rsV RsOk w1 n fun _ => none := by
    have := MapAt.made (key := rsV) (ok := RsOk) w
    rwa [hw1, hn] at this
  have m2 : MapAt u64V U64 w2 (n + 1) fun _ => none := by
    have := MapAt.made (key := u64V) (ok := U64) w1
    rwa [hw2, s1] at this
  have m3 : MapAt u64V U64 w3 (n + 2) fun _ => none := by
    have := MapAt.made (key := u64V) (ok := U64) w2
    rwa [hw3, s2] at this
  have HT : Hid (Tt (w3.alloc (.cells (tabA n (n + 1) (n + 2)) 61)) (n + 3) emptyS (TbX (n + 3) n (n + 1) (n + 2) fun _ => nilS)) := by
    refine tb_new _ n (n + 1) (n + 2) (n + 3) ?_ (((m1.kept a2 (by simp)).kept a3 (by simp)).kept a4 (by simp)) ((m2.kept a3 (by simp)).kept a4 (by simp)) (m3.kept a4 (by simp)) (by omega) (by omega) (by omega)
    have := At.new w3 61 (tabA n (n + 1) (n + 2))
    rwa [s3] at this
  have HN := Lib.hid hn
  have mm1 : ∀ W, (Instr.makeMap 57 none).run Tryz.prog W = .ok (.map (some W.heap.size)) (W.alloc (.map #[] 0)) := fun W => rfl
  have mm2 : ∀ W, (Instr.makeMap 58 none).run Tryz.prog W = .ok (.map (some W.heap.size)) (W.alloc (.map #[] 0)) := fun W => rfl
  have mm3 : ∀ W, (Instr.makeMap 59 none).run Tryz.prog W = .ok (.map (some W.heap.size)) (W.alloc (.map #[] 0)) := fun W => rfl
  clear b1 b2 b3 a2 a3 a4 m1 m2 m3
  unfold tabA at HB HT
  go_enter Tryz.func7, Tryz.ntmps7
  go_wp2_with fail
  go_ret
  refine ⟨n + 3, _, rfl, HT.out, ?_, HB.out⟩
  rintro k (rfl | rfl | rfl | rfl | ⟨i, hi⟩)
  · rw [HN.out]; omega
  · rw [HN.out]; omega
  · rw [HN.out]; omega
  · rw [HN.out]; omega
  · cases hi
end Go.Proofs.YthbifccankfngaaGreatDoor
