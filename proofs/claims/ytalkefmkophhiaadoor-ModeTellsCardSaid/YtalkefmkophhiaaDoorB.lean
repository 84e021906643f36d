/-
  The walks of package mode and of the reference of layer 10: each returns what the plain functions say, and writes nothing.
  Conditions: the tables lie in their variables.
-/
import Derived.Test.YtalkefmkophhiaaDoorA
import Derived.Deep.Cut
import Derived.Deep.CutRange
namespace Go.Proofs.YtalkefmkophhiaaDoor
open Go.RowKit

/-- It returns v, and nothing is written (orders may have been drawn). -/
def RD (w : World) (v : Value) (e : Ending) (w' : World) : Prop := e = .returned v ∧ ∃ n, w' = w.drewN n
theorem RD.same (w : World) (v : Value) : RD w v (.returned v) w := ⟨rfl, 0, rfl⟩

theorem right_any (m : Int) (w : World) : Calls Tryd.prog 5 #[.int .i64 m] w fun e w' => e = .returned (.bool (right m)) ∧ w = w' := by
  by_cases h0 : 0 ≤ m
  · have d0 : decide (0 ≤ m) = true := by simp [h0]
    go_enter Tryd.func5, Tryd.ntmps5
    go_wp2_with fail
    go_ret
    exact ⟨by simp [right, d0], rfl⟩
  · have d0 : decide (0 ≤ m) = false := by simp [h0]
    go_enter Tryd.func5, Tryd.ntmps5
    go_wp2_with fail
    go_ret
    exact ⟨by simp [right, d0], rfl⟩
theorem refRight_any (m : Int) (w : World) : Calls Tryd.prog 16 #[.int .i64 m] w fun e w' => e = .returned (.bool (right m)) ∧ w = w' := by
  by_cases h0 : 0 ≤ m
  · have d0 : decide (0 ≤ m) = true := by simp [h0]
    go_enter Tryd.func16, Tryd.ntmps16
    go_wp2_with fail
    go_ret
    exact ⟨by simp [right, d0], rfl⟩
  · have d0 : decide (0 ≤ m) = false := by simp [h0]
    go_enter Tryd.func16, Tryd.ntmps16
    go_wp2_with fail
    go_ret
    exact ⟨by simp [right, d0], rfl⟩
theorem right_is {m : Int} {b : Bool} (h : right m = b) (w : World) : Calls Tryd.prog 5 #[.int .i64 m] w fun e w' => e = .returned (.bool b) ∧ w = w' := by
  rw [← h]; exact right_any m w
theorem refRight_is {m : Int} {b : Bool} (h : right m = b) (w : World) : Calls Tryd.prog 16 #[.int .i64 m] w fun e w' => e = .returned (.bool b) ∧ w = w' := by
  rw [← h]; exact refRight_any m w

theorem writes_at (u : Fin 6) (w : World) : Calls Tryd.prog 17 #[.int .i64 (u.val : Int)] w fun e w' => e = .returned (.int .i64 (wrN u.val)) ∧ w = w' := by
  match u with
  | 0 | 1 | 2 | 3 | 4 | 5 =>
    go_enter Tryd.func17, Tryd.ntmps17
    go_wp2_with fail
    go_ret
    exact ⟨rfl, rfl⟩
theorem reads_at (u : Fin 6) (w : World) : Calls Tryd.prog 18 #[.int .i64 (u.val : Int)] w fun e w' => e = .returned (.int .i64 (rdN u.val)) ∧ w = w' := by
  match u with
  | 0 | 1 | 2 | 3 | 4 | 5 =>
    go_enter Tryd.func18, Tryd.ntmps18
    go_wp2_with fail
    go_ret
    exact ⟨rfl, rfl⟩

theorem above_any (m : Int) (w : World) : Calls Tryd.prog 12 #[.int .i64 m] w fun e w' => e = .returned (.int .i64 (abv m)) ∧ w = w' := by
  by_cases h0 : m = 0
  · subst h0
    go_enter Tryd.func12, Tryd.ntmps12
    go_wp2_with fail
    go_ret
    exact ⟨rfl, rfl⟩
  have d0 : (m == 0) = false := by simp [h0]
  by_cases h1 : m = 1
  · subst h1
    go_enter Tryd.func12, Tryd.ntmps12
    go_wp2_with fail
    go_ret
    exact ⟨rfl, rfl⟩
  have d1 : (m == 1) = false := by simp [h1]
  by_cases h3 : m = 3
  · subst h3
    go_enter Tryd.func12, Tryd.ntmps12
    go_wp2_with fail
    go_ret
    exact ⟨rfl, rfl⟩
  have d3 : (m == 3) = false := by simp [h3]
  have ha : abv m = 2 := by simp [abv, h0, h1, h3]
  rw [ha]
  clear ha
  go_enter Tryd.func12, Tryd.ntmps12
  go_wp2_with fail
  go_ret
  exact ⟨rfl, rfl⟩
theorem refAbove_any (m : Int) (w : World) : Calls Tryd.prog 13 #[.int .i64 m] w fun e w' => e = .returned (.int .i64 (abv m)) ∧ w = w' := by
  by_cases h0 : m = 0
  · subst h0
    go_enter Tryd.func13, Tryd.ntmps13
    go_wp2_with fail
    go_ret
    exact ⟨rfl, rfl⟩
  have d0 : (m == 0) = false := by simp [h0]
  by_cases h1 : m = 1
  · subst h1
    go_enter Tryd.func13, Tryd.ntmps13
    go_wp2_with fail
    go_ret
    exact ⟨rfl, rfl⟩
  have d1 : (m == 1) = false := by simp [h1]
  by_cases h3 : m = 3
  · subst h3
    go_enter Tryd.func13, Tryd.ntmps13
    go_wp2_with fail
    go_ret
    exact ⟨rfl, rfl⟩
  have d3 : (m == 3) = false := by simp [h3]
  have ha : abv m = 2 := by simp [abv, h0, h1, h3]
  rw [ha]
  clear ha
  go_enter Tryd.func13, Tryd.ntmps13
  go_wp2_with fail
  go_ret
  exact ⟨rfl, rfl⟩

theorem name_any (m : Int) (w : World) (hT : Tab w) : Calls Tryd.prog 14 #[.int .i64 m] w fun e w' => e = .returned (.string (nmS m)) ∧ w = w' := by
  cases hr : right m
  · have hs : nmS m = ⟨#[]⟩ := by simp [nmS, hr]
    rw [hs]
    clear hs hT
    have HR := Lib.hid hr
    clear hr
    go_enter Tryd.func14, Tryd.ntmps14
    go_wp2_with fail
    refine (right_is HR.out _).mono ?_
    rintro e w' ⟨rfl, rfl⟩
    go_wp2_with fail
    go_ret
    exact ⟨rfl, rfl⟩
  · obtain ⟨u, rfl⟩ := as_fin hr
    have hs : nmS (u.val : Int) = ⟨(nmN u.val).toArray⟩ := by simp [nmS, hr]
    have hc := hT.nm u.val u.isLt
    have hu := u.isLt
    rw [hs]
    clear hs hT
    have HR := Lib.hid hr
    clear hr
    generalize u.val = i at *
    go_enter Tryd.func14, Tryd.ntmps14
    go_wp2_with fail
    refine (right_is HR.out _).mono ?_
    rintro e w' ⟨rfl, rfl⟩
    go_wp2_with fail
    go_ret
    exact ⟨rfl, rfl⟩
theorem name_is {m : Int} {s : ByteArray} (h : nmS m = s) (w : World) (hT : Tab w) : Calls Tryd.prog 14 #[.int .i64 m] w fun e w' => e = .returned (.string s) ∧ w = w' := by
  rw [← h]; exact name_any m w hT

theorem tog_any (a b : Int) (w : World) (hT : Tab w) : Calls Tryd.prog 6 #[.int .i64 a, .int .i64 b] w fun e w' => e = .returned (.bool (tog a b)) ∧ w = w' := by
  cases ha : right a
  · have hs : tog a b = false := by simp [tog, ha]
    rw [hs]
    clear hs hT
    have HA := Lib.hid ha
    clear ha
    go_enter Tryd.func6, Tryd.ntmps6
    go_wp2_with fail
    refine (right_is HA.out _).mono ?_
    rintro e w' ⟨rfl, rfl⟩
    go_wp2_with fail
    go_ret
    exact ⟨rfl, rfl⟩
  cases hb : right b
  · have hs : tog a b = false := by simp [tog, hb]
    rw [hs]
    clear hs hT
    have HA := Lib.hid ha
    have HB := Lib.hid hb
    clear ha hb
    go_enter Tryd.func6, Tryd.ntmps6
    go_wp2_with fail
    refine (right_is HA.out _).mono ?_
    rintro e w' ⟨rfl, rfl⟩
    go_wp2_with fail
    refine (right_is HB.out _).mono ?_
    rintro e w' ⟨rfl, rfl⟩
    go_wp2_with fail
    go_ret
    exact ⟨rfl, rfl⟩
  obtain ⟨u, rfl⟩ := as_fin ha
  obtain ⟨v, rfl⟩ := as_fin hb
  have hs : tog (u.val : Int) (v.val : Int) = cmp u.val v.val := by simp [tog, ha, hb]
  have hc := hT.comp u.val v.val u.isLt v.isLt
  have hu := u.isLt
  have hv := v.isLt
  rw [hs]
  clear hs hT
  have HA := Lib.hid ha
  have HB := Lib.hid hb
  clear ha hb
  generalize u.val = i at *
  generalize v.val = j at *
  generalize cmp i j = r at *
  go_enter Tryd.func6, Tryd.ntmps6
  go_wp2_with fail
  refine (right_is HA.out _).mono ?_
  rintro e w' ⟨rfl, rfl⟩
  go_wp2_with fail
  refine (right_is HB.out _).mono ?_
  rintro e w' ⟨rfl, rfl⟩
  go_wp2_with fail
  go_ret
  exact ⟨rfl, rfl⟩

set_option maxHeartbeats 1000000 in
theorem cov_any (a b : Int) (w : World) (hT : Tab w) : Calls Tryd.prog 8 #[.int .i64 a, .int .i64 b] w (RD w (.bool (cov a b))) := by
  cases ha : right a
  · have hs : cov a b = false := by simp [cov, ha]
    rw [hs]
    clear hs hT
    have HA := Lib.hid ha
    clear ha
    go_enter Tryd.func8, Tryd.ntmps8
    go_wp2_with fail
    refine (right_is HA.out _).mono ?_
    rintro e w' ⟨rfl, rfl⟩
    go_wp2_with fail
    go_ret
    exact RD.same _ _
  cases hb : right b
  · have hs : cov a b = false := by simp [cov, hb]
    rw [hs]
    clear hs hT
    have HA := Lib.hid ha
    have HB := Lib.hid hb
    clear ha hb
    go_enter Tryd.func8, Tryd.ntmps8
    go_wp2_with fail
    refine (right_is HA.out _).mono ?_
    rintro e w' ⟨rfl, rfl⟩
    go_wp2_with fail
    refine (right_is HB.out _).mono ?_
    rintro e w' ⟨rfl, rfl⟩
    go_wp2_with fail
    go_ret
    exact RD.same _ _
  obtain ⟨u, rfl⟩ := as_fin ha
  obtain ⟨v, rfl⟩ := as_fin hb
  have hs : cov (u.val : Int) (v.val : Int) = (decide (rdN v.val ≤ rdN u.val) && decide (wrN v.val ≤ wrN u.val)) := by simp [cov, ha, hb]
  have hc1 := hT.rd u.val u.isLt
  have hc2 := hT.rd v.val v.isLt
  have hc3 := hT.wr u.val u.isLt
  have hc4 := hT.wr v.val v.isLt
  have hu := u.isLt
  have hv := v.isLt
  rw [hs]
  clear hs hT
  have HA := Lib.hid ha
  have HB := Lib.hid hb
  clear ha hb
  generalize u.val = i at *
  generalize v.val = j at *
  generalize rdN i = x1 at *
  generalize rdN j = x2 at *
  generalize wrN i = x3 at *
  generalize wrN j = x4 at *
  by_cases h1 : x2 ≤ x1
  · have d1 : decide (x2 ≤ x1) = true := by simp [h1]
    go_enter Tryd.func8, Tryd.ntmps8
    go_wp2_with fail
    refine (right_is HA.out _).mono ?_
    rintro e w' ⟨rfl, rfl⟩
    go_wp2_with fail
    refine (right_is HB.out _).mono ?_
    rintro e w' ⟨rfl, rfl⟩
    go_upto_region 3 with fail
    go_quiet (fail)
    go_wp2_with fail
    go_ret
    exact ⟨by simp [d1], _, rfl⟩
  · have d1 : decide (x2 ≤ x1) = false := by simp [h1]
    go_enter Tryd.func8, Tryd.ntmps8
    go_wp2_with fail
    refine (right_is HA.out _).mono ?_
    rintro e w' ⟨rfl, rfl⟩
    go_wp2_with fail
    refine (right_is HB.out _).mono ?_
    rintro e w' ⟨rfl, rfl⟩
    go_upto_region 3 with fail
    go_quiet (fail)
    go_wp2_with fail
    go_ret
    exact ⟨by simp [d1], _, rfl⟩
end Go.Proofs.YtalkefmkophhiaaDoor
