/-
  The walks of Join, of the reference's Together, Covers and Join, and of works.
  Conditions: the tables lie in their variables.
-/
import Derived.Test.YtalkefmkophhiaaDoorB
namespace Go.Proofs.YtalkefmkophhiaaDoor
open Go.RowKit

theorem cov_is {a b : Int} {r : Bool} (h : cov a b = r) (w : World) (hT : Tab w) : Calls Tryd.prog 8 #[.int .i64 a, .int .i64 b] w (RD w (.bool r)) := by
  rw [← h]; exact cov_any a b w hT
theorem tog_is {a b : Int} {r : Bool} (h : tog a b = r) (w : World) (hT : Tab w) : Calls Tryd.prog 6 #[.int .i64 a, .int .i64 b] w fun e w' => e = .returned (.bool r) ∧ w = w' := by
  rw [← h]; exact tog_any a b w hT
theorem jnF_yes {a b : Int} {n k : Nat} (h1 : cov (k : Int) a = true) (h2 : cov (k : Int) b = true) : jnF a b (n + 1) k = (k : Int) := by simp [jnF, h1, h2]
theorem jnF_no {a b : Int} {n k : Nat} (h : ¬ (cov (k : Int) a = true ∧ cov (k : Int) b = true)) : jnF a b (n + 1) k = jnF a b n (k + 1) := by rw [jnF, if_neg h]

set_option maxHeartbeats 1000000 in
theorem jn_any (a b : Int) (w : World) (hT : Tab w) : Calls Tryd.prog 10 #[.int .i64 a, .int .i64 b] w (RD w (.int .i64 (jn a b))) := by
  have HT := Lib.hid hT
  clear hT
  have HJ : Hid (jn a b = jnF a b 6 0) := rfl
  generalize jn a b = J at *
  go_enter Tryd.func10, Tryd.ntmps10
  go_wp2_with fail
  go_loopw [6] (fun v wr => ∃ k m : Nat, k ≤ 6 ∧ v = .int .i64 (k : Int) ∧ Hid (J = jnF a b (6 - k) k) ∧ wr = w.drewN m) (fun v _ => 6 - (intOf v).toNat)
  case atStart => exact ⟨0, 0, by omega, rfl, HJ, rfl⟩
  case round =>
    clear HJ
    obtain ⟨k, m, hk, rfl, HJ, rfl⟩ := hrel
    by_cases hlt : k < 6
    · obtain ⟨n, hn⟩ : ∃ n, 6 - k = n + 1 := ⟨5 - k, by omega⟩
      have hn' : 6 - (k + 1) = n := by omega
      have HTm := Lib.hid (HT.out.drewN m)
      cases h1 : cov (k : Int) a
      · have h2 := Lib.hid (jnF_no (n := n) (a := a) (b := b) (k := k) (by rw [h1]; simp))
        have H1 := Lib.hid h1
        have HN := Lib.hid hn
        have HN' := Lib.hid hn'
        clear h1 hn hn'
        go_wp2_with fail
        refine (cov_is H1.out _ HTm.out).mono ?_
        rintro e w' ⟨rfl, n1, rfl⟩
        go_wp2_with fail
        refine ⟨⟨k + 1, m + n1, by omega, by go_num, ?_, by simp⟩, by simp [intOf]; omega⟩
        show J = _
        rw [HJ.out, HN.out, h2.out, HN'.out]
      · cases h3 : cov (k : Int) b
        · have h2 := Lib.hid (jnF_no (n := n) (a := a) (b := b) (k := k) (by rw [h3]; simp))
          have H1 := Lib.hid h1
          have H3 := Lib.hid h3
          have HN := Lib.hid hn
          have HN' := Lib.hid hn'
          clear h1 h3 hn hn'
          go_wp2_with fail
          refine (cov_is H1.out _ HTm.out).mono ?_
          rintro e w' ⟨rfl, n1, rfl⟩
          have HTn := Lib.hid (HTm.out.drewN n1)
          go_wp2_with fail
          refine (cov_is H3.out _ (HT.out.drewN _)).mono ?_
          rintro e w' ⟨rfl, n2, rfl⟩
          go_wp2_with fail
          refine ⟨⟨k + 1, m + n1 + n2, by omega, by go_num, ?_, by simp⟩, by simp [intOf]; omega⟩
          show J = _
          rw [HJ.out, HN.out, h2.out, HN'.out]
        · have h2 := Lib.hid (jnF_yes (n := n) h1 h3)
          have H1 := Lib.hid h1
          have H3 := Lib.hid h3
          have HN := Lib.hid hn
          clear h1 h3 hn hn'
          go_wp2_with fail
          refine (cov_is H1.out _ HTm.out).mono ?_
          rintro e w' ⟨rfl, n1, rfl⟩
          go_wp2_with fail
          refine (cov_is H3.out _ (HT.out.drewN _)).mono ?_
          rintro e w' ⟨rfl, n2, rfl⟩
          go_wp2_with fail
          go_ret
          refine ⟨?_, _, rfl⟩
          rw [HJ.out, HN.out, h2.out]
          rfl
    · obtain rfl : k = 6 := by omega
      go_wp2_with fail
      go_ret
      exact ⟨by rw [HJ.out]; rfl, _, rfl⟩

set_option maxHeartbeats 1000000 in
theorem refCov_any (a b : Int) (w : World) : Calls Tryd.prog 9 #[.int .i64 a, .int .i64 b] w fun e w' => e = .returned (.bool (cov a b)) ∧ w = w' := by
  cases ha : right a
  · have hs : cov a b = false := by simp [cov, ha]
    rw [hs]
    clear hs
    have HA := Lib.hid ha
    clear ha
    go_enter Tryd.func9, Tryd.ntmps9
    go_wp2_with fail
    refine (refRight_is HA.out _).mono ?_
    rintro e w' ⟨rfl, rfl⟩
    go_wp2_with fail
    go_ret
    exact ⟨rfl, rfl⟩
  cases hb : right b
  · have hs : cov a b = false := by simp [cov, hb]
    rw [hs]
    clear hs
    have HA := Lib.hid ha
    have HB := Lib.hid hb
    clear ha hb
    go_enter Tryd.func9, Tryd.ntmps9
    go_wp2_with fail
    refine (refRight_is HA.out _).mono ?_
    rintro e w' ⟨rfl, rfl⟩
    go_wp2_with fail
    refine (refRight_is HB.out _).mono ?_
    rintro e w' ⟨rfl, rfl⟩
    go_wp2_with fail
    go_ret
    exact ⟨rfl, rfl⟩
  obtain ⟨u, rfl⟩ := as_fin ha
  obtain ⟨v, rfl⟩ := as_fin hb
  have hs : cov (u.val : Int) (v.val : Int) = (decide (rdN v.val ≤ rdN u.val) && decide (wrN v.val ≤ wrN u.val)) := by simp [cov, ha, hb]
  rw [hs]
  clear hs
  have HA := Lib.hid ha
  have HB := Lib.hid hb
  clear ha hb
  have R1 := Lib.hid (reads_at u w)
  have R2 := Lib.hid (reads_at v w)
  have R3 := Lib.hid (writes_at u w)
  have R4 := Lib.hid (writes_at v w)
  generalize u.val = i at *
  generalize v.val = j at *
  generalize rdN i = x1 at *
  generalize rdN j = x2 at *
  generalize wrN i = x3 at *
  generalize wrN j = x4 at *
  by_cases h1 : x2 ≤ x1
  · have d1 : decide (x2 ≤ x1) = true := by simp [h1]
    go_enter Tryd.func9, Tryd.ntmps9
    go_wp2_with fail
    refine (refRight_is HA.out _).mono ?_
    rintro e w' ⟨rfl, rfl⟩
    go_wp2_with fail
    refine (refRight_is HB.out _).mono ?_
    rintro e w' ⟨rfl, rfl⟩
    go_wp2_with fail
    refine R1.out.mono ?_
    rintro e w' ⟨rfl, rfl⟩
    go_wp2_with fail
    refine R2.out.mono ?_
    rintro e w' ⟨rfl, rfl⟩
    go_wp2_with fail
    refine R3.out.mono ?_
    rintro e w' ⟨rfl, rfl⟩
    go_wp2_with fail
    refine R4.out.mono ?_
    rintro e w' ⟨rfl, rfl⟩
    go_wp2_with fail
    go_ret
    exact ⟨by simp [d1], rfl⟩
  · have d1 : decide (x2 ≤ x1) = false := by simp [h1]
    go_enter Tryd.func9, Tryd.ntmps9
    go_wp2_with fail
    refine (refRight_is HA.out _).mono ?_
    rintro e w' ⟨rfl, rfl⟩
    go_wp2_with fail
    refine (refRight_is HB.out _).mono ?_
    rintro e w' ⟨rfl, rfl⟩
    go_wp2_with fail
    refine R1.out.mono ?_
    rintro e w' ⟨rfl, rfl⟩
    go_wp2_with fail
    refine R2.out.mono ?_
    rintro e w' ⟨rfl, rfl⟩
    go_wp2_with fail
    go_ret
    exact ⟨by simp [d1], rfl⟩
theorem refCov_is {a b : Int} {r : Bool} (h : cov a b = r) (w : World) : Calls Tryd.prog 9 #[.int .i64 a, .int .i64 b] w fun e w' => e = .returned (.bool r) ∧ w = w' := by
  rw [← h]; exact refCov_any a b w

set_option maxHeartbeats 1000000 in
theorem refJn_any (a b : Int) (w : World) : Calls Tryd.prog 11 #[.int .i64 a, .int .i64 b] w fun e w' => e = .returned (.int .i64 (jn a b)) ∧ w = w' := by
  have HJ : Hid (jn a b = jnF a b 6 0) := rfl
  generalize jn a b = J at *
  go_enter Tryd.func11, Tryd.ntmps11
  go_wp2_with fail
  go_loop [5] (fun v => ∃ k : Nat, k ≤ 6 ∧ v = .int .i64 (k : Int) ∧ Hid (J = jnF a b (6 - k) k)) (fun v => 6 - (intOf v).toNat)
  case atStart => exact ⟨0, by omega, rfl, HJ⟩
  case round =>
    clear HJ
    obtain ⟨k, hk, rfl, HJ⟩ := hrel
    by_cases hlt : k < 6
    · obtain ⟨n, hn⟩ : ∃ n, 6 - k = n + 1 := ⟨5 - k, by omega⟩
      have hn' : 6 - (k + 1) = n := by omega
      cases h1 : cov (k : Int) a
      · have h2 := Lib.hid (jnF_no (n := n) (a := a) (b := b) (k := k) (by rw [h1]; simp))
        have H1 := Lib.hid h1
        have HN := Lib.hid hn
        have HN' := Lib.hid hn'
        clear h1 hn hn'
        go_wp2_with fail
        refine (refCov_is H1.out _).mono ?_
        rintro e w' ⟨rfl, rfl⟩
        go_wp2_with fail
        refine ⟨⟨k + 1, by omega, by go_num, ?_⟩, by simp [intOf]; omega⟩
        show J = _
        rw [HJ.out, HN.out, h2.out, HN'.out]
      · cases h3 : cov (k : Int) b
        · have h2 := Lib.hid (jnF_no (n := n) (a := a) (b := b) (k := k) (by rw [h3]; simp))
          have H1 := Lib.hid h1
          have H3 := Lib.hid h3
          have HN := Lib.hid hn
          have HN' := Lib.hid hn'
          clear h1 h3 hn hn'
          go_wp2_with fail
          refine (refCov_is H1.out _).mono ?_
          rintro e w' ⟨rfl, rfl⟩
          go_wp2_with fail
          refine (refCov_is H3.out _).mono ?_
          rintro e w' ⟨rfl, rfl⟩
          go_wp2_with fail
          refine ⟨⟨k + 1, by omega, by go_num, ?_⟩, by simp [intOf]; omega⟩
          show J = _
          rw [HJ.out, HN.out, h2.out, HN'.out]
        · have h2 := Lib.hid (jnF_yes (n := n) h1 h3)
          have H1 := Lib.hid h1
          have H3 := Lib.hid h3
          have HN := Lib.hid hn
          clear h1 h3 hn hn'
          go_wp2_with fail
          refine (refCov_is H1.out _).mono ?_
          rintro e w' ⟨rfl, rfl⟩
          go_wp2_with fail
          refine (refCov_is H3.out _).mono ?_
          rintro e w' ⟨rfl, rfl⟩
          go_wp2_with fail
          go_ret
          refine ⟨?_, rfl⟩
          rw [HJ.out, HN.out, h2.out]
          rfl
    · obtain rfl : k = 6 := by omega
      go_wp2_with fail
      go_ret
      exact ⟨by rw [HJ.out]; rfl, rfl⟩
end Go.Proofs.YtalkefmkophhiaaDoor
