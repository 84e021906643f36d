/-
  The walk of the law ModeLaws.
  Conditions: the tables lie in their variables.
-/
import Derived.Test.YtalkefmkophhiaaDoorE
namespace Go.Proofs.YtalkefmkophhiaaDoor
open Go.RowKit

section
variable (a b c : Int) (w : World) (HT : Hid (Tab w))
include HT
set_option maxHeartbeats 1000000 in
theorem laws_no1 (h1 : right a = false) : Calls Tryd.prog 4 #[.int .i64 a, .int .i64 b, .int .i64 c] w (RD w (.bool true)) := by
  have H1 := Lib.hid h1
  clear h1
  go_enter Tryd.func4, Tryd.ntmps4
  go_wp2_with fail
  refine (right_is H1.out _).mono ?_
  rintro e w' ⟨rfl, rfl⟩
  go_wp2_with fail
  refine (works_any _ HT.out).mono ?_
  rintro e w' ⟨rfl, n3, rfl⟩
  go_wp2_with fail
  go_ret
  exact ⟨rfl, _, rfl⟩
set_option maxHeartbeats 1000000 in
theorem laws_no2 (h1 : right a = true) (h2 : right b = false) : Calls Tryd.prog 4 #[.int .i64 a, .int .i64 b, .int .i64 c] w (RD w (.bool true)) := by
  have H1 := Lib.hid h1
  have H2 := Lib.hid h2
  clear h1 h2
  go_enter Tryd.func4, Tryd.ntmps4
  go_wp2_with fail
  refine (right_is H1.out _).mono ?_
  rintro e w' ⟨rfl, rfl⟩
  go_wp2_with fail
  refine (right_is H2.out _).mono ?_
  rintro e w' ⟨rfl, rfl⟩
  go_wp2_with fail
  refine (works_any _ HT.out).mono ?_
  rintro e w' ⟨rfl, n3, rfl⟩
  go_wp2_with fail
  go_ret
  exact ⟨rfl, _, rfl⟩
set_option maxHeartbeats 1000000 in
theorem laws_no3 (h1 : right a = true) (h2 : right b = true) (h3 : right c = false) : Calls Tryd.prog 4 #[.int .i64 a, .int .i64 b, .int .i64 c] w (RD w (.bool true)) := by
  have H1 := Lib.hid h1
  have H2 := Lib.hid h2
  have H3 := Lib.hid h3
  clear h1 h2 h3
  go_enter Tryd.func4, Tryd.ntmps4
  go_wp2_with fail
  refine (right_is H1.out _).mono ?_
  rintro e w' ⟨rfl, rfl⟩
  go_wp2_with fail
  refine (right_is H2.out _).mono ?_
  rintro e w' ⟨rfl, rfl⟩
  go_wp2_with fail
  refine (right_is H3.out _).mono ?_
  rintro e w' ⟨rfl, rfl⟩
  go_wp2_with fail
  refine (works_any _ HT.out).mono ?_
  rintro e w' ⟨rfl, n3, rfl⟩
  go_wp2_with fail
  go_ret
  exact ⟨rfl, _, rfl⟩
end

/-- What the laws say of three modes. -/
structure Lat (a b c : Int) : Prop where
  sym : tog b a = tog a b
  refl : cov a a = true
  upA : cov (jn a b) a = true
  upB : cov (jn a b) b = true
  comm : jn b a = jn a b
  assoc : jn a (jn b c) = jn (jn a b) c
  trans : cov a b = true → cov b c = true → cov a c = true
  anti : cov a b = true → cov b a = true → a = b
  less : cov a b = true → tog a c = true → tog b c = true
  least : cov c a = true → cov c b = true → cov c (jn a b) = true
  above : cov a b = true → cov (abv a) (abv b) = true
theorem lat {a b c : Int} (ha : right a = true) (hb : right b = true) (hc : right c = true) : Lat a b c := by
  obtain ⟨u, rfl⟩ := as_fin ha
  obtain ⟨v, rfl⟩ := as_fin hb
  obtain ⟨x, rfl⟩ := as_fin hc
  obtain ⟨h1, h2, h3, h4⟩ := f_up u v
  exact ⟨f_sym v u, f_refl u, h1, h2, h3.symm, (f_assoc u v x).symm, f_trans u v x, fun p q => by rw [f_anti u v p q], f_less u v x, f_least u v x, f_above u v⟩

set_option maxRecDepth 20000 in
set_option maxHeartbeats 8000000 in
theorem laws_yes (a b c : Int) (w : World) (HT : Hid (Tab w)) (h1 : right a = true) (h2 : right b = true) (h3 : right c = true) : Calls Tryd.prog 4 #[.int .i64 a, .int .i64 b, .int .i64 c] w (RD w (.bool true)) := by
  have HL := Lib.hid (lat h1 h2 h3)
  have H1 := Lib.hid h1
  have H2 := Lib.hid h2
  have H3 := Lib.hid h3
  obtain ⟨t, ht⟩ : ∃ t, tog a b = t := ⟨_, rfl⟩
  have ht' : tog b a = t := by rw [HL.out.sym, ht]
  obtain ⟨j, hj⟩ : ∃ j, jn a b = j := ⟨_, rfl⟩
  have hj' : jn b a = j := by rw [HL.out.comm, hj]
  obtain ⟨k, hk⟩ : ∃ k, jn b c = k := ⟨_, rfl⟩
  obtain ⟨m, hm⟩ : ∃ m, jn j c = m := ⟨_, rfl⟩
  have hm' : jn a k = m := by rw [← hk, HL.out.assoc, hj, hm]
  have hA : cov j a = true := by rw [← hj]; exact HL.out.upA
  have hB : cov j b = true := by rw [← hj]; exact HL.out.upB
  have HT1 := Lib.hid ht
  have HT2 := Lib.hid ht'
  have HJ1 := Lib.hid hj
  have HJ2 := Lib.hid hj'
  have HK := Lib.hid hk
  have HM1 := Lib.hid hm
  have HM2 := Lib.hid hm'
  have HA := Lib.hid hA
  have HB := Lib.hid hB
  clear h1 h2 h3 ht ht' hj hj' hk hm hm' hA hB
  go_enter Tryd.func4, Tryd.ntmps4
  go_wp2_with fail
  refine (right_is H1.out _).mono ?_
  rintro e w' ⟨rfl, rfl⟩
  go_wp2_with fail
  refine (right_is H2.out _).mono ?_
  rintro e w' ⟨rfl, rfl⟩
  go_wp2_with fail
  refine (right_is H3.out _).mono ?_
  rintro e w' ⟨rfl, rfl⟩
  go_wp2_with fail
  refine (jn_is HJ1.out _ HT.out).mono ?_
  rintro e w' ⟨rfl, n1, rfl⟩
  go_wp2_with fail
  refine (tog_is HT1.out _ (HT.out.drewN _)).mono ?_
  rintro e w' ⟨rfl, rfl⟩
  go_wp2_with fail
  refine (tog_is HT2.out _ (HT.out.drewN _)).mono ?_
  rintro e w' ⟨rfl, rfl⟩
  go_wp2_with fail
  refine (cov_is HL.out.refl _ (HT.out.drewN _)).mono ?_
  rintro e w' ⟨rfl, n2, rfl⟩
  go_wp2_with fail
  refine (cov_is HA.out _ (HT.out.drewN _)).mono ?_
  rintro e w' ⟨rfl, n3, rfl⟩
  go_wp2_with fail
  refine (cov_is HB.out _ (HT.out.drewN _)).mono ?_
  rintro e w' ⟨rfl, n4, rfl⟩
  go_wp2_with fail
  refine (jn_is HJ2.out _ (HT.out.drewN _)).mono ?_
  rintro e w' ⟨rfl, n5, rfl⟩
  go_wp2_with fail
  refine (jn_is HM1.out _ (HT.out.drewN _)).mono ?_
  rintro e w' ⟨rfl, n6, rfl⟩
  go_wp2_with fail
  refine (jn_is HK.out _ (HT.out.drewN _)).mono ?_
  rintro e w' ⟨rfl, n7, rfl⟩
  go_wp2_with fail
  refine (jn_is HM2.out _ (HT.out.drewN _)).mono ?_
  rintro e w' ⟨rfl, n8, rfl⟩
  go_upto_region 6 with fail
  generalize hW : World.drewN w _ = W
  have HW : Hid (∃ n, W = w.drewN n) := ⟨_, hW.symm⟩
  have HTW : Hid (Tab W) := by rw [← hW]; exact HT.out.drewN _
  clear hW
  go_cut [96] from 68 to 141 (fun s96 wx => s96 = .bool false ∧ ∃ n, wx = W.drewN n)
  case first =>
    cases x : cov a b
    · have X := Lib.hid x
      clear x
      go_wp2_with fail
      refine (cov_is X.out _ HTW.out).mono ?_
      rintro e w' ⟨rfl, m1, rfl⟩
      go_wp2_with fail
      refine (cov_is X.out _ (HTW.out.drewN _)).mono ?_
      rintro e w' ⟨rfl, m2, rfl⟩
      go_wp2_with fail
      go_meet
      exact ⟨rfl, _, rfl⟩
    · cases y : cov b c
      · cases z : cov b a
        · have X := Lib.hid x
          have Y := Lib.hid y
          have Z := Lib.hid z
          clear x y z
          go_wp2_with fail
          refine (cov_is X.out _ HTW.out).mono ?_
          rintro e w' ⟨rfl, m3, rfl⟩
          go_wp2_with fail
          refine (cov_is Y.out _ (HTW.out.drewN _)).mono ?_
          rintro e w' ⟨rfl, m4, rfl⟩
          go_wp2_with fail
          refine (cov_is X.out _ (HTW.out.drewN _)).mono ?_
          rintro e w' ⟨rfl, m5, rfl⟩
          go_wp2_with fail
          refine (cov_is Z.out _ (HTW.out.drewN _)).mono ?_
          rintro e w' ⟨rfl, m6, rfl⟩
          go_wp2_with fail
          go_meet
          exact ⟨rfl, _, rfl⟩
        · obtain rfl := HL.out.anti x z
          have X := Lib.hid x
          have Y := Lib.hid y
          clear x y z
          go_wp2_with fail
          refine (cov_is X.out _ HTW.out).mono ?_
          rintro e w' ⟨rfl, m7, rfl⟩
          go_wp2_with fail
          refine (cov_is Y.out _ (HTW.out.drewN _)).mono ?_
          rintro e w' ⟨rfl, m8, rfl⟩
          go_wp2_with fail
          refine (cov_is X.out _ (HTW.out.drewN _)).mono ?_
          rintro e w' ⟨rfl, m9, rfl⟩
          go_wp2_with fail
          refine (cov_is X.out _ (HTW.out.drewN _)).mono ?_
          rintro e w' ⟨rfl, m10, rfl⟩
          go_wp2_with fail
          go_meet
          exact ⟨rfl, _, rfl⟩
      · have v := HL.out.trans x y
        cases z : cov b a
        · have X := Lib.hid x
          have Y := Lib.hid y
          have Z := Lib.hid z
          have V := Lib.hid v
          clear x y z v
          go_wp2_with fail
          refine (cov_is X.out _ HTW.out).mono ?_
          rintro e w' ⟨rfl, m11, rfl⟩
          go_wp2_with fail
          refine (cov_is Y.out _ (HTW.out.drewN _)).mono ?_
          rintro e w' ⟨rfl, m12, rfl⟩
          go_wp2_with fail
          refine (cov_is V.out _ (HTW.out.drewN _)).mono ?_
          rintro e w' ⟨rfl, m13, rfl⟩
          go_wp2_with fail
          refine (cov_is X.out _ (HTW.out.drewN _)).mono ?_
          rintro e w' ⟨rfl, m14, rfl⟩
          go_wp2_with fail
          refine (cov_is Z.out _ (HTW.out.drewN _)).mono ?_
          rintro e w' ⟨rfl, m15, rfl⟩
          go_wp2_with fail
          go_meet
          exact ⟨rfl, _, rfl⟩
        · obtain rfl := HL.out.anti x z
          have X := Lib.hid x
          have Y := Lib.hid y
          have V := Lib.hid v
          clear x y z v
          go_wp2_with fail
          refine (cov_is X.out _ HTW.out).mono ?_
          rintro e w' ⟨rfl, m16, rfl⟩
          go_wp2_with fail
          refine (cov_is Y.out _ (HTW.out.drewN _)).mono ?_
          rintro e w' ⟨rfl, m17, rfl⟩
          go_wp2_with fail
          refine (cov_is V.out _ (HTW.out.drewN _)).mono ?_
          rintro e w' ⟨rfl, m18, rfl⟩
          go_wp2_with fail
          refine (cov_is X.out _ (HTW.out.drewN _)).mono ?_
          rintro e w' ⟨rfl, m19, rfl⟩
          go_wp2_with fail
          refine (cov_is X.out _ (HTW.out.drewN _)).mono ?_
          rintro e w' ⟨rfl, m20, rfl⟩
          go_wp2_with fail
          go_meet
          exact ⟨rfl, _, rfl⟩
  case rest =>
  obtain ⟨rfl, n9, rfl⟩ := hcut
  go_upto_region 8 with fail
  generalize hV : World.drewN W n9 = V
  have HV : Hid (∃ n, V = w.drewN n) := by
    obtain ⟨n, hn⟩ := HW.out
    subst hV hn
    exact ⟨_, World.drewN_drewN _ _ _⟩
  have HTV : Hid (Tab V) := by rw [← hV]; exact HTW.out.drewN _
  clear hV HW HTW
  go_cut [126] from 97 to 141 (fun s126 wx => s126 = .bool false ∧ ∃ n, wx = V.drewN n)
  case first =>
    cases x : cov a b
    · have X := Lib.hid x
      clear x
      cases p : cov c a
      · have P := Lib.hid p
        clear p
        go_wp2_with fail
        refine (cov_is X.out _ (by first | exact HTV.out | exact HTV.out.drewN _)).mono ?_
        rintro e w' ⟨rfl, m101, rfl⟩
        go_wp2_with fail
        refine (cov_is P.out _ (by first | exact HTV.out | exact HTV.out.drewN _)).mono ?_
        rintro e w' ⟨rfl, m102, rfl⟩
        go_wp2_with fail
        go_meet
        exact ⟨rfl, _, rfl⟩
      · cases q : cov c b
        · have P := Lib.hid p
          have Q := Lib.hid q
          clear p q
          go_wp2_with fail
          refine (cov_is X.out _ (by first | exact HTV.out | exact HTV.out.drewN _)).mono ?_
          rintro e w' ⟨rfl, m103, rfl⟩
          go_wp2_with fail
          refine (cov_is P.out _ (by first | exact HTV.out | exact HTV.out.drewN _)).mono ?_
          rintro e w' ⟨rfl, m104, rfl⟩
          go_wp2_with fail
          refine (cov_is Q.out _ (by first | exact HTV.out | exact HTV.out.drewN _)).mono ?_
          rintro e w' ⟨rfl, m105, rfl⟩
          go_wp2_with fail
          go_meet
          exact ⟨rfl, _, rfl⟩
        · have z := HL.out.least p q
          rw [HJ1.out] at z
          have P := Lib.hid p
          have Q := Lib.hid q
          have Z := Lib.hid z
          clear p q z
          go_wp2_with fail
          refine (cov_is X.out _ (by first | exact HTV.out | exact HTV.out.drewN _)).mono ?_
          rintro e w' ⟨rfl, m106, rfl⟩
          go_wp2_with fail
          refine (cov_is P.out _ (by first | exact HTV.out | exact HTV.out.drewN _)).mono ?_
          rintro e w' ⟨rfl, m107, rfl⟩
          go_wp2_with fail
          refine (cov_is Q.out _ (by first | exact HTV.out | exact HTV.out.drewN _)).mono ?_
          rintro e w' ⟨rfl, m108, rfl⟩
          go_wp2_with fail
          refine (cov_is Z.out _ (by first | exact HTV.out | exact HTV.out.drewN _)).mono ?_
          rintro e w' ⟨rfl, m109, rfl⟩
          go_wp2_with fail
          go_meet
          exact ⟨rfl, _, rfl⟩
    · cases y : tog a c
      · have X := Lib.hid x
        have T1 := Lib.hid y
        clear x y
        cases p : cov c a
        · have P := Lib.hid p
          clear p
          go_wp2_with fail
          refine (cov_is X.out _ (by first | exact HTV.out | exact HTV.out.drewN _)).mono ?_
          rintro e w' ⟨rfl, m110, rfl⟩
          go_wp2_with fail
          refine (tog_is T1.out _ (by first | exact HTV.out | exact HTV.out.drewN _)).mono ?_
          rintro e w' ⟨rfl, rfl⟩
          go_wp2_with fail
          refine (cov_is P.out _ (by first | exact HTV.out | exact HTV.out.drewN _)).mono ?_
          rintro e w' ⟨rfl, m111, rfl⟩
          go_wp2_with fail
          go_meet
          exact ⟨rfl, _, rfl⟩
        · cases q : cov c b
          · have P := Lib.hid p
            have Q := Lib.hid q
            clear p q
            go_wp2_with fail
            refine (cov_is X.out _ (by first | exact HTV.out | exact HTV.out.drewN _)).mono ?_
            rintro e w' ⟨rfl, m112, rfl⟩
            go_wp2_with fail
            refine (tog_is T1.out _ (by first | exact HTV.out | exact HTV.out.drewN _)).mono ?_
            rintro e w' ⟨rfl, rfl⟩
            go_wp2_with fail
            refine (cov_is P.out _ (by first | exact HTV.out | exact HTV.out.drewN _)).mono ?_
            rintro e w' ⟨rfl, m113, rfl⟩
            go_wp2_with fail
            refine (cov_is Q.out _ (by first | exact HTV.out | exact HTV.out.drewN _)).mono ?_
            rintro e w' ⟨rfl, m114, rfl⟩
            go_wp2_with fail
            go_meet
            exact ⟨rfl, _, rfl⟩
          · have z := HL.out.least p q
            rw [HJ1.out] at z
            have P := Lib.hid p
            have Q := Lib.hid q
            have Z := Lib.hid z
            clear p q z
            go_wp2_with fail
            refine (cov_is X.out _ (by first | exact HTV.out | exact HTV.out.drewN _)).mono ?_
            rintro e w' ⟨rfl, m115, rfl⟩
            go_wp2_with fail
            refine (tog_is T1.out _ (by first | exact HTV.out | exact HTV.out.drewN _)).mono ?_
            rintro e w' ⟨rfl, rfl⟩
            go_wp2_with fail
            refine (cov_is P.out _ (by first | exact HTV.out | exact HTV.out.drewN _)).mono ?_
            rintro e w' ⟨rfl, m116, rfl⟩
            go_wp2_with fail
            refine (cov_is Q.out _ (by first | exact HTV.out | exact HTV.out.drewN _)).mono ?_
            rintro e w' ⟨rfl, m117, rfl⟩
            go_wp2_with fail
            refine (cov_is Z.out _ (by first | exact HTV.out | exact HTV.out.drewN _)).mono ?_
            rintro e w' ⟨rfl, m118, rfl⟩
            go_wp2_with fail
            go_meet
            exact ⟨rfl, _, rfl⟩
      · have v := HL.out.less x y
        have X := Lib.hid x
        have T1 := Lib.hid y
        have T2 := Lib.hid v
        clear x y v
        cases p : cov c a
        · have P := Lib.hid p
          clear p
          go_wp2_with fail
          refine (cov_is X.out _ (by first | exact HTV.out | exact HTV.out.drewN _)).mono ?_
          rintro e w' ⟨rfl, m119, rfl⟩
          go_wp2_with fail
          refine (tog_is T1.out _ (by first | exact HTV.out | exact HTV.out.drewN _)).mono ?_
          rintro e w' ⟨rfl, rfl⟩
          go_wp2_with fail
          refine (tog_is T2.out _ (by first | exact HTV.out | exact HTV.out.drewN _)).mono ?_
          rintro e w' ⟨rfl, rfl⟩
          go_wp2_with fail
          refine (cov_is P.out _ (by first | exact HTV.out | exact HTV.out.drewN _)).mono ?_
          rintro e w' ⟨rfl, m120, rfl⟩
          go_wp2_with fail
          go_meet
          exact ⟨rfl, _, rfl⟩
        · cases q : cov c b
          · have P := Lib.hid p
            have Q := Lib.hid q
            clear p q
            go_wp2_with fail
            refine (cov_is X.out _ (by first | exact HTV.out | exact HTV.out.drewN _)).mono ?_
            rintro e w' ⟨rfl, m121, rfl⟩
            go_wp2_with fail
            refine (tog_is T1.out _ (by first | exact HTV.out | exact HTV.out.drewN _)).mono ?_
            rintro e w' ⟨rfl, rfl⟩
            go_wp2_with fail
            refine (tog_is T2.out _ (by first | exact HTV.out | exact HTV.out.drewN _)).mono ?_
            rintro e w' ⟨rfl, rfl⟩
            go_wp2_with fail
            refine (cov_is P.out _ (by first | exact HTV.out | exact HTV.out.drewN _)).mono ?_
            rintro e w' ⟨rfl, m122, rfl⟩
            go_wp2_with fail
            refine (cov_is Q.out _ (by first | exact HTV.out | exact HTV.out.drewN _)).mono ?_
            rintro e w' ⟨rfl, m123, rfl⟩
            go_wp2_with fail
            go_meet
            exact ⟨rfl, _, rfl⟩
          · have z := HL.out.least p q
            rw [HJ1.out] at z
            have P := Lib.hid p
            have Q := Lib.hid q
            have Z := Lib.hid z
            clear p q z
            go_wp2_with fail
            refine (cov_is X.out _ (by first | exact HTV.out | exact HTV.out.drewN _)).mono ?_
            rintro e w' ⟨rfl, m124, rfl⟩
            go_wp2_with fail
            refine (tog_is T1.out _ (by first | exact HTV.out | exact HTV.out.drewN _)).mono ?_
            rintro e w' ⟨rfl, rfl⟩
            go_wp2_with fail
            refine (tog_is T2.out _ (by first | exact HTV.out | exact HTV.out.drewN _)).mono ?_
            rintro e w' ⟨rfl, rfl⟩
            go_wp2_with fail
            refine (cov_is P.out _ (by first | exact HTV.out | exact HTV.out.drewN _)).mono ?_
            rintro e w' ⟨rfl, m125, rfl⟩
            go_wp2_with fail
            refine (cov_is Q.out _ (by first | exact HTV.out | exact HTV.out.drewN _)).mono ?_
            rintro e w' ⟨rfl, m126, rfl⟩
            go_wp2_with fail
            refine (cov_is Z.out _ (by first | exact HTV.out | exact HTV.out.drewN _)).mono ?_
            rintro e w' ⟨rfl, m127, rfl⟩
            go_wp2_with fail
            go_meet
            exact ⟨rfl, _, rfl⟩
  case rest =>
  obtain ⟨rfl, n10, rfl⟩ := hcut
  go_upto_region 10 with fail
  generalize hY : World.drewN V n10 = Y
  have HY : Hid (∃ n, Y = w.drewN n) := by
    obtain ⟨n, hn⟩ := HV.out
    subst hY hn
    exact ⟨_, World.drewN_drewN _ _ _⟩
  have HTY : Hid (Tab Y) := by rw [← hY]; exact HTV.out.drewN _
  clear hY HV HTV
  cases x : cov a b
  · have X := Lib.hid x
    clear x
    go_wp2_with fail
    refine (cov_is X.out _ HTY.out).mono ?_
    rintro e w' ⟨rfl, k1, rfl⟩
    go_wp2_with fail
    refine (works_any _ (HTY.out.drewN _)).mono ?_
    rintro e w' ⟨rfl, k2, rfl⟩
    go_wp2_with fail
    go_ret
    obtain ⟨n, hn⟩ := HY.out
    subst hn
    exact ⟨rfl, _, World.drewN_drewN _ _ _⟩
  · have v := HL.out.above x
    have X := Lib.hid x
    have V := Lib.hid v
    clear x v
    go_wp2_with fail
    refine (cov_is X.out _ HTY.out).mono ?_
    rintro e w' ⟨rfl, k1, rfl⟩
    go_wp2_with fail
    refine (above_any a _).mono ?_
    rintro e w' ⟨rfl, rfl⟩
    go_wp2_with fail
    refine (above_any b _).mono ?_
    rintro e w' ⟨rfl, rfl⟩
    go_wp2_with fail
    refine (cov_is V.out _ (HTY.out.drewN _)).mono ?_
    rintro e w' ⟨rfl, k2, rfl⟩
    go_wp2_with fail
    refine (works_any _ (HTY.out.drewN _)).mono ?_
    rintro e w' ⟨rfl, k3, rfl⟩
    go_wp2_with fail
    go_ret
    obtain ⟨n, hn⟩ := HY.out
    subst hn
    exact ⟨rfl, _, World.drewN_drewN _ _ _⟩

theorem laws_law (a b c : Int) (w : World) (hT : Tab w) : Calls Tryd.prog 4 #[.int .i64 a, .int .i64 b, .int .i64 c] w fun e w' => e = .returned (.bool true) ∧ Below w.heap.size w w' := by
  have hq : Calls Tryd.prog 4 #[.int .i64 a, .int .i64 b, .int .i64 c] w (RD w (.bool true)) := by
    cases h1 : right a
    · exact laws_no1 a b c w (Lib.hid hT) h1
    cases h2 : right b
    · exact laws_no2 a b c w (Lib.hid hT) h1 h2
    cases h3 : right c
    · exact laws_no3 a b c w (Lib.hid hT) h1 h2 h3
    exact laws_yes a b c w (Lib.hid hT) h1 h2 h3
  refine hq.mono ?_
  rintro e w' ⟨rfl, n, rfl⟩
  exact ⟨rfl, rfl, rfl, rfl, Nat.le_refl _, fun _ _ => rfl⟩
end Go.Proofs.YtalkefmkophhiaaDoor
