/-
  The document's joined and Join.
  Conditions: none beyond those that each theorem names.
-/
import Derived.Test.YtgjkbnplpioloaaX2
namespace Go.Proofs.Ytgjkbnplpioloaa
open Go.RowKit
attribute [local go_sem] Oper.semAt_some
set_option maxRecDepth 20000

/-- A cell of both boxes, or one that c has and neither, or has not and one has. -/
def badX (a b c : Bx) (x y : Nat) : Bool := (hasX a x y && hasX b x y) || ((hasX a x y || hasX b x y) != hasX c x y)
def joinedB (a b c : Bx) : Bool := (List.range 8).all fun x => (List.range 8).all fun y => !badX a b c x y
theorem joinedB_iff (a b c : Bx) : joinedB a b c = true ↔ ∀ x, x < 8 → ∀ y, y < 8 → badX a b c x y = false := by
  simp [joinedB]
theorem joinedB_no {a b c : Bx} {x y : Nat} (hx : x < 8) (hy : y < 8) (h : badX a b c x y = true) : joinedB a b c = false := by
  cases e : joinedB a b c with
  | false => rfl
  | true => rw [(joinedB_iff a b c).1 e x hx y hy] at h; cases h
/-- While the loops run. -/
structure JdS (w : World) (a b c : Bx) (y : World) : Prop where
  a : At y w.heap.size 26 (bxA a)
  b : At y (w.heap.size + 1) 26 (bxA b)
  c : At y (w.heap.size + 2) 26 (bxA c)
  bel : Below w.heap.size w y
theorem JdS.call {w y z : World} {a b c : Bx} (h : JdS w a b c y) (hb : Below y.heap.size y z) : JdS w a b c z := ⟨h.a.under hb h.a.lt, h.b.under hb h.b.lt, h.c.under hb h.c.lt, h.bel.trans (hb.mono h.bel.size)⟩
theorem JdS.start (w : World) (a b c : Bx) : JdS w a b c (((w.alloc (.cells (bxA a) 26)).alloc (.cells (bxA b) 26)).alloc (.cells (bxA c) 26)) := by
  refine ⟨((At.new w 26 (bxA a)).alloc _).alloc _, ?_, ?_, (((Below.refl _ w).alloc (Nat.le_refl _) _).alloc (by simp) _).alloc (by simp; omega) _⟩
  · have := (At.new (w.alloc (.cells (bxA a) 26)) 26 (bxA b)).alloc (.cells (bxA c) 26)
    rw [World.size_alloc] at this
    exact this
  · have := At.new ((w.alloc (.cells (bxA a) 26)).alloc (.cells (bxA b) 26)) 26 (bxA c)
    rw [World.size_alloc, World.size_alloc] at this
    exact this
set_option maxHeartbeats 6400000 in
theorem joined_any (a b c : Bx) (w : World) : Calls Try.prog 32 #[.agg (bxA a), .agg (bxA b), .agg (bxA c)] w (RetV w (.bool (joinedB a b c))) := by
  have HD0 := Lib.hid (JdS.start w a b c)
  go_enter Try.func32, Try.ntmps32
  go_upto_region 1 with fail
  generalize (((w.alloc (.cells (bxA a) 26)).alloc (.cells (bxA b) 26)).alloc (.cells (bxA c) 26)) = w1 at HD0 ⊢
  go_wp2_with fail
  go_loopw [7] (fun vi wr => ∃ k : Nat, k ≤ 8 ∧ vi = .int .i64 (k : Int) ∧ Hid (JdS w a b c wr) ∧ Hid (∀ x, x < k → ∀ y, y < 8 → badX a b c x y = false)) (fun i _ => 8 - (intOf i).toNat)
  case atStart => exact ⟨0, by omega, by go_num, HD0, Lib.hid (fun _ h => absurd h (Nat.not_lt_zero _))⟩
  case round =>
    obtain ⟨k, hk, rfl, HD1, HX⟩ := hrel
    by_cases hlt : k < 8
    · generalize wr = y1 at HD1 ⊢
      have hdk : decide ((k : Int) < 8) = true := by rw [decide_eq_true_eq]; omega
      go_wp2_with fail
      go_loopw [8] (fun vi wr => ∃ j : Nat, j ≤ 8 ∧ vi = .int .i64 (j : Int) ∧ Hid (JdS w a b c wr) ∧ Hid (∀ y, y < j → badX a b c k y = false)) (fun i _ => 8 - (intOf i).toNat)
      case atStart => exact ⟨0, by omega, by go_num, HD1, Lib.hid (fun _ h => absurd h (Nat.not_lt_zero _))⟩
      case round =>
        obtain ⟨j, hj, rfl, HD, HY⟩ := hrel
        generalize wr = y9 at HD ⊢
        by_cases hlj : j < 8
        · obtain ⟨ha, hha⟩ : ∃ q, hasX a (k : Int) (j : Int) = q := ⟨_, rfl⟩
          obtain ⟨hb, hhb⟩ : ∃ q, hasX b (k : Int) (j : Int) = q := ⟨_, rfl⟩
          obtain ⟨hc, hhc⟩ : ∃ q, hasX c (k : Int) (j : Int) = q := ⟨_, rfl⟩
          have HHA := Lib.hid hha
          have HHB := Lib.hid hhb
          have HHC := Lib.hid hhc
          have HBD : Hid (badX a b c k j = ((ha && hb) || ((ha || hb) != hc))) := by show _ = _; unfold badX; rw [hha, hhb, hhc]
          clear hha hhb hhc
          cases ha
          · cases hb
            · go_upto_region 7 with fail
              refine wp_region_held_drew (S := Below y9.heap.size y9) (by kernel_rfl) (Below.refl _ y9).drew (fun hS => ?_)
              refine tkS (v := .agg (bxA a)) 0 hS ?_ (hy := by intro wz hz; exact exec_load_at 26 (.tmp 3) rfl (w.heap.size) rfl (bxA a) 4 strXr rfl ((HD.out.a).under hz (HD.out.a).lt))
              refine tkS 1 hS ?_
              refine tkS 2 hS ?_
              refine wpAnyH_ready (rs := [3]) (by kernel_rfl) (by simp) ?_
              refine AllReadyH.cons rfl (fun K hK => ?_) AllReadyH.nil
              go_simp
              refine (rHas_any a (k : Int) (j : Int) _).mono ?_
              rintro e z3 ⟨rfl, hb2⟩
              rw [HHA.out]
              have hb : True := trivial
              have HS3 := Lib.hid (Below.trans hS (hb2.mono (Below.size hS)))
              clear hb2
              refine hK.out _ _ (HS3.out) (fun hT => ?_)
              clear hK hb hS
              have hS := hT
              clear hT
              refine tkS 4 hS ?_
              refine skS 5 hS ?_
              refine skS 6 hS ?_
              refine skS 7 hS ?_
              refine skS 8 hS ?_
              refine tkS 9 hS ?_
              refine tkS 10 hS ?_
              refine tkS (v := .agg (bxA a)) 11 hS ?_ (hy := by intro wz hz; exact exec_load_at 26 (.tmp 3) rfl (w.heap.size) rfl (bxA a) 4 strXr rfl ((HD.out.a).under hz (HD.out.a).lt))
              refine tkS 12 hS ?_
              refine tkS 13 hS ?_
              refine tkS (v := .agg (bxA c)) 21 hS ?_ (hy := by intro wz hz; exact exec_load_at 26 (.tmp 5) rfl (w.heap.size + 2) rfl (bxA c) 4 strXr rfl ((HD.out.c).under hz (HD.out.c).lt))
              refine tkS 22 hS ?_
              refine tkS 23 hS ?_
              refine wpAnyH_ready (rs := [14]) (by kernel_rfl) (by simp) ?_
              refine AllReadyH.cons rfl (fun K hK => ?_) AllReadyH.nil
              go_simp
              refine (rHas_any a (k : Int) (j : Int) _).mono ?_
              rintro e z14 ⟨rfl, hb2⟩
              rw [HHA.out]
              have hb : True := trivial
              have HS14 := Lib.hid (Below.trans hS (hb2.mono (Below.size hS)))
              clear hb2
              refine hK.out _ _ (HS14.out) (fun hT => ?_)
              clear hK hb hS
              have hS := hT
              clear hT
              refine tkS 15 hS ?_
              refine tkS (v := .agg (bxA b)) 16 hS ?_ (hy := by intro wz hz; exact exec_load_at 26 (.tmp 4) rfl (w.heap.size + 1) rfl (bxA b) 4 strXr rfl ((HD.out.b).under hz (HD.out.b).lt))
              refine tkS 17 hS ?_
              refine tkS 18 hS ?_
              refine wpAnyH_ready (rs := [19]) (by kernel_rfl) (by simp) ?_
              refine AllReadyH.cons rfl (fun K hK => ?_) AllReadyH.nil
              go_simp
              refine (rHas_any b (k : Int) (j : Int) _).mono ?_
              rintro e z19 ⟨rfl, hb2⟩
              rw [HHB.out]
              have hb : True := trivial
              have HS19 := Lib.hid (Below.trans hS (hb2.mono (Below.size hS)))
              clear hb2
              refine hK.out _ _ (HS19.out) (fun hT => ?_)
              clear hK hb hS
              have hS := hT
              clear hT
              refine tkS 20 hS ?_
              refine wpAnyH_ready (rs := [24]) (by kernel_rfl) (by simp) ?_
              refine AllReadyH.cons rfl (fun K hK => ?_) AllReadyH.nil
              go_simp
              refine (rHas_any c (k : Int) (j : Int) _).mono ?_
              rintro e z24 ⟨rfl, hb2⟩
              rw [HHC.out]
              have hb : True := trivial
              have HS24 := Lib.hid (Below.trans hS (hb2.mono (Below.size hS)))
              clear hb2
              refine hK.out _ _ (HS24.out) (fun hT => ?_)
              clear hK hb hS
              have hS := hT
              clear hT
              refine tkS 25 hS ?_
              refine tkS 26 hS ?_
              refine wpAnyH_done (by kernel_rfl) ?_ _
              have HD3 := Lib.hid (HD.out.call hS)
              clear hS
              cases hc
              · have HY3 : Hid (∀ y, y < j + 1 → badX a b c k y = false) := fun y hy => by
                  by_cases e : y = j
                  · subst e; rw [HBD.out] <;> rfl
                  · exact HY.out y (by omega)
                go_wp2_with fail
                go_round
                case rel => exact ⟨j + 1, by omega, by go_num, HD3, HY3⟩
                case measure => simp [intOf]; omega
              · have HE : Hid (joinedB a b c = false) := joinedB_no hlt hlj (by rw [HBD.out] <;> rfl)
                go_wp2_with fail
                go_ret
                exact ⟨by rw [HE.out] <;> rfl, HD3.out.bel⟩
            · go_upto_region 7 with fail
              refine wp_region_held_drew (S := Below y9.heap.size y9) (by kernel_rfl) (Below.refl _ y9).drew (fun hS => ?_)
              refine tkS (v := .agg (bxA a)) 0 hS ?_ (hy := by intro wz hz; exact exec_load_at 26 (.tmp 3) rfl (w.heap.size) rfl (bxA a) 4 strXr rfl ((HD.out.a).under hz (HD.out.a).lt))
              refine tkS 1 hS ?_
              refine tkS 2 hS ?_
              refine wpAnyH_ready (rs := [3]) (by kernel_rfl) (by simp) ?_
              refine AllReadyH.cons rfl (fun K hK => ?_) AllReadyH.nil
              go_simp
              refine (rHas_any a (k : Int) (j : Int) _).mono ?_
              rintro e z3 ⟨rfl, hb2⟩
              rw [HHA.out]
              have hb : True := trivial
              have HS3 := Lib.hid (Below.trans hS (hb2.mono (Below.size hS)))
              clear hb2
              refine hK.out _ _ (HS3.out) (fun hT => ?_)
              clear hK hb hS
              have hS := hT
              clear hT
              refine tkS 4 hS ?_
              refine skS 5 hS ?_
              refine skS 6 hS ?_
              refine skS 7 hS ?_
              refine skS 8 hS ?_
              refine tkS 9 hS ?_
              refine tkS 10 hS ?_
              refine tkS (v := .agg (bxA a)) 11 hS ?_ (hy := by intro wz hz; exact exec_load_at 26 (.tmp 3) rfl (w.heap.size) rfl (bxA a) 4 strXr rfl ((HD.out.a).under hz (HD.out.a).lt))
              refine tkS 12 hS ?_
              refine tkS 13 hS ?_
              refine tkS (v := .agg (bxA c)) 21 hS ?_ (hy := by intro wz hz; exact exec_load_at 26 (.tmp 5) rfl (w.heap.size + 2) rfl (bxA c) 4 strXr rfl ((HD.out.c).under hz (HD.out.c).lt))
              refine tkS 22 hS ?_
              refine tkS 23 hS ?_
              refine wpAnyH_ready (rs := [14]) (by kernel_rfl) (by simp) ?_
              refine AllReadyH.cons rfl (fun K hK => ?_) AllReadyH.nil
              go_simp
              refine (rHas_any a (k : Int) (j : Int) _).mono ?_
              rintro e z14 ⟨rfl, hb2⟩
              rw [HHA.out]
              have hb : True := trivial
              have HS14 := Lib.hid (Below.trans hS (hb2.mono (Below.size hS)))
              clear hb2
              refine hK.out _ _ (HS14.out) (fun hT => ?_)
              clear hK hb hS
              have hS := hT
              clear hT
              refine tkS 15 hS ?_
              refine tkS (v := .agg (bxA b)) 16 hS ?_ (hy := by intro wz hz; exact exec_load_at 26 (.tmp 4) rfl (w.heap.size + 1) rfl (bxA b) 4 strXr rfl ((HD.out.b).under hz (HD.out.b).lt))
              refine tkS 17 hS ?_
              refine tkS 18 hS ?_
              refine wpAnyH_ready (rs := [19]) (by kernel_rfl) (by simp) ?_
              refine AllReadyH.cons rfl (fun K hK => ?_) AllReadyH.nil
              go_simp
              refine (rHas_any b (k : Int) (j : Int) _).mono ?_
              rintro e z19 ⟨rfl, hb2⟩
              rw [HHB.out]
              have hb : True := trivial
              have HS19 := Lib.hid (Below.trans hS (hb2.mono (Below.size hS)))
              clear hb2
              refine hK.out _ _ (HS19.out) (fun hT => ?_)
              clear hK hb hS
              have hS := hT
              clear hT
              refine tkS 20 hS ?_
              refine wpAnyH_ready (rs := [24]) (by kernel_rfl) (by simp) ?_
              refine AllReadyH.cons rfl (fun K hK => ?_) AllReadyH.nil
              go_simp
              refine (rHas_any c (k : Int) (j : Int) _).mono ?_
              rintro e z24 ⟨rfl, hb2⟩
              rw [HHC.out]
              have hb : True := trivial
              have HS24 := Lib.hid (Below.trans hS (hb2.mono (Below.size hS)))
              clear hb2
              refine hK.out _ _ (HS24.out) (fun hT => ?_)
              clear hK hb hS
              have hS := hT
              clear hT
              refine tkS 25 hS ?_
              refine tkS 26 hS ?_
              refine wpAnyH_done (by kernel_rfl) ?_ _
              have HD3 := Lib.hid (HD.out.call hS)
              clear hS
              cases hc
              · have HE : Hid (joinedB a b c = false) := joinedB_no hlt hlj (by rw [HBD.out] <;> rfl)
                go_wp2_with fail
                go_ret
                exact ⟨by rw [HE.out] <;> rfl, HD3.out.bel⟩
              · have HY3 : Hid (∀ y, y < j + 1 → badX a b c k y = false) := fun y hy => by
                  by_cases e : y = j
                  · subst e; rw [HBD.out] <;> rfl
                  · exact HY.out y (by omega)
                go_wp2_with fail
                go_round
                case rel => exact ⟨j + 1, by omega, by go_num, HD3, HY3⟩
                case measure => simp [intOf]; omega
          · cases hb
            · go_upto_region 7 with fail
              refine wp_region_held_drew (S := Below y9.heap.size y9) (by kernel_rfl) (Below.refl _ y9).drew (fun hS => ?_)
              refine tkS (v := .agg (bxA a)) 0 hS ?_ (hy := by intro wz hz; exact exec_load_at 26 (.tmp 3) rfl (w.heap.size) rfl (bxA a) 4 strXr rfl ((HD.out.a).under hz (HD.out.a).lt))
              refine tkS 1 hS ?_
              refine tkS 2 hS ?_
              refine wpAnyH_ready (rs := [3]) (by kernel_rfl) (by simp) ?_
              refine AllReadyH.cons rfl (fun K hK => ?_) AllReadyH.nil
              go_simp
              refine (rHas_any a (k : Int) (j : Int) _).mono ?_
              rintro e z3 ⟨rfl, hb2⟩
              rw [HHA.out]
              have hb : True := trivial
              have HS3 := Lib.hid (Below.trans hS (hb2.mono (Below.size hS)))
              clear hb2
              refine hK.out _ _ (HS3.out) (fun hT => ?_)
              clear hK hb hS
              have hS := hT
              clear hT
              refine tkS 4 hS ?_
              refine tkS (v := .agg (bxA b)) 5 hS ?_ (hy := by intro wz hz; exact exec_load_at 26 (.tmp 4) rfl (w.heap.size + 1) rfl (bxA b) 4 strXr rfl ((HD.out.b).under hz (HD.out.b).lt))
              refine tkS 6 hS ?_
              refine tkS 7 hS ?_
              refine wpAnyH_ready (rs := [8]) (by kernel_rfl) (by simp) ?_
              refine AllReadyH.cons rfl (fun K hK => ?_) AllReadyH.nil
              go_simp
              refine (rHas_any b (k : Int) (j : Int) _).mono ?_
              rintro e z8 ⟨rfl, hb2⟩
              rw [HHB.out]
              have hb : True := trivial
              have HS8 := Lib.hid (Below.trans hS (hb2.mono (Below.size hS)))
              clear hb2
              refine hK.out _ _ (HS8.out) (fun hT => ?_)
              clear hK hb hS
              have hS := hT
              clear hT
              refine tkS 9 hS ?_
              refine tkS 10 hS ?_
              refine tkS (v := .agg (bxA a)) 11 hS ?_ (hy := by intro wz hz; exact exec_load_at 26 (.tmp 3) rfl (w.heap.size) rfl (bxA a) 4 strXr rfl ((HD.out.a).under hz (HD.out.a).lt))
              refine tkS 12 hS ?_
              refine tkS 13 hS ?_
              refine tkS (v := .agg (bxA c)) 21 hS ?_ (hy := by intro wz hz; exact exec_load_at 26 (.tmp 5) rfl (w.heap.size + 2) rfl (bxA c) 4 strXr rfl ((HD.out.c).under hz (HD.out.c).lt))
              refine tkS 22 hS ?_
              refine tkS 23 hS ?_
              refine wpAnyH_ready (rs := [14]) (by kernel_rfl) (by simp) ?_
              refine AllReadyH.cons rfl (fun K hK => ?_) AllReadyH.nil
              go_simp
              refine (rHas_any a (k : Int) (j : Int) _).mono ?_
              rintro e z14 ⟨rfl, hb2⟩
              rw [HHA.out]
              have hb : True := trivial
              have HS14 := Lib.hid (Below.trans hS (hb2.mono (Below.size hS)))
              clear hb2
              refine hK.out _ _ (HS14.out) (fun hT => ?_)
              clear hK hb hS
              have hS := hT
              clear hT
              refine tkS 15 hS ?_
              refine skS 16 hS ?_
              refine skS 17 hS ?_
              refine skS 18 hS ?_
              refine skS 19 hS ?_
              refine tkS 20 hS ?_
              refine wpAnyH_ready (rs := [24]) (by kernel_rfl) (by simp) ?_
              refine AllReadyH.cons rfl (fun K hK => ?_) AllReadyH.nil
              go_simp
              refine (rHas_any c (k : Int) (j : Int) _).mono ?_
              rintro e z24 ⟨rfl, hb2⟩
              rw [HHC.out]
              have hb : True := trivial
              have HS24 := Lib.hid (Below.trans hS (hb2.mono (Below.size hS)))
              clear hb2
              refine hK.out _ _ (HS24.out) (fun hT => ?_)
              clear hK hb hS
              have hS := hT
              clear hT
              refine tkS 25 hS ?_
              refine tkS 26 hS ?_
              refine wpAnyH_done (by kernel_rfl) ?_ _
              have HD3 := Lib.hid (HD.out.call hS)
              clear hS
              cases hc
              · have HE : Hid (joinedB a b c = false) := joinedB_no hlt hlj (by rw [HBD.out] <;> rfl)
                go_wp2_with fail
                go_ret
                exact ⟨by rw [HE.out] <;> rfl, HD3.out.bel⟩
              · have HY3 : Hid (∀ y, y < j + 1 → badX a b c k y = false) := fun y hy => by
                  by_cases e : y = j
                  · subst e; rw [HBD.out] <;> rfl
                  · exact HY.out y (by omega)
                go_wp2_with fail
                go_round
                case rel => exact ⟨j + 1, by omega, by go_num, HD3, HY3⟩
                case measure => simp [intOf]; omega
            · go_upto_region 7 with fail
              refine wp_region_held_drew (S := Below y9.heap.size y9) (by kernel_rfl) (Below.refl _ y9).drew (fun hS => ?_)
              refine tkS (v := .agg (bxA a)) 0 hS ?_ (hy := by intro wz hz; exact exec_load_at 26 (.tmp 3) rfl (w.heap.size) rfl (bxA a) 4 strXr rfl ((HD.out.a).under hz (HD.out.a).lt))
              refine tkS 1 hS ?_
              refine tkS 2 hS ?_
              refine wpAnyH_ready (rs := [3]) (by kernel_rfl) (by simp) ?_
              refine AllReadyH.cons rfl (fun K hK => ?_) AllReadyH.nil
              go_simp
              refine (rHas_any a (k : Int) (j : Int) _).mono ?_
              rintro e z3 ⟨rfl, hb2⟩
              rw [HHA.out]
              have hb : True := trivial
              have HS3 := Lib.hid (Below.trans hS (hb2.mono (Below.size hS)))
              clear hb2
              refine hK.out _ _ (HS3.out) (fun hT => ?_)
              clear hK hb hS
              have hS := hT
              clear hT
              refine tkS 4 hS ?_
              refine tkS (v := .agg (bxA b)) 5 hS ?_ (hy := by intro wz hz; exact exec_load_at 26 (.tmp 4) rfl (w.heap.size + 1) rfl (bxA b) 4 strXr rfl ((HD.out.b).under hz (HD.out.b).lt))
              refine tkS 6 hS ?_
              refine tkS 7 hS ?_
              refine wpAnyH_ready (rs := [8]) (by kernel_rfl) (by simp) ?_
              refine AllReadyH.cons rfl (fun K hK => ?_) AllReadyH.nil
              go_simp
              refine (rHas_any b (k : Int) (j : Int) _).mono ?_
              rintro e z8 ⟨rfl, hb2⟩
              rw [HHB.out]
              have hb : True := trivial
              have HS8 := Lib.hid (Below.trans hS (hb2.mono (Below.size hS)))
              clear hb2
              refine hK.out _ _ (HS8.out) (fun hT => ?_)
              clear hK hb hS
              have hS := hT
              clear hT
              refine tkS 9 hS ?_
              refine tkS 10 hS ?_
              refine skS 11 hS ?_
              refine skS 12 hS ?_
              refine skS 13 hS ?_
              refine skS 14 hS ?_
              refine skS 15 hS ?_
              refine skS 16 hS ?_
              refine skS 17 hS ?_
              refine skS 18 hS ?_
              refine skS 19 hS ?_
              refine skS 20 hS ?_
              refine skS 21 hS ?_
              refine skS 22 hS ?_
              refine skS 23 hS ?_
              refine skS 24 hS ?_
              refine skS 25 hS ?_
              refine tkS 26 hS ?_
              refine wpAnyH_done (by kernel_rfl) ?_ _
              have HD3 := Lib.hid (HD.out.call hS)
              clear hS
              · have HE : Hid (joinedB a b c = false) := joinedB_no hlt hlj (by rw [HBD.out] <;> rfl)
                go_wp2_with fail
                go_ret
                exact ⟨by rw [HE.out] <;> rfl, HD3.out.bel⟩
        · obtain rfl : j = 8 := by omega
          go_wp2_with fail
          go_round
          case rel => exact ⟨k + 1, by omega, by go_num, HD, Lib.hid fun x hx y hy => by
            by_cases e : x = k
            · subst e; exact HY.out y hy
            · exact HX.out x (by omega) y hy⟩
          case measure => simp [intOf]; omega
    · obtain rfl : k = 8 := by omega
      have HE : Hid (joinedB a b c = true) := (joinedB_iff a b c).2 HX.out
      go_wp2_with fail
      go_ret
      exact ⟨by rw [HE.out] <;> rfl, HD1.out.bel⟩
def hullX (a b : Bx) : Bx := ⟨if b.x0 < a.x0 then b.x0 else a.x0, if b.y0 < a.y0 then b.y0 else a.y0, if a.x1 < b.x1 then b.x1 else a.x1, if a.y1 < b.y1 then b.y1 else a.y1⟩
def rJoinX (a b : Bx) : Bx × Bool := if rightX a = false ∨ rightX b = false then (zbx, false) else (hullX a b, joinedB a b (hullX a b))
end Go.Proofs.Ytgjkbnplpioloaa
