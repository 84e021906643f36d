/-
  slices.Equal of images.
  Conditions: at most 100000 images.
-/
import Derived.Test.YtgjkbnplpioloaaB19
namespace Go.Proofs.Ytgjkbnplpioloaa
open Go.RowKit
attribute [local go_sem] Oper.semAt_some
set_option maxRecDepth 20000

/-- Whether two rows are equal. -/
def RetEq (w : World) (a b : List Im) (e : Ending) (z : World) : Prop := ∃ q : Bool, e = .returned (.bool q) ∧ (q = true ↔ a = b) ∧ Below w.heap.size w z
set_option maxHeartbeats 1600000 in
theorem EqI_any (A1 A2 : Option Addr) (n1 n2 c1 c2 : Nat) (a b : List Im) (w : World) (h1 : LI w w.heap.size A1 n1 a) (h2 : LI w w.heap.size A2 n2 b) (hn : n1 ≤ 100000) (hn2 : n2 ≤ 100000) :
    Calls Try.prog 46 #[.slice A1 n1 c1, .slice A2 n2 c2] w (RetEq w a b) := by
  have HL1 := Lib.hid h1
  have HL2 := Lib.hid h2
  have HN1 := Lib.hid h1.len
  have HN2 := Lib.hid h2.len
  clear h1 h2
  by_cases hne : n1 = n2
  · subst hne
    go_enter Try.func46, Try.ntmps46
    go_wp2_with fail
    go_loopw [13] (fun vi wr => ∃ k : Nat, k ≤ n1 ∧ vi = .int .i64 (k : Int) ∧ Hid (Below w.heap.size w wr) ∧ Hid (∀ (j : Nat) (h1 : j < a.length) (h2 : j < b.length), j < k → a[j] = b[j])) (fun i _ => n1 - (intOf i).toNat)
    case atStart => exact ⟨0, Nat.zero_le _, by go_num, Lib.hid (Below.refl _ w), Lib.hid (fun _ _ _ h => absurd h (Nat.not_lt_zero _))⟩
    case round =>
      obtain ⟨k, hk, rfl, HB, HS⟩ := hrel
      by_cases hlt : k < n1
      · obtain ⟨g1, o1, hl1, rfl, hb1, hc1⟩ := HL1.out.at hlt
        obtain ⟨g2, o2, hl2, rfl, hb2, hc2⟩ := HL2.out.at hlt
        obtain ⟨x, hx⟩ : ∃ x, a[k] = x := ⟨_, rfl⟩
        obtain ⟨y, hy⟩ : ∃ y, b[k] = y := ⟨_, rfl⟩
        rw [hx] at hc1
        rw [hy] at hc2
        have HX := Lib.hid hx
        have HY := Lib.hid hy
        have R1 : Hid (∀ wz, Below wr.heap.size wr wz → wz.rangeAt g1 (o1 + k * 225) (imL x)) := fun wz hz => pl_rangeAt_block hc1 ((HB.out.trans (hz.mono HB.out.size)).block g1 hb1)
        have R2 : Hid (∀ wz, Below wr.heap.size wr wz → wz.rangeAt g2 (o2 + k * 225) (imL y)) := fun wz hz => pl_rangeAt_block hc2 ((HB.out.trans (hz.mono HB.out.size)).block g2 hb2)
        clear hx hy hc1 hc2 hb1 hb2
        go_upto_region 6 with fail
        refine wp_region_held_drew (S := Below wr.heap.size wr) (by kernel_rfl) (Below.refl _ wr).drew (fun hS => ?_)
        refine tkS 0 hS ?_
        refine tkS 1 hS ?_
        refine tkS 2 hS ?_
        refine tkS (v := .agg (imA x)) 3 hS ?_ (hy := by intro wz hz; exact exec_load_im (.tmp 18) rfl g1 (o1 + k * 225) rfl x (R1.out wz hz))
        refine tkS 4 hS ?_
        refine tkS 5 hS ?_
        refine tkS 6 hS ?_
        refine tkS (v := .agg (imA y)) 7 hS ?_ (hy := by intro wz hz; exact exec_load_im (.tmp 22) rfl g2 (o2 + k * 225) rfl y (R2.out wz hz))
        refine tkS (v := .bool (!(sameI x y))) 8 hS ?_ (hy := by intro wz hz; exact exec_neq_im (.tmp 19) (.tmp 23) rfl x y wz rfl rfl)
        refine wpAnyH_done (by kernel_rfl) ?_ _
        have HB3 := Lib.hid (HB.out.trans (hS.mono HB.out.size))
        clear hS
        obtain ⟨q, hq⟩ : ∃ q, sameI x y = q := ⟨_, rfl⟩
        have HQ := Lib.hid hq
        rw [hq]
        clear hq
        cases q
        · go_wp2_with fail
          go_ret
          exact ⟨false, rfl, ⟨fun h => (by cases h), fun h => by
            have hxy : x = y := by rw [← HX.out, ← HY.out]; simp only [h]
            have := HQ.out
            rw [hxy, (sameI_iff y y).2 rfl] at this
            cases this⟩, HB3.out⟩
        · have hxy : x = y := (sameI_iff x y).1 HQ.out
          have HXY := Lib.hid hxy
          clear hxy
          go_wp2_with fail
          go_round
          case rel => exact ⟨k + 1, by omega, by go_num, HB3, Lib.hid fun j h1 h2 hj => by
            by_cases e : j = k
            · subst e
              rw [HX.out, HY.out, HXY.out]
            · exact HS.out j h1 h2 (by omega)⟩
          case measure => simp [intOf]; omega
      · obtain rfl : k = n1 := by omega
        go_wp2_with fail
        go_ret
        exact ⟨true, rfl, ⟨fun _ => List.ext_getElem (by rw [HN1.out, HN2.out]) (fun j h1 h2 => HS.out j h1 h2 (by have := HN1.out; omega)), fun _ => rfl⟩, HB.out⟩
  · have hne2 : ¬ ((n1 : Int) = (n2 : Int)) := by omega
    go_enter Try.func46, Try.ntmps46
    go_wp2_with fail
    go_ret
    exact ⟨false, rfl, ⟨fun h => (by cases h), fun h => absurd (by rw [← HN1.out, ← HN2.out, h]) hne⟩, Below.refl _ _⟩
end Go.Proofs.Ytgjkbnplpioloaa
