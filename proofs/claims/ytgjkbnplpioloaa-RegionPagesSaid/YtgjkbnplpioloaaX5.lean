/-
  The mathematics of boxes: what two make together, halves.
  Conditions: none beyond those that each theorem names.
-/
import Derived.Test.YtgjkbnplpioloaaX4
namespace Go.Proofs.Ytgjkbnplpioloaa
open Go.RowKit
set_option maxRecDepth 20000

def HasP (b : Bx) (x y : Int) : Prop := b.x0 ≤ x ∧ x < b.x1 ∧ b.y0 ≤ y ∧ y < b.y1
theorem hasX_iff (b : Bx) (x y : Int) : hasX b x y = true ↔ HasP b x y := by simp [hasX, HasP]
theorem badX_no (a b c : Bx) (x y : Nat) : badX a b c x y = false ↔ ¬ (HasP a x y ∧ HasP b x y) ∧ ((HasP a x y ∨ HasP b x y) ↔ HasP c x y) := by
  unfold badX
  rw [← hasX_iff, ← hasX_iff, ← hasX_iff]
  cases hasX a x y <;> cases hasX b x y <;> cases hasX c x y <;> simp
theorem joined_all {a b c : Bx} (h : joinedB a b c = true) (x y : Int) (h1 : 0 ≤ x) (h2 : x < 8) (h3 : 0 ≤ y) (h4 : y < 8) : ¬ (HasP a x y ∧ HasP b x y) ∧ ((HasP a x y ∨ HasP b x y) ↔ HasP c x y) := by
  have := (badX_no a b c x.toNat y.toNat).1 ((joinedB_iff a b c).1 h x.toNat (by omega) y.toNat (by omega))
  rwa [Int.toNat_of_nonneg h1, Int.toNat_of_nonneg h3] at this
structure HuP (a b c : Bx) : Prop where
  x0 : c.x0 ≤ a.x0 ∧ c.x0 ≤ b.x0 ∧ (c.x0 = a.x0 ∨ c.x0 = b.x0)
  y0 : c.y0 ≤ a.y0 ∧ c.y0 ≤ b.y0 ∧ (c.y0 = a.y0 ∨ c.y0 = b.y0)
  x1 : a.x1 ≤ c.x1 ∧ b.x1 ≤ c.x1 ∧ (c.x1 = a.x1 ∨ c.x1 = b.x1)
  y1 : a.y1 ≤ c.y1 ∧ b.y1 ≤ c.y1 ∧ (c.y1 = a.y1 ∨ c.y1 = b.y1)
theorem hull_is (a b : Bx) : HuP a b (hullX a b) := by
  refine ⟨?_, ?_, ?_, ?_⟩ <;> simp only [hullX] <;> split <;> omega
theorem fol1_iff (a b : Bx) : fol1 a b = true ↔ b.x0 = a.x1 ∧ b.y0 = a.y0 ∧ b.y1 = a.y1 := by
  unfold fol1
  rw [sameX_iff]
  cases a; cases b
  simp
theorem fol2_iff (a b : Bx) : fol2 a b = true ↔ b.x0 = a.x0 ∧ b.y0 = a.y1 ∧ b.x1 = a.x1 := by
  unfold fol2
  rw [sameX_iff]
  cases a; cases b
  simp
theorem follows_iff (a b : Bx) : followsX a b = true ↔ (b.x0 = a.x1 ∧ b.y0 = a.y0 ∧ b.y1 = a.y1) ∨ (b.x0 = a.x0 ∧ b.y0 = a.y1 ∧ b.x1 = a.x1) := by
  unfold followsX
  rw [Bool.or_eq_true, fol1_iff, fol2_iff]
theorem follows_joined {a b : Bx} (ha : RtX a) (hb : RtX b) (h : followsX a b = true) : joinedB a b (hullX a b) = true ∧ hullX a b = spanX a b := by
  rw [follows_iff] at h
  obtain ⟨a1, a2, a3, a4, a5, a6⟩ := ha
  obtain ⟨b1, b2, b3, b4, b5, b6⟩ := hb
  have hu := hull_is a b
  generalize hullX a b = c at hu ⊢
  obtain ⟨u1, u2, u3, u4⟩ := hu
  have e : c = spanX a b := by
    obtain ⟨cx, cy, cX, cY⟩ := c
    simp only [spanX, Bx.mk.injEq]
    simp only at u1 u2 u3 u4
    omega
  refine ⟨(joinedB_iff _ _ _).2 fun x hx y hy => (badX_no _ _ _ _ _).2 ?_, e⟩
  subst e
  simp only [HasP, spanX]
  omega
theorem joinedB_comm (a b c : Bx) : joinedB a b c = joinedB b a c := by
  have : ∀ a b : Bx, joinedB a b c = true → joinedB b a c = true := fun a b h => by
    rw [joinedB_iff] at h ⊢
    intro x hx y hy
    have := h x hx y hy
    unfold badX at this ⊢
    rw [Bool.and_comm (hasX b x y), Bool.or_comm (hasX b x y)]
    exact this
  rw [Bool.eq_iff_iff]
  exact ⟨this a b, this b a⟩
theorem hull_comm (a b : Bx) : hullX a b = hullX b a := by
  have h1 := hull_is a b
  have h2 := hull_is b a
  generalize hullX a b = c at h1
  generalize hullX b a = d at h2
  obtain ⟨u1, u2, u3, u4⟩ := h1
  obtain ⟨v1, v2, v3, v4⟩ := h2
  obtain ⟨cx, cy, cX, cY⟩ := c
  obtain ⟨dx, dy, dX, dY⟩ := d
  simp only at u1 u2 u3 u4 v1 v2 v3 v4
  simp only [Bx.mk.injEq]
  omega
theorem joined_side {a b c : Bx} (ha : RtX a) (hb : RtX b) (hu : HuP a b c) (h : joinedB a b c = true) (hx : a.x1 ≤ b.x0) : followsX a b = true := by
  rw [follows_iff]
  obtain ⟨a1, a2, a3, a4, a5, a6⟩ := ha
  obtain ⟨b1, b2, b3, b4, b5, b6⟩ := hb
  obtain ⟨u1, u2, u3, u4⟩ := hu
  have h1 := joined_all h a.x0 c.y0 (by omega) (by omega) (by omega) (by omega)
  have h2 := joined_all h a.x0 (c.y1 - 1) (by omega) (by omega) (by omega) (by omega)
  have h3 := joined_all h b.x0 c.y0 (by omega) (by omega) (by omega) (by omega)
  have h4 := joined_all h b.x0 (c.y1 - 1) (by omega) (by omega) (by omega) (by omega)
  have h5 := joined_all h a.x1 a.y0 (by omega) (by omega) (by omega) (by omega)
  simp only [HasP] at h1 h2 h3 h4 h5
  have e1 : a.y0 = c.y0 := by omega
  have e2 : a.y1 = c.y1 := by omega
  have e3 : b.y0 = c.y0 := by omega
  have e4 : b.y1 = c.y1 := by omega
  have e5 : a.x1 = b.x0 := by omega
  omega
theorem joined_stack {a b c : Bx} (ha : RtX a) (hb : RtX b) (hu : HuP a b c) (h : joinedB a b c = true) (hx : a.y1 ≤ b.y0) : followsX a b = true := by
  rw [follows_iff]
  obtain ⟨a1, a2, a3, a4, a5, a6⟩ := ha
  obtain ⟨b1, b2, b3, b4, b5, b6⟩ := hb
  obtain ⟨u1, u2, u3, u4⟩ := hu
  have h1 := joined_all h c.x0 a.y0 (by omega) (by omega) (by omega) (by omega)
  have h2 := joined_all h (c.x1 - 1) a.y0 (by omega) (by omega) (by omega) (by omega)
  have h3 := joined_all h c.x0 b.y0 (by omega) (by omega) (by omega) (by omega)
  have h4 := joined_all h (c.x1 - 1) b.y0 (by omega) (by omega) (by omega) (by omega)
  have h5 := joined_all h a.x0 a.y1 (by omega) (by omega) (by omega) (by omega)
  simp only [HasP] at h1 h2 h3 h4 h5
  have e1 : a.x0 = c.x0 := by omega
  have e2 : a.x1 = c.x1 := by omega
  have e3 : b.x0 = c.x0 := by omega
  have e4 : b.x1 = c.x1 := by omega
  have e5 : a.y1 = b.y0 := by omega
  omega
theorem joined_follows {a b : Bx} (ha : RtX a) (hb : RtX b) (h : joinedB a b (hullX a b) = true) : followsX a b = true ∨ followsX b a = true := by
  have hu := hull_is a b
  have hv := hull_is b a
  rw [← hull_comm] at hv
  have h' := h
  rw [joinedB_comm] at h'
  have hd := (joined_all h (max a.x0 b.x0) (max a.y0 b.y0) (by have := ha.x0; omega) (by have := ha.x1; have := ha.x2; have := hb.x1; have := hb.x2; omega) (by have := ha.y0; omega) (by have := ha.y1; have := ha.y2; have := hb.y1; have := hb.y2; omega)).1
  have h4 : a.x1 ≤ b.x0 ∨ b.x1 ≤ a.x0 ∨ a.y1 ≤ b.y0 ∨ b.y1 ≤ a.y0 := by
    have := ha.x1; have := hb.x1; have := ha.y1; have := hb.y1
    simp only [HasP] at hd
    omega
  rcases h4 with h4 | h4 | h4 | h4
  · exact .inl (joined_side ha hb hu h h4)
  · exact .inr (joined_side hb ha hv h' h4)
  · exact .inl (joined_stack ha hb hu h h4)
  · exact .inr (joined_stack hb ha hv h' h4)
/-- What the program and the document say of two boxes. -/
theorem join_same (a b : Bx) : (joinX a b).2 = (rJoinX a b).2 ∧ ((joinX a b).2 = true → (joinX a b).1 = (rJoinX a b).1) := by
  unfold joinX rJoinX
  by_cases hr : rightX a = false ∨ rightX b = false
  · rw [if_pos hr, if_pos hr]
    exact ⟨rfl, fun h => by cases h⟩
  · rw [if_neg hr, if_neg hr]
    have ha : RtX a := (rightX_iff a).1 (by cases h : rightX a with | true => rfl | false => exact absurd (.inl h) hr)
    have hb : RtX b := (rightX_iff b).1 (by cases h : rightX b with | true => rfl | false => exact absurd (.inr h) hr)
    by_cases h1 : followsX a b = true
    · rw [if_pos h1]
      obtain ⟨e1, e2⟩ := follows_joined ha hb h1
      exact ⟨e1.symm, fun _ => e2.symm⟩
    · rw [if_neg h1]
      by_cases h2 : followsX b a = true
      · rw [if_pos h2]
        obtain ⟨e1, e2⟩ := follows_joined hb ha h2
        rw [hull_comm a b, joinedB_comm a b]
        exact ⟨e1.symm, fun _ => e2.symm⟩
      · rw [if_neg h2]
        refine ⟨?_, fun h => by cases h⟩
        cases hj : joinedB a b (hullX a b) with
        | false => rfl
        | true => rcases joined_follows ha hb hj with h | h <;> contradiction
/-! ### Halves -/
def wX (b : Bx) : Int := b.x1 - b.x0
def hX (b : Bx) : Int := b.y1 - b.y0
def loX (b : Bx) : Bx := if hX b ≤ wX b then ⟨b.x0, b.y0, b.x0 + wX b / 2, b.y1⟩ else ⟨b.x0, b.y0, b.x1, b.y0 + hX b / 2⟩
def hiX (b : Bx) : Bx := if hX b ≤ wX b then ⟨b.x0 + wX b / 2, b.y0, b.x1, b.y1⟩ else ⟨b.x0, b.y0 + hX b / 2, b.x1, b.y1⟩
def oneX (b : Bx) : Bool := decide (wX b < 2) && decide (hX b < 2)
def halvesX (b : Bx) : Bx × Bx × Bool := if oneX b = true then (b, b, false) else (loX b, hiX b, true)
theorem cells_right {b : Bx} (h : RtX b) : cellsX b = wX b * hX b := by unfold cellsX; rw [if_pos ((rightX_iff b).2 h)]; rfl
theorem cells_one {b : Bx} (h : RtX b) : (cellsX b < 2 ↔ oneX b = true) ∧ 1 ≤ cellsX b ∧ cellsX b ≤ 64 := by
  obtain ⟨a1, a2, a3, a4, a5, a6⟩ := h
  rw [cells_right ⟨a1, a2, a3, a4, a5, a6⟩]
  have hw : 1 ≤ wX b ∧ wX b ≤ 8 := by unfold wX; omega
  have hh : 1 ≤ hX b ∧ hX b ≤ 8 := by unfold hX; omega
  unfold oneX
  rw [Bool.and_eq_true, decide_eq_true_eq, decide_eq_true_eq]
  generalize wX b = p at hw
  generalize hX b = q at hh
  rcases (by omega : p = 1 ∨ p = 2 ∨ p = 3 ∨ p = 4 ∨ p = 5 ∨ p = 6 ∨ p = 7 ∨ p = 8) with rfl | rfl | rfl | rfl | rfl | rfl | rfl | rfl <;> omega
theorem halves_right {b : Bx} (h : RtX b) (h1 : oneX b = false) : RtX (loX b) ∧ RtX (hiX b) := by
  obtain ⟨a1, a2, a3, a4, a5, a6⟩ := h
  unfold oneX at h1
  rw [Bool.and_eq_false_iff, decide_eq_false_iff_not, decide_eq_false_iff_not] at h1
  unfold loX hiX
  unfold wX hX at *
  split <;> exact ⟨⟨by simp only; omega, by simp only; omega, by simp only; omega, by simp only; omega, by simp only; omega, by simp only; omega⟩, ⟨by simp only; omega, by simp only; omega, by simp only; omega, by simp only; omega, by simp only; omega, by simp only; omega⟩⟩
theorem halves_follow (b : Bx) : followsX (loX b) (hiX b) = true := by
  rw [follows_iff]
  unfold loX hiX
  split
  · exact .inl ⟨rfl, rfl, rfl⟩
  · exact .inr ⟨rfl, rfl, rfl⟩
theorem halves_join {b : Bx} (h : RtX b) (h1 : oneX b = false) : joinX (loX b) (hiX b) = (b, true) := by
  obtain ⟨hl, hh⟩ := halves_right h h1
  unfold joinX
  rw [if_neg (by rw [(rightX_iff _).2 hl, (rightX_iff _).2 hh]; decide), if_pos (halves_follow b)]
  congr 1
  unfold spanX loX hiX
  split <;> rfl
theorem halves_cells {b : Bx} (h : RtX b) (h1 : oneX b = false) : cellsX (loX b) + cellsX (hiX b) = cellsX b := by
  obtain ⟨hl, hh⟩ := halves_right h h1
  rw [cells_right hl, cells_right hh, cells_right h]
  obtain ⟨a1, a2, a3, a4, a5, a6⟩ := h
  unfold loX hiX
  split
  · show (b.x0 + wX b / 2 - b.x0) * (b.y1 - b.y0) + (b.x1 - (b.x0 + wX b / 2)) * (b.y1 - b.y0) = _
    rw [← Int.add_mul]
    unfold hX wX
    congr 1
    omega
  · show (b.x1 - b.x0) * (b.y0 + hX b / 2 - b.y0) + (b.x1 - b.x0) * (b.y1 - (b.y0 + hX b / 2)) = _
    rw [← Int.mul_add]
    unfold hX wX
    congr 1
    omega
theorem halves_has {b : Bx} (h : RtX b) (h1 : oneX b = false) (x y : Int) : (hasX (loX b) x y || hasX (hiX b) x y) = hasX b x y ∧ (hasX (loX b) x y && hasX (hiX b) x y) = false := by
  obtain ⟨hl, hh⟩ := halves_right h h1
  have e1 : (hasX (loX b) x y || hasX (hiX b) x y) = true ↔ hasX b x y = true := by
    rw [Bool.or_eq_true, hasX_iff, hasX_iff, hasX_iff]
    obtain ⟨a1, a2, a3, a4, a5, a6⟩ := hl
    obtain ⟨b1, b2, b3, b4, b5, b6⟩ := hh
    revert a1 a2 a3 a4 a5 a6 b1 b2 b3 b4 b5 b6
    unfold loX hiX HasP
    split <;> (simp only; omega)
  refine ⟨Bool.eq_iff_iff.2 e1, ?_⟩
  rw [Bool.eq_false_iff]
  intro h2
  rw [Bool.and_eq_true, hasX_iff, hasX_iff] at h2
  revert h2
  unfold loX hiX HasP
  split <;> (simp only; omega)
end Go.Proofs.Ytgjkbnplpioloaa
