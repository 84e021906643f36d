/-
  What a disk holds of a log behind a torn write, and behind zeros that were written in part.
-/
import Derived.Test.YthicidpdgggbjaaDoorK16Q
namespace Go.Proofs.YthicidpdgggbjaaDoor
open Go.RowKit
set_option maxRecDepth 8000

/-- The k-th sector of a log that begins at b. -/
theorem area_get {T : List Sect} {b sz : Nat} (k : Nat) : ((T.drop b).take sz)[k]? = if k < sz then T[b + k]? else none := by
  rw [List.getElem?_take]
  split
  · rw [List.getElem?_drop]
  · rfl
theorem area_upd {S : List Sect} {b sz : Nat} (hS : b + sz ≤ S.length) (q : Nat) (l : List Sect) (f : Nat → Bool) (k : Nat) :
    (((upd S (b + q) l f).drop b).take sz)[k]? = if k < sz then (if q ≤ k ∧ k - q < l.length ∧ f (k - q) = true then some (l.getD (k - q) zsec) else S[b + k]?) else none := by
  rw [area_get]
  by_cases hk : k < sz
  · rw [if_pos hk, if_pos hk, upd_get S _ l f _ (by omega)]
    have e : b + k - (b + q) = k - q := by omega
    rw [e]
    by_cases h : q ≤ k ∧ k - q < l.length ∧ f (k - q) = true
    · rw [if_pos h, if_pos ⟨by omega, h.2⟩]
    · rw [if_neg h, if_neg (fun g => h ⟨by omega, g.2⟩), List.getD_eq_getElem?_getD, List.getElem?_eq_getElem (show b + k < S.length by omega)]
      rfl
  · rw [if_neg hk, if_neg hk]
/-- The power goes while the sectors behind the entries are made zeros: what is whole stays whole, and nothing else comes. -/
theorem held_zero {S : List Sect} {es : List Ent} {kept : Nat → Bool} {b sz m : Nat} (hS : b + sz ≤ S.length) (hh : Held ((S.drop b).take sz) es kept) (hw : IsWhole es kept m) (q : Nat) (hq : q = pos (es.take m)) (f : Nat → Bool) :
    ∃ kept', Held (((upd S (b + q) (List.replicate (sz - q) zsec) f).drop b).take sz) es kept' ∧ IsWhole es kept' m := by
  refine ⟨fun k => kept k && !(decide (q ≤ k) && f (k - q)), ⟨fun k hk ht => ?_, fun k hk hf => ?_, fun k hk => ?_⟩, hw.le, fun k hk => ?_, fun h => ?_⟩
  · simp only [Bool.and_eq_true, Bool.not_eq_true', Bool.and_eq_false_iff, decide_eq_false_iff_not] at ht
    have h1 := hh.yes k hk ht.1
    rw [area_get] at h1
    rw [area_upd hS, ← h1]
    split
    · rw [if_neg (fun g => ht.2.elim (fun h => h g.1) (fun h => by rw [h] at g; cases g.2.2))]
    · rfl
  · rw [area_upd hS]
    by_cases hsz : k < sz
    · rw [if_pos hsz]
      by_cases h : q ≤ k ∧ k - q < (List.replicate (sz - q) zsec).length ∧ f (k - q) = true
      · rw [if_pos h]
        refine .inr ?_
        have h2 := h.2.1
        rw [List.length_replicate] at h2
        rw [List.getD_eq_getElem?_getD, List.getElem?_replicate, if_pos h2]
        rfl
      · rw [if_neg h]
        have hk0 : kept k = false := by
          cases hkk : kept k
          · rfl
          · rw [hkk] at hf
            simp only [Bool.true_and, Bool.not_eq_false', Bool.and_eq_true, decide_eq_true_eq] at hf
            exact absurd ⟨hf.1, by rw [List.length_replicate]; omega, hf.2⟩ h
        have h1 := hh.no k hk hk0
        rw [area_get, if_pos hsz] at h1
        exact h1
    · exact .inl (if_neg hsz)
  · rw [area_upd hS]
    by_cases hsz : k < sz
    · rw [if_pos hsz]
      have h1 := hh.rest k hk
      rw [area_get, if_pos hsz] at h1
      by_cases h : q ≤ k ∧ k - q < (List.replicate (sz - q) zsec).length ∧ f (k - q) = true
      · rw [if_pos h]
        refine .inr ?_
        have h2 := h.2.1
        rw [List.length_replicate] at h2
        rw [List.getD_eq_getElem?_getD, List.getElem?_replicate, if_pos h2]
        rfl
      · rw [if_neg h]
        exact h1
    · exact .inl (if_neg hsz)
  · have := hw.all k hk
    simp only [this, Bool.true_and, Bool.not_eq_true', Bool.and_eq_false_iff, decide_eq_false_iff_not]
    exact .inl (by omega)
  · obtain ⟨k, hk, hf⟩ := hw.stop h
    exact ⟨k, hk, by simp only [hf, Bool.false_and]⟩
/-- A log on its disk: the durable sectors of its entries, zeros behind them. -/
structure OnDisk (S : List Sect) (b sz : Nat) (es : List Ent) (fo : Nat) : Prop where
  room : b + sz ≤ S.length
  fit : pos es ≤ sz
  low : fo ≤ pos es
  here : ∀ k, k < fo → S[b + k]? = (lay es 0)[k]?
  zero : ∀ k, fo ≤ k → k < sz → S[b + k]? = some zsec
/-- The power goes while what waits is forced. -/
theorem OnDisk.torn {S : List Sect} {b sz fo : Nat} {es : List Ent} (h : OnDisk S b sz es fo) (keep : List Bool) :
    Held (((upd S (b + fo) ((lay es 0).drop fo) (fun j => keep.getD j false)).drop b).take sz) es (kfW fo keep) := by
  have hl : ((lay es 0).drop fo).length = pos es - fo := by rw [List.length_drop, lay_length]
  have hfit := h.fit
  refine ⟨fun k hk ht => ?_, fun k hk hf => ?_, fun k hk => ?_⟩
  · rw [area_upd h.room, if_pos (by omega)]
    by_cases h1 : k < fo
    · rw [if_neg (by omega)]
      exact h.here k h1
    · have h2 : keep.getD (k - fo) false = true := by simpa [kfW, h1] using ht
      rw [if_pos ⟨by omega, by rw [hl]; omega, h2⟩, List.getD_eq_getElem?_getD, List.getElem?_drop, show fo + (k - fo) = k by omega, List.getElem?_eq_getElem (by rw [lay_length]; exact hk)]
      rfl
  · have h1 : ¬ k < fo := fun h1 => by rw [kfW_lo keep h1] at hf; cases hf
    have h2 : keep.getD (k - fo) false = false := by simpa [kfW, h1] using hf
    rw [area_upd h.room, if_pos (by omega), if_neg (fun g => by rw [h2] at g; cases g.2.2)]
    exact .inr (h.zero k (by omega) (by omega))
  · rw [area_upd h.room]
    by_cases hsz : k < sz
    · rw [if_pos hsz, if_neg (fun g => by rw [hl] at g; omega)]
      exact .inr (h.zero k (by have := h.low; omega) hsz)
    · exact .inl (if_neg hsz)
/-- All that waits is forced. -/
theorem OnDisk.forced {S : List Sect} {b sz fo : Nat} {es : List Ent} (h : OnDisk S b sz es fo) : OnDisk (upd S (b + fo) ((lay es 0).drop fo) (fun _ => true)) b sz es (pos es) := by
  have hl : ((lay es 0).drop fo).length = pos es - fo := by rw [List.length_drop, lay_length]
  have key := fun k (hk : k < sz) => area_upd h.room fo ((lay es 0).drop fo) (fun _ => true) k
  refine ⟨by rw [upd_length]; exact h.room, h.fit, Nat.le_refl _, fun k hk => ?_, fun k h1 h2 => ?_⟩
  · have hsz : k < sz := by have := h.fit; omega
    have e := key k hsz
    rw [area_get, if_pos hsz, if_pos hsz] at e
    rw [e]
    by_cases h3 : k < fo
    · rw [if_neg (by omega)]
      exact h.here k h3
    · rw [if_pos ⟨by omega, by rw [hl]; omega, rfl⟩, List.getD_eq_getElem?_getD, List.getElem?_drop, show fo + (k - fo) = k by omega, List.getElem?_eq_getElem (by rw [lay_length]; exact hk)]
      rfl
  · have e := key k h2
    rw [area_get, if_pos h2, if_pos h2] at e
    rw [e, if_neg (fun g => by rw [hl] at g; omega)]
    exact h.zero k (by have := h.low; omega) h2
end Go.Proofs.YthicidpdgggbjaaDoor
