/-
  The mathematics of the laws: a page that is read back, a chain of one page.
  Conditions: none beyond those that each theorem names.
-/
import Derived.Test.YtgjkbnplpioloaaB25
namespace Go.Proofs.Ytgjkbnplpioloaa
open Go.RowKit
set_option maxRecDepth 20000

theorem vl_cons (b : UInt8) (m : List UInt8) : vl 1 (b :: m, false) = b.toNat := by
  have := tk_app (l := [b]) (m := m) (k := 1) rfl
  rw [vl, show (b :: m, false) = ([b] ++ m, false) from rfl, this, getN_one]
theorem nx_cons (b : UInt8) (m : List UInt8) : nx 1 (b :: m, false) = (m, false) := nx_app (l := [b]) (m := m) (k := 1) rfl
theorem qs_recs (m : List UInt8) : ∀ (l : List Rc), (∀ r ∈ l, r.ok) → ∀ k, k ≤ l.length → (qs (recsB l ++ m, false) k).2 = false ∧ ∀ (hk : k < l.length), rrRec (qs (recsB l ++ m, false) k) = l[k]
  | [], _, k, hk => by
    obtain rfl : k = 0 := by simpa using hk
    exact ⟨rfl, fun h => absurd h (Nat.not_lt_zero _)⟩
  | r :: l, h, k, hk => by
    have h1 := h r (by simp)
    have e : recsB (r :: l) ++ m = recL r ++ (recsB l ++ m) := by simp [recsB]
    obtain ⟨a2, a3⟩ := rr_put r (recsB l ++ m) h1
    have step : ∀ j, qs (recsB (r :: l) ++ m, false) (j + 1) = qs (recsB l ++ m, false) j := by
      intro j
      induction j with
      | zero => show q4 (recsB (r :: l) ++ m, false) = _; rw [e, a3]; rfl
      | succ j ih => show q4 (qs _ (j + 1)) = q4 (qs _ j); rw [ih]
    match k, hk with
    | 0, _ => exact ⟨rfl, fun _ => by show rrRec (recsB (r :: l) ++ m, false) = r; rw [e]; exact a2⟩
    | k + 1, hk =>
      have := qs_recs m l (fun x hx => h x (by simp [hx])) k (by simpa using hk)
      rw [step]
      exact ⟨this.1, fun h' => this.2 (by simpa using h')⟩
theorem pageP_list (n : Nat) (l : List Rc) (h : Fits l) : (pageP n l).toList = UInt8.ofNat 82 :: UInt8.ofNat n :: UInt8.ofNat l.length :: (recsB l ++ List.replicate (224 - (pageB8 n l).length) 0) := by
  have h1 := recsB_length l
  have h2 := h.1
  unfold pageP
  rw [padPg_toList _ (by rw [pageB8, List.length_append, h1]; simp [hdB]; omega)]
  simp [pageB8, hdB]
/-- A page of a region is read as it was put. -/
theorem read_back (n : Nat) (l : List Rc) (h : Fits l) (hn : n < 256) : rdOk (pageP n l) = true ∧ rdNext (pageP n l) = n ∧ rdRecs (pageP n l) = l := by
  have hl := h.1
  have e0 := pageP_list n l h
  generalize List.replicate (224 - (pageB8 n l).length) (0 : UInt8) = m at e0
  have p0 : pS (pageP n l) = (UInt8.ofNat 82 :: UInt8.ofNat n :: UInt8.ofNat l.length :: (recsB l ++ m), false) := by unfold pS; rw [e0]
  have p1 : s1 (pageP n l) = (UInt8.ofNat n :: UInt8.ofNat l.length :: (recsB l ++ m), false) := by unfold s1; rw [p0, nx_cons]
  have p2 : s2 (pageP n l) = (UInt8.ofNat l.length :: (recsB l ++ m), false) := by unfold s2; rw [p1, nx_cons]
  have p3 : s3 (pageP n l) = (recsB l ++ m, false) := by unfold s3; rw [p2, nx_cons]
  have c : rdCnt (pageP n l) = l.length := by unfold rdCnt; rw [p2, vl_cons, toNat_ofNat (by omega)]
  refine ⟨?_, by unfold rdNext; rw [p1, vl_cons, toNat_ofNat hn], ?_⟩
  · unfold rdOk rdKind
    rw [p0, vl_cons, p3, c, (qs_recs m l h.2 l.length (Nat.le_refl _)).1]
    rfl
  · unfold rdRecs recsK
    rw [p3, c]
    refine List.ext_getElem (by simp) fun j h1 h2 => ?_
    rw [List.getElem_map, List.getElem_range]
    exact (qs_recs m l h.2 j (Nat.le_of_lt h2)).2 h2
/-- The second byte of a page is the number of the next one. -/
theorem rdNext_byte (p : Pg) : rdNext p = (p.toList.getD 1 0).toNat := by
  have hl : p.toList.length = 224 := Vector.length_toList
  match hp : p.toList, hl with
  | a :: b :: c :: m, _ =>
    have p0 : pS p = (a :: b :: c :: m, false) := by unfold pS; rw [hp]
    unfold rdNext s1
    rw [p0, nx_cons, vl_cons]
    rfl
/-- A chain of one page, of which at tells nothing behind it. -/
theorem one_get {p : Pg} {k : Nat} (h : GetAt (fun n => (p, decide (n = 3))) 3 k) : k = 1 ∧ rdNext p = 0 ∧ putG [3] (rdRecs p) = [⟨3, p⟩] := by
  obtain ⟨_, _, h1, h2, h3⟩ := h
  have hk0 : k ≠ 0 := by rintro rfl; exact absurd h2 (by show ¬ (3 : Int) = 0; omega)
  have hn : ∀ j, gN (fun n => (p, decide (n = 3))) 3 (j + 1) = (rdNext p : Int) := fun j => rfl
  have hk1 : k = 1 := by
    apply Classical.byContradiction
    intro hne
    obtain ⟨a, b, _⟩ := h1 1 (by omega)
    obtain ⟨j, rfl⟩ : ∃ j, k = j + 1 := ⟨k - 1, by omega⟩
    rw [hn] at h2
    rw [hn] at a
    exact a h2
  subst hk1
  rw [hn] at h2
  refine ⟨rfl, by omega, ?_⟩
  simpa [gPs, gRs, gIm, gN, List.range_succ] using h3
end Go.Proofs.Ytgjkbnplpioloaa
