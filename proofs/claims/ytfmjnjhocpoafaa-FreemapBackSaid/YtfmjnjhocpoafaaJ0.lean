/-
  Which lists of pages are a map's: what the law FreemapBack reckons, and what Of makes of them.
  Conditions: none beyond those that each theorem names.
-/
import Derived.Test.YtfmjnjhocpoafaaE2
namespace Go.Proofs.Ytfmjnjhocpoafaa
open Go.RowKit

/-- The first k numbers of the list are pages, each once. -/
def okB (n : Int) (L : List Int) : Nat → Bool
  | 0 => decide (1 ≤ n) && decide (n ≤ 120)
  | k + 1 => okB n L k && (decide (0 ≤ L.getD k 0) && decide (L.getD k 0 < n)) && (List.range k).all fun i => !(L.getD i 0 == L.getD k 0)
/-- .. and number k is one, none of the first j. -/
def okI (n : Int) (L : List Int) (k j : Nat) : Bool := okB n L k && (decide (0 ≤ L.getD k 0) && decide (L.getD k 0 < n)) && (List.range j).all fun i => !(L.getD i 0 == L.getD k 0)
theorem okI_all (n : Int) (L : List Int) (k : Nat) : okI n L k k = okB n L (k + 1) := rfl
theorem okI_zero (n : Int) (L : List Int) (k : Nat) : okI n L k 0 = (okB n L k && (decide (0 ≤ L.getD k 0) && decide (L.getD k 0 < n))) := by simp [okI]
theorem okI_succ (n : Int) (L : List Int) (k j : Nat) : okI n L k (j + 1) = (okI n L k j && !(L.getD j 0 == L.getD k 0)) := by
  unfold okI
  rw [List.range_succ, List.all_append]
  simp [Bool.and_assoc]
theorem getD_of {L : List Int} {k : Nat} (h : k < L.length) : L.getD k 0 = L[k] := by rw [List.getD_eq_getElem?_getD, List.getElem?_eq_getElem h]; rfl

theorem pg_count (m : List Bool) (x : Nat) (hx : x < m.length) (hf : tk m (x : Int) = false) : ∀ n, (pg (m.set x true) true n).length = (pg m true n).length + if x < n then 1 else 0
  | 0 => by simp [pg]
  | n + 1 => by
    have ih := pg_count m x hx hf n
    by_cases e : x = n
    · subst e
      rw [pg_yes (show tk (m.set x true) (x : Int) = true by rw [tk_set _ _ _ _ hx]; simp), pg_no (t := true) hf, List.length_append, ih]
      simp
    · have hs : tk (m.set x true) (n : Int) = tk m (n : Int) := by rw [tk_set _ _ _ _ hx, if_neg e]
      cases h : tk m (n : Int)
      · rw [pg_no (t := true) (show tk (m.set x true) (n : Int) = !true by rw [hs, h]; rfl), pg_no (t := true) (show tk m (n : Int) = !true from h), ih]
        congr 1
        by_cases h' : x < n
        · rw [if_pos h', if_pos (by omega)]
        · rw [if_neg h', if_neg (by omega)]
      · rw [pg_yes (show tk (m.set x true) (n : Int) = true by rw [hs, h]), pg_yes h, List.length_append, List.length_append, ih]
        by_cases h' : x < n
        · rw [if_pos h', if_pos (by omega)]
          simp
        · rw [if_neg h', if_neg (by omega)]
          simp
theorem tk_none (n x : Nat) : tk (List.replicate n false) (x : Int) = false := by
  rw [tk_nat, List.getD_eq_getElem?_getD, List.getElem?_replicate]
  split <;> rfl
theorem pg_none (n k : Nat) : pg (List.replicate n false) true k = [] := by
  rw [List.eq_nil_iff_forall_not_mem]
  intro x hx
  have := (pg_mem.1 hx).2
  rw [tk_none] at this
  cases this

/-- What the first k numbers make of the map. -/
structure OfK (n : Nat) (L : List Int) (k : Nat) (m : List Bool) : Prop where
  len : m.length = n
  is : ∀ x : Nat, tk m (x : Int) = true ↔ ∃ j, j < k ∧ L[j]? = some (x : Int)
  cnt : (pg m true n).length = k
  rest : ofF (List.replicate n false) L = ofF m (L.drop k)
theorem ofF_ok (n : Nat) (h1 : 1 ≤ n) (h2 : n ≤ 120) (L : List Int) : ∀ k, k ≤ L.length → (okB n L k = true ∧ ∃ m, OfK n L k m) ∨ (okB n L k = false ∧ ofF (List.replicate n false) L = none)
  | 0, _ => .inl ⟨by simp [okB]; omega, List.replicate n false, by simp, fun x => by rw [tk_none]; simp, by rw [pg_none]; rfl, by simp⟩
  | k + 1, hk => by
    rcases ofF_ok n h1 h2 L k (by omega) with ⟨ho, m, hm⟩ | ⟨ho, hr⟩
    · have hkl : k < L.length := by omega
      have hd : L.drop k = L[k] :: L.drop (k + 1) := List.drop_eq_getElem_cons hkl
      have hrest := hm.rest
      rw [hd, ofF] at hrest
      have hok : okB n L (k + 1) = ((decide (0 ≤ L[k]) && decide (L[k] < (n : Int))) && (List.range k).all fun i => !(L.getD i 0 == L[k])) := by
        rw [okB, ho, getD_of hkl]
        simp
      cases hs : setB m L[k] true with
      | true =>
        rw [hs, if_pos rfl] at hrest
        unfold setB at hs
        simp at hs
        obtain ⟨hin, htk⟩ := hs
        have hin' := hin
        unfold inB at hin'
        simp at hin'
        rw [hm.len] at hin'
        obtain ⟨x, hx⟩ : ∃ x : Nat, L[k] = (x : Int) := ⟨L[k].toNat, by omega⟩
        rw [hx] at htk hrest hin' hin
        have hxl : x < m.length := by rw [hm.len]; omega
        have hsl : setL m (x : Int) true = m.set x true := (setLB (b := true) hxl htk).1
        rw [hsl] at hrest
        have hnew : ∀ j, j < k → ¬ L[j]? = some (x : Int) := fun j hj he => by
          have := (hm.is x).2 ⟨j, hj, he⟩
          rw [htk] at this
          cases this
        refine .inl ⟨?_, m.set x true, by rw [List.length_set]; exact hm.len, fun y => ?_, ?_, hrest⟩
        · rw [hok, hx]
          simp
          refine ⟨by omega, fun i hi he => ?_⟩
          exact hnew i hi (by rw [List.getElem?_eq_getElem (by omega)] at he ⊢; simpa using he)
        · rw [tk_set _ _ _ _ hxl]
          constructor
          · intro hy
            split at hy
            · rename_i e
              exact ⟨k, by omega, by rw [List.getElem?_eq_getElem hkl, hx, e]⟩
            · obtain ⟨j, hj, he⟩ := (hm.is y).1 hy
              exact ⟨j, by omega, he⟩
          · rintro ⟨j, hj, he⟩
            split
            · rfl
            · rename_i e
              refine (hm.is y).2 ⟨j, ?_, he⟩
              rcases Nat.lt_or_ge j k with h | h
              · exact h
              · obtain rfl : j = k := by omega
                rw [List.getElem?_eq_getElem hkl, hx] at he
                exact absurd (by have := Option.some.inj he; omega) e
        · rw [pg_count m x hxl htk n, hm.cnt, if_pos (by rw [← hm.len]; exact hxl)]
      | false =>
        rw [hs] at hrest
        refine .inr ⟨?_, by simpa using hrest⟩
        rw [hok]
        unfold setB at hs
        cases hin : inB m L[k] with
        | false =>
          unfold inB at hin
          rw [hm.len] at hin
          rw [hin]
          rfl
        | true =>
          rw [hin] at hs
          simp at hs
          have hin' := hin
          unfold inB at hin'
          simp at hin'
          obtain ⟨x, hx⟩ : ∃ x : Nat, L[k] = (x : Int) := ⟨L[k].toNat, by omega⟩
          rw [hx] at hs ⊢
          obtain ⟨j, hj, he⟩ := (hm.is x).1 hs
          have : ((List.range k).all fun i => !(L.getD i 0 == (x : Int))) = false := by
            rw [List.all_eq_false]
            refine ⟨j, by simpa using hj, ?_⟩
            rw [List.getD_eq_getElem?_getD, he]
            simp
          rw [this]
          simp
    · refine .inr ⟨?_, hr⟩
      rw [okB, ho]
      rfl
theorem okB_bad (n : Int) (L : List Int) (h : ¬ (1 ≤ n ∧ n ≤ 120)) : ∀ k, okB n L k = false
  | 0 => by simp [okB]; omega
  | k + 1 => by rw [okB, okB_bad n L h k]; rfl
/-- What Of makes of a list of pages. -/
structure OfM (n : Int) (L : List Int) (m : List Bool) : Prop where
  len : (m.length : Int) = n
  is : ∀ x : Nat, tk m (x : Int) = true ↔ ∃ j : Nat, L[j]? = some (x : Int)
  cnt : (pg m true m.length).length = L.length
theorem ofR_ok (n : Int) (L : List Int) : (okB n L L.length = true ∧ ∃ m, ofR n L = some m ∧ OfM n L m) ∨ (okB n L L.length = false ∧ ofR n L = none) := by
  by_cases h : 1 ≤ n ∧ n ≤ 120
  · obtain ⟨k, rfl⟩ : ∃ k : Nat, n = (k : Int) := ⟨n.toNat, by omega⟩
    unfold ofR
    rw [if_pos h]
    rcases ofF_ok k (by omega) (by omega) L L.length (Nat.le_refl _) with ⟨ho, m, hm⟩ | ⟨ho, hr⟩
    · refine .inl ⟨ho, m, ?_, ?_, ?_, ?_⟩
      · rw [Int.toNat_natCast, hm.rest, List.drop_length]
        rfl
      · rw [hm.len]
      · intro x
        rw [hm.is x]
        constructor
        · rintro ⟨j, _, he⟩
          exact ⟨j, he⟩
        · rintro ⟨j, he⟩
          exact ⟨j, (List.getElem?_eq_some_iff.1 he).1, he⟩
      · rw [hm.len]
        exact hm.cnt
    · exact .inr ⟨ho, by rw [Int.toNat_natCast]; exact hr⟩
  · refine .inr ⟨okB_bad n L h _, ?_⟩
    unfold ofR
    rw [if_neg h]

/-- Is x among the first k? -/
def metB (L : List Int) (x : Int) (k : Nat) : Bool := (List.range k).any fun j => L.getD j 0 == x
theorem metB_zero (L : List Int) (x : Int) : metB L x 0 = false := rfl
theorem metB_succ (L : List Int) (x : Int) (k : Nat) : metB L x (k + 1) = (metB L x k || (L.getD k 0 == x)) := by
  unfold metB
  rw [List.range_succ, List.any_append]
  simp
theorem metB_of {L : List Int} {x : Int} {j : Nat} (h : L[j]? = some x) : metB L x L.length = true := by
  unfold metB
  rw [List.any_eq_true]
  refine ⟨j, by simpa using (List.getElem?_eq_some_iff.1 h).1, ?_⟩
  rw [List.getD_eq_getElem?_getD, h]
  simp
/-- The last number of a list, or -1. -/
def lastI (pre : List Nat) : Int := match pre.getLast? with
  | none => -1
  | some y => (y : Int)
theorem lastI_nil : lastI [] = -1 := rfl
theorem lastI_snoc (pre : List Nat) (x : Nat) : lastI (pre ++ [x]) = (x : Int) := by simp [lastI]
theorem pg_rises {l : List Bool} {t : Bool} {n x : Nat} {p : List Nat} (h : p ++ [x] <+: pg l t n) : lastI p < (x : Int) := by
  have hp : (pg l t n).Pairwise (· < ·) := List.Pairwise.filter _ List.pairwise_lt_range
  have hs := hp.sublist h.sublist
  rw [List.pairwise_append] at hs
  unfold lastI
  cases hl : p.getLast? with
  | none => simp; omega
  | some y =>
    have := hs.2.2 y (List.mem_of_getLast? hl) x (by simp)
    simp
    exact this
end Go.Proofs.Ytfmjnjhocpoafaa
