/-
  Pages that are taken and given back: the lists behind; two maps compared.
  Conditions: none beyond those that each theorem names.
-/
import Derived.Test.YtfmjnjhocpoafaaE1
import Derived.ChangeKeysEq
import Derived.Laws.StructEq
namespace Go.Proofs.Ytfmjnjhocpoafaa
open Go.RowKit

theorem info24 : ∃ i, Try.prog.info? 24 = some i := Option.isSome_iff_exists.1 (show (Try.prog.info? 24).isSome = true by kernel_rfl)
theorem fields27 : (Try.prog.fieldsOf 27).toList.map (fun f => (f.name, f.type, f.offset)) = [("n", 3, 0), ("taken", 25, 1)] := by kernel_rfl
theorem eq_map (a b c : Int) (w : World) : (binOp .eql 27 (.agg #[.int .i64 a, .int .u64 b, .int .u64 c]) (.agg #[.int .i64 a, .int .u64 b, .int .u64 c])).run Try.prog w = .ok (.bool true) w := by
  obtain ⟨i, hi⟩ := info24
  have hu : Try.prog.underlying 27 = some (.struct (Try.prog.fieldsOf 27)) := by kernel_rfl
  have hs : Try.prog.stoodInHeld 27 = false := by kernel_rfl
  have hc : Try.prog.cellsOf 24 = 1 := by kernel_rfl
  rw [run_eql_struct, run_equalIn_struct w 9999 _ _ _ hu hs]
  have hf := fields27
  cases hq : (Try.prog.fieldsOf 27).toList with
  | nil => rw [hq] at hf; cases hf
  | cons f1 r =>
    cases r with
    | nil => rw [hq] at hf; simp at hf
    | cons f2 r =>
      cases r with
      | cons _ _ => rw [hq] at hf; simp at hf
      | nil =>
        rw [hq] at hf
        simp at hf
        obtain ⟨⟨n1, t1, o1⟩, n2, t2, o2⟩ := hf
        simp [Op.eqFields, n1, t1, o1, n2, t2, o2, part, go_sem, run_equalIn_array w _ _ _ Try.underlying25 hi, Op.eqItems, hc]

theorem ofF_length : ∀ (L : List Int) (l m : List Bool), ofF l L = some m → m.length = l.length
  | [], l, m, h => by cases h; rfl
  | i :: r, l, m, h => by
    rw [ofF] at h
    split at h
    · rw [ofF_length r _ m h, setL_length]
    · cases h
theorem ofR_length {n : Int} {L : List Int} {m : List Bool} (h : ofR n L = some m) : 1 ≤ n ∧ n ≤ 120 ∧ (m.length : Int) = n := by
  unfold ofR at h
  split at h
  · rename_i hn
    have := ofF_length L _ m h
    rw [List.length_replicate] at this
    omega
  · cases h

/-- Of m the pages of G at the places p are taken besides. -/
def IsT (m : List Bool) (G : List Nat) (p : Nat → Prop) (t : List Bool) : Prop :=
  t.length = m.length ∧ ∀ x : Nat, tk t (x : Int) = true ↔ tk m (x : Int) = true ∨ ∃ j, p j ∧ G[j]? = some x
theorem isT_take (m : List Bool) : ∀ k, k ≤ (fr m).length → IsT m ((fr m).take k) (fun _ => True) (takeL m k)
  | 0, _ => ⟨rfl, fun x => by simp [takeL]⟩
  | k + 1, h => by
    obtain ⟨h1, h2⟩ := isT_take m k (by omega)
    have hlt := fr_lt m k (by omega)
    refine ⟨takeL_length m (k + 1), fun x => ?_⟩
    rw [takeL, List.getD_eq_getElem?_getD, List.getElem?_eq_getElem (show k < (fr m).length by omega), Option.getD_some, tk_set _ _ _ _ (by rw [h1]; exact hlt)]
    constructor
    · intro hx
      split at hx
      · rename_i e
        refine .inr ⟨k, trivial, ?_⟩
        rw [List.getElem?_take_of_lt (by omega), List.getElem?_eq_getElem (by omega), e]
      · rcases (h2 x).1 hx with h' | ⟨j, _, hj⟩
        · exact .inl h'
        · refine .inr ⟨j, trivial, ?_⟩
          have hjk : j < k := by
            rw [List.getElem?_take] at hj
            split at hj
            · assumption
            · cases hj
          rw [List.getElem?_take_of_lt hjk] at hj
          rw [List.getElem?_take_of_lt (by omega)]
          exact hj
    · intro hx
      split
      · rfl
      · rename_i e
        refine (h2 x).2 ?_
        rcases hx with h' | ⟨j, _, hj⟩
        · exact .inl h'
        · have hjk : j < k + 1 := by
            rw [List.getElem?_take] at hj
            split at hj
            · assumption
            · cases hj
          rw [List.getElem?_take_of_lt hjk] at hj
          by_cases hk : j = k
          · subst hk
            rw [List.getElem?_eq_getElem (by omega)] at hj
            exact absurd (Option.some.inj hj) e
          · exact .inr ⟨j, trivial, by rw [List.getElem?_take_of_lt (by omega)]; exact hj⟩
theorem IsT.give {m t : List Bool} {G : List Nat} {p q : Nat → Prop} {k : Nat} (h : IsT m G p t) (hG : G.Nodup) (hk : k < G.length) (hlt : G[k] < m.length) (hf : tk m ((G[k] : Nat) : Int) = false)
    (hq : ∀ j, q j ↔ p j ∧ j ≠ k) : IsT m G q (t.set G[k] false) := by
  refine ⟨by rw [List.length_set]; exact h.1, fun x => ?_⟩
  rw [tk_set _ _ _ _ (by rw [h.1]; exact hlt)]
  by_cases e : G[k] = x
  · rw [if_pos e]
    constructor
    · intro h'; cases h'
    · rintro (h' | ⟨j, hj, hx⟩)
      · rw [← e, hf] at h'; cases h'
      · obtain ⟨_, hne⟩ := (hq j).1 hj
        obtain ⟨hj', hx'⟩ := List.getElem?_eq_some_iff.1 hx
        exact absurd ((List.getElem_inj hG).1 (hx'.trans e.symm)) hne
  · rw [if_neg e, h.2 x]
    constructor
    · rintro (h' | ⟨j, hj, hx⟩)
      · exact .inl h'
      · refine .inr ⟨j, (hq j).2 ⟨hj, ?_⟩, hx⟩
        rintro rfl
        rw [List.getElem?_eq_getElem hk] at hx
        exact e (Option.some.inj hx)
    · rintro (h' | ⟨j, hj, hx⟩)
      · exact .inl h'
      · exact .inr ⟨j, ((hq j).1 hj).1, hx⟩
theorem tk_ext {a b : List Bool} (hl : a.length = b.length) (h : ∀ x : Nat, tk a (x : Int) = true ↔ tk b (x : Int) = true) : a = b := by
  refine List.ext_getElem hl fun i h1 h2 => ?_
  have := h i
  rw [tk_nat, tk_nat, List.getD_eq_getElem?_getD, List.getD_eq_getElem?_getD, List.getElem?_eq_getElem h1, List.getElem?_eq_getElem h2, Option.getD_some, Option.getD_some] at this
  rw [Bool.eq_iff_iff]
  exact this
theorem IsT.none {m t : List Bool} {G : List Nat} {p : Nat → Prop} (h : IsT m G p t) (hp : ∀ j, j < G.length → ¬ p j) : t = m :=
  tk_ext h.1 fun x => by
    rw [h.2 x]
    constructor
    · rintro (h' | ⟨j, hj, hx⟩)
      · exact h'
      · exact absurd hj (hp j (List.getElem?_eq_some_iff.1 hx).1)
    · exact .inl
theorem IsT.mono {m t : List Bool} {G : List Nat} {p q : Nat → Prop} (h : IsT m G p t) (hp : ∀ j, j < G.length → (p j ↔ q j)) : IsT m G q t :=
  ⟨h.1, fun x => by
    rw [h.2 x]
    constructor
    · rintro (h' | ⟨j, hj, hx⟩)
      · exact .inl h'
      · exact .inr ⟨j, (hp j (List.getElem?_eq_some_iff.1 hx).1).1 hj, hx⟩
    · rintro (h' | ⟨j, hj, hx⟩)
      · exact .inl h'
      · exact .inr ⟨j, (hp j (List.getElem?_eq_some_iff.1 hx).1).2 hj, hx⟩⟩
theorem setLB {t : List Bool} {x : Nat} {b : Bool} (hx : x < t.length) (ht : tk t (x : Int) = !b) : setL t (x : Int) b = t.set x b ∧ setB t (x : Int) b = true := by
  unfold setL setB
  have : inB t (x : Int) = true := by unfold inB; simp; omega
  rw [this, ht]
  cases b <;> exact ⟨rfl, rfl⟩
/-- The places that are still taken behind i steps. -/
def left (turn : Bool) (n i j : Nat) : Prop := if turn then j + i < n else i ≤ j
/-- The place whose page is given back next. -/
def nextP (turn : Bool) (n i : Nat) : Nat := if turn then n - 1 - i else i
theorem left_step (turn : Bool) (n i j : Nat) (hi : i < n) : left turn n (i + 1) j ↔ left turn n i j ∧ j ≠ nextP turn n i := by
  unfold left nextP
  cases turn <;> simp <;> omega
/-- What is needed of the pages that Take took. -/
structure Got (m : List Bool) (G : List Nat) : Prop where
  nodup : G.Nodup
  lt : ∀ j (h : j < G.length), G[j] < m.length
  free : ∀ j (h : j < G.length), tk m ((G[j] : Nat) : Int) = false
theorem got_take (m : List Bool) (k : Nat) : Got m ((fr m).take k) := by
  refine ⟨(pg_nodup m false m.length).sublist (List.take_sublist _ _), fun j h => ?_, fun j h => ?_⟩
  · exact (pg_mem.1 (List.mem_of_mem_take (List.getElem_mem h))).1
  · exact (pg_mem.1 (List.mem_of_mem_take (List.getElem_mem h))).2
end Go.Proofs.Ytfmjnjhocpoafaa
