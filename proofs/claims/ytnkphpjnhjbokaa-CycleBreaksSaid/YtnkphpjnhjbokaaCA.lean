/-
  Walks over arcs, the least number of arcs of one; no program in it.
  Conditions: none beyond those that each theorem names.
-/
namespace Go.Proofs.Ytnkphpjnhjbokaa
set_option maxRecDepth 20000

abbrev Ar := Nat × Nat
/-- A walk of k arcs. -/
def Wlk (l : List Ar) : Nat → Nat → Nat → Prop
  | 0, a, b => a = b
  | k + 1, a, b => ∃ c, Wlk l k a c ∧ (c, b) ∈ l
theorem Wlk.add {l : List Ar} : ∀ {j i : Nat} {a b c : Nat}, Wlk l i a b → Wlk l j b c → Wlk l (i + j) a c
  | 0, _, _, _, _, h1, h2 => by
    have e : _ = _ := h2
    subst e
    exact h1
  | j + 1, _, _, _, _, h1, h2 => by
    obtain ⟨d, h3, h4⟩ := h2
    exact ⟨d, h1.add h3, h4⟩
theorem Wlk.one {l : List Ar} {a b : Nat} (h : (a, b) ∈ l) : Wlk l 1 a b := ⟨a, rfl, h⟩
theorem wlk_one {l : List Ar} {a b : Nat} : Wlk l 1 a b ↔ (a, b) ∈ l := ⟨fun ⟨c, h1, h2⟩ => by
  have e : a = c := h1
  subst e
  exact h2, Wlk.one⟩
/-- The first arc taken off. -/
theorem Wlk.head {l : List Ar} : ∀ {k a b : Nat}, Wlk l (k + 1) a b → ∃ c, (a, c) ∈ l ∧ Wlk l k c b
  | 0, a, b, h => ⟨b, wlk_one.1 h, rfl⟩
  | k + 1, a, b, h => by
    obtain ⟨c, h1, h2⟩ := h
    obtain ⟨d, h3, h4⟩ := Wlk.head h1
    exact ⟨d, h3, c, h4, h2⟩
theorem Wlk.part {l : List Ar} {a c : Nat} : ∀ (j : Nat) {i : Nat}, Wlk l (i + j) a c → ∃ b, Wlk l i a b ∧ Wlk l j b c
  | 0, _, h => ⟨c, h, rfl⟩
  | j + 1, _, h => by
    obtain ⟨d, h1, h2⟩ := h
    obtain ⟨b, h3, h4⟩ := Wlk.part j h1
    exact ⟨b, h3, d, h4, h2⟩
def turn (l : List Ar) : List Ar := l.map fun a => (a.2, a.1)
theorem mem_turn {l : List Ar} {a b : Nat} : (a, b) ∈ turn l ↔ (b, a) ∈ l := by
  unfold turn
  rw [List.mem_map]
  constructor
  · rintro ⟨⟨x, y⟩, h, e⟩
    injection e with e1 e2
    subst e1 e2
    exact h
  · intro h
    exact ⟨(b, a), h, rfl⟩
theorem wlk_turn {l : List Ar} : ∀ {k a b : Nat}, Wlk (turn l) k a b ↔ Wlk l k b a
  | 0, a, b => ⟨fun h => Eq.symm h, fun h => Eq.symm h⟩
  | k + 1, a, b => by
    constructor
    · rintro ⟨c, h1, h2⟩
      have h3 := wlk_turn.1 h1
      have h4 : Wlk l (1 + k) b a := (Wlk.one (mem_turn.1 h2)).add h3
      rwa [Nat.add_comm] at h4
    · intro h
      obtain ⟨c, h1, h2⟩ := h.head
      exact ⟨c, wlk_turn.2 h2, mem_turn.2 h1⟩
theorem wlk_congr {l m : List Ar} (h : ∀ a, a ∈ l ↔ a ∈ m) : ∀ {k a b : Nat}, Wlk l k a b ↔ Wlk m k a b
  | 0, _, _ => Iff.rfl
  | k + 1, a, b => by
    constructor
    · rintro ⟨c, h1, h2⟩
      exact ⟨c, (wlk_congr h).1 h1, (h _).1 h2⟩
    · rintro ⟨c, h1, h2⟩
      exact ⟨c, (wlk_congr h).2 h1, (h _).2 h2⟩
/-- k is the length of the shortest walk of one arc or more; 0: there is none. -/
def IsD (l : List Ar) (a b k : Nat) : Prop := (k = 0 ∧ ∀ j, 1 ≤ j → ¬ Wlk l j a b) ∨ (1 ≤ k ∧ Wlk l k a b ∧ ∀ j, 1 ≤ j → j < k → ¬ Wlk l j a b)
theorem IsD.uniq {l : List Ar} {a b k m : Nat} (h1 : IsD l a b k) (h2 : IsD l a b m) : k = m := by
  rcases h1 with ⟨rfl, h1⟩ | ⟨h1, h3, h4⟩ <;> rcases h2 with ⟨rfl, h2⟩ | ⟨h2, h5, h6⟩
  · rfl
  · exact absurd h5 (h1 _ h2)
  · exact absurd h3 (h2 _ h1)
  · rcases Nat.lt_trichotomy k m with h | h | h
    · exact absurd h3 (h6 k h1 h)
    · exact h
    · exact absurd h5 (h4 m h2 h)
theorem isD_turn {l : List Ar} {a b k : Nat} : IsD (turn l) a b k ↔ IsD l b a k := by
  unfold IsD
  simp only [wlk_turn]
theorem isD_congr {l m : List Ar} (h : ∀ a, a ∈ l ↔ a ∈ m) {a b k : Nat} : IsD l a b k ↔ IsD m a b k := by
  unfold IsD
  simp only [wlk_congr h]
/-- Numbers, none of them twice, all among others: no more of them. -/
theorem nodup_len : ∀ {s t : List Nat}, s.Nodup → (∀ x ∈ s, x ∈ t) → s.length ≤ t.length
  | [], _, _, _ => Nat.zero_le _
  | x :: s, t, hn, hs => by
    obtain ⟨h1, h2⟩ := List.nodup_cons.1 hn
    have hx := hs x List.mem_cons_self
    have h3 : ∀ y ∈ s, y ∈ t.erase x := fun y hy => (List.mem_erase_of_ne (show y ≠ x from fun e => h1 (e ▸ hy))).2 (hs y (List.mem_cons_of_mem _ hy))
    have h4 := nodup_len h2 h3
    rw [List.length_erase_of_mem hx] at h4
    have h5 := List.length_pos_of_mem hx
    simp only [List.length_cons]
    omega
/-- A shortest walk visits at each step somebody new: so it has no more arcs than there are. -/
theorem isD_le {l : List Ar} {a b k : Nat} (h : IsD l a b k) : k ≤ l.length := by
  rcases h with ⟨rfl, _⟩ | ⟨h1, h2, h3⟩
  · exact Nat.zero_le _
  -- for each step j from 1 to k somebody who is reached in j arcs, and in no fewer
  have key : ∀ n, n ≤ k → ∃ s : List Nat, s.length = n ∧ s.Nodup ∧ (∀ x ∈ s, x ∈ l.map (·.2)) ∧ ∀ x ∈ s, ∃ j, 1 ≤ j ∧ j ≤ n ∧ Wlk l j a x ∧ ∀ i, 1 ≤ i → i < j → ¬ Wlk l i a x := by
    intro n
    induction n with
    | zero => exact fun _ => ⟨[], rfl, List.nodup_nil, by simp, by simp⟩
    | succ n ih =>
      intro hn
      obtain ⟨s, e1, e2, e3, e4⟩ := ih (by omega)
      have h2' : Wlk l ((n + 1) + (k - (n + 1))) a b := by rw [show (n + 1) + (k - (n + 1)) = k by omega]; exact h2
      obtain ⟨x, hx1, hx2⟩ := Wlk.part _ h2'
      have hmin : ∀ i, 1 ≤ i → i < n + 1 → ¬ Wlk l i a x := fun i hi hin hw => h3 (i + (k - (n + 1))) (by omega) (by omega) (hw.add hx2)
      refine ⟨x :: s, by simp [e1], List.nodup_cons.2 ⟨fun hm => ?_, e2⟩, fun y hy => ?_, fun y hy => ?_⟩
      · obtain ⟨j, j1, j2, j3, _⟩ := e4 x hm
        exact hmin j j1 (by omega) j3
      · rcases List.mem_cons.1 hy with rfl | hy
        · obtain ⟨c, _, hc⟩ := hx1
          exact List.mem_map.2 ⟨_, hc, rfl⟩
        · exact e3 y hy
      · rcases List.mem_cons.1 hy with rfl | hy
        · exact ⟨n + 1, by omega, Nat.le_refl _, hx1, hmin⟩
        · obtain ⟨j, j1, j2, j3, j4⟩ := e4 y hy
          exact ⟨j, j1, by omega, j3, j4⟩
  obtain ⟨s, e1, e2, e3, _⟩ := key k (Nat.le_refl _)
  have := nodup_len e2 e3
  simp at this
  omega

/-! ### the document's Step, Far -/
def insU : List Nat → Nat → List Nat
  | [], n => [n]
  | x :: l, n => if n < x then n :: x :: l else x :: insU l n
def stepU : List Ar → List Nat → List Nat → List Nat
  | [], _, out => out
  | a :: l, row, out => stepU l row (if a.1 ∈ row ∧ a.2 ∉ out then insU out a.2 else out)
theorem mem_insU {n x : Nat} : ∀ {l : List Nat}, x ∈ insU l n ↔ x = n ∨ x ∈ l
  | [] => by simp [insU]
  | y :: l => by
    unfold insU
    split
    · simp
    · rw [List.mem_cons, mem_insU, List.mem_cons]
      constructor
      · rintro (h | h | h)
        · exact .inr (.inl h)
        · exact .inl h
        · exact .inr (.inr h)
      · rintro (h | h | h)
        · exact .inr (.inl h)
        · exact .inl h
        · exact .inr (.inr h)
theorem up_insU {n : Nat} : ∀ {l : List Nat}, l.Pairwise (· < ·) → n ∉ l → (insU l n).Pairwise (· < ·)
  | [], _, _ => by simp [insU]
  | y :: l, h, hn => by
    obtain ⟨h1, h2⟩ := List.pairwise_cons.1 h
    unfold insU
    split
    · rename_i hlt
      exact List.pairwise_cons.2 ⟨fun z hz => by
        rcases List.mem_cons.1 hz with rfl | hz
        · exact hlt
        · exact Nat.lt_trans hlt (h1 z hz), h⟩
    · rename_i hlt
      have hny : n ≠ y := fun e => hn (e ▸ List.mem_cons_self)
      refine List.pairwise_cons.2 ⟨fun z hz => ?_, up_insU h2 fun hm => hn (List.mem_cons_of_mem _ hm)⟩
      rcases mem_insU.1 hz with rfl | hz
      · omega
      · exact h1 z hz
theorem stepU_spec (row : List Nat) : ∀ (l : List Ar) (out : List Nat), out.Pairwise (· < ·) → (stepU l row out).Pairwise (· < ·) ∧ ∀ x, x ∈ stepU l row out ↔ x ∈ out ∨ ∃ c, c ∈ row ∧ (c, x) ∈ l
  | [], out, h => ⟨h, fun x => by simp [stepU]⟩
  | a :: l, out, h => by
    unfold stepU
    by_cases hc : a.1 ∈ row ∧ a.2 ∉ out
    · rw [if_pos hc]
      obtain ⟨h1, h2⟩ := stepU_spec row l (insU out a.2) (up_insU h hc.2)
      refine ⟨h1, fun x => (h2 x).trans ?_⟩
      rw [mem_insU]
      constructor
      · rintro ((rfl | hx) | ⟨c, hc1, hc2⟩)
        · exact .inr ⟨a.1, hc.1, List.mem_cons_self⟩
        · exact .inl hx
        · exact .inr ⟨c, hc1, List.mem_cons_of_mem _ hc2⟩
      · rintro (hx | ⟨c, hc1, hc2⟩)
        · exact .inl (.inr hx)
        · rcases List.mem_cons.1 hc2 with e | hc2
          · exact .inl (.inl (by rw [← e]))
          · exact .inr ⟨c, hc1, hc2⟩
    · rw [if_neg hc]
      obtain ⟨h1, h2⟩ := stepU_spec row l out h
      refine ⟨h1, fun x => (h2 x).trans ?_⟩
      constructor
      · rintro (hx | ⟨c, hc1, hc2⟩)
        · exact .inl hx
        · exact .inr ⟨c, hc1, List.mem_cons_of_mem _ hc2⟩
      · rintro (hx | ⟨c, hc1, hc2⟩)
        · exact .inl hx
        · rcases List.mem_cons.1 hc2 with e | hc2
          · refine .inl (Decidable.not_not.1 fun hno => hc ⟨by rw [← e]; exact hc1, by rw [← e]; exact hno⟩)
          · exact .inr ⟨c, hc1, hc2⟩
def rowU (l : List Ar) (a : Nat) : Nat → List Nat
  | 0 => [a]
  | k + 1 => stepU l (rowU l a k) []
theorem mem_rowU {l : List Ar} {a : Nat} : ∀ {k x : Nat}, x ∈ rowU l a k ↔ Wlk l k a x
  | 0, x => by
    unfold rowU Wlk
    rw [List.mem_singleton]
    exact eq_comm
  | k + 1, x => by
    unfold rowU
    rw [(stepU_spec _ l [] List.Pairwise.nil).2 x]
    constructor
    · rintro (h | ⟨c, h1, h2⟩)
      · cases h
      · exact ⟨c, mem_rowU.1 h1, h2⟩
    · rintro ⟨c, h1, h2⟩
      exact .inr ⟨c, mem_rowU.2 h1, h2⟩
/-- The document's Far. -/
def farU (l : List Ar) (a b : Nat) : Nat := (((List.range l.length).find? fun k => decide (b ∈ rowU l a (k + 1))).map (· + 1)).getD 0
theorem farU_is (l : List Ar) (a b : Nat) (hD : ∃ k, IsD l a b k) : IsD l a b (farU l a b) := by
  obtain ⟨k, hk⟩ := hD
  have hle := isD_le hk
  suffices h : farU l a b = k by rw [h]; exact hk
  unfold farU
  rcases hk with ⟨rfl, h1⟩ | ⟨h1, h2, h3⟩
  · have : ((List.range l.length).find? fun k => decide (b ∈ rowU l a (k + 1))) = none :=
      List.find?_eq_none.2 fun j _ => by simpa using fun h => h1 (j + 1) (by omega) (mem_rowU.1 h)
    rw [this]
    rfl
  · have : ((List.range l.length).find? fun k => decide (b ∈ rowU l a (k + 1))) = some (k - 1) := by
      rw [List.find?_eq_some_iff_getElem]
      refine ⟨?_, k - 1, by simp; omega, by simp, fun j hj => ?_⟩
      · rw [show k - 1 + 1 = k by omega]
        simpa using mem_rowU.2 h2
      · simpa using fun h => h3 (j + 1) (by omega) (by omega) (mem_rowU.1 h)
    rw [this]
    show k - 1 + 1 = k
    omega
/-- There is always a least number. -/
theorem isD_ex (l : List Ar) (a b : Nat) : ∃ k, IsD l a b k := by
  by_cases h : ∃ k, 1 ≤ k ∧ Wlk l k a b
  · obtain ⟨k, h1, h2⟩ := h
    have key : ∀ n k, k ≤ n → 1 ≤ k → Wlk l k a b → ∃ m, IsD l a b m := by
      intro n
      induction n with
      | zero => intro k h1 h2; omega
      | succ n ih =>
        intro k hk h1 h2
        by_cases hm : ∃ j, 1 ≤ j ∧ j < k ∧ Wlk l j a b
        · obtain ⟨j, j1, j2, j3⟩ := hm
          exact ih j (by omega) j1 j3
        · exact ⟨k, .inr ⟨h1, h2, fun j j1 j2 j3 => hm ⟨j, j1, j2, j3⟩⟩⟩
    exact key k k (Nat.le_refl _) h1 h2
  · exact ⟨0, .inl ⟨rfl, fun j hj hw => h ⟨j, hj, hw⟩⟩⟩
theorem farU_isD (l : List Ar) (a b : Nat) : IsD l a b (farU l a b) := farU_is l a b (isD_ex l a b)
end Go.Proofs.Ytnkphpjnhjbokaa
