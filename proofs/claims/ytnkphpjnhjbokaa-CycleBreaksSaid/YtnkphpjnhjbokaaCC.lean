/-
  The shortest way round, the least of several; the document's Round, Reach; no program in it.
  Conditions: none beyond those that each theorem names.
-/
import Derived.Test.YtnkphpjnhjbokaaCB
namespace Go.Proofs.Ytnkphpjnhjbokaa
set_option maxRecDepth 20000

/-- The first of a rising list with a property is the least. -/
theorem find_least {l : List Nat} {p : Nat → Bool} (h : l.Pairwise (· ≤ ·)) {m : Nat} (hf : l.find? p = some m) : m ∈ l ∧ p m = true ∧ ∀ x ∈ l, p x = true → m ≤ x := by
  obtain ⟨h1, i, hi, h2, h3⟩ := List.find?_eq_some_iff_getElem.1 hf
  subst h2
  refine ⟨List.getElem_mem hi, h1, fun x hx hp => ?_⟩
  obtain ⟨j, hj, rfl⟩ := List.getElem_of_mem hx
  rcases Nat.lt_trichotomy i j with hij | hij | hij
  · exact List.pairwise_iff_getElem.1 h i j hi hj hij
  · subst hij
    exact Nat.le_refl _
  · have := h3 j hij
    rw [hp] at this
    cases this
theorem find_same {l m : List Nat} {p : Nat → Bool} (hl : l.Pairwise (· ≤ ·)) (hm : m.Pairwise (· ≤ ·)) (h : ∀ x, x ∈ l ↔ x ∈ m) : l.find? p = m.find? p := by
  cases h1 : l.find? p with
  | none =>
    symm
    exact List.find?_eq_none.2 fun x hx => List.find?_eq_none.1 h1 x ((h x).2 hx)
  | some a =>
    obtain ⟨a1, a2, a3⟩ := find_least hl h1
    cases h2 : m.find? p with
    | none => exact absurd a2 (by simpa using List.find?_eq_none.1 h2 a ((h a).1 a1))
    | some b =>
      obtain ⟨b1, b2, b3⟩ := find_least hm h2
      have := a3 b ((h b).2 b1) b2
      have := b3 a ((h a).1 a1) a2
      rw [show a = b by omega]
/-- The program's way: who comes behind somebody, with so many arcs left. -/
def pathI (g : List Ar) (d : Nat → Nat) : Nat → Nat → List Nat
  | 0, _ => []
  | k + 1, x => match (sucI g x).find? fun y => d y == k + 1 with
    | some y => y :: pathI g d k y
    | none => []
/-- The document's. -/
def roundU (l : List Ar) (a : Nat) : Nat → Nat → List Nat
  | 0, _ => []
  | k + 1, x => x :: roundU l a k (((stepU l [x] []).find? fun s => k == 0 || farU l s a == k).getD x)
theorem next_ex {l : List Ar} {a : Nat} {d : Nat → Nat} (hd : ∀ x, IsD l x a (d x)) {x k : Nat} (hx : d x = k + 2) : ∃ y, (x, y) ∈ l ∧ d y = k + 1 := by
  rcases hd x with ⟨h0, _⟩ | ⟨_, h2, h3⟩
  · omega
  · rw [hx] at h2 h3
    obtain ⟨y, hy, hw⟩ := Wlk.head h2
    refine ⟨y, hy, (hd y).uniq (.inr ⟨by omega, hw, fun j hj hlt hwj => ?_⟩)⟩
    refine h3 (1 + j) (by omega) (by omega) ((Wlk.one hy).add hwj)
/-- What is known of the way: its length, how far each of it is from home, and that each step of it is an arc. -/
structure PathR (l : List Ar) (d : Nat → Nat) (k x : Nat) (p : List Nat) : Prop where
  len : p.length = k
  dist : ∀ (i : Nat) (h : i < p.length), d p[i] = k - i
  arc : ∀ (i : Nat) (h : i < p.length), ((x :: p)[i]'(by simp; omega), p[i]) ∈ l
theorem path_spec {g l : List Ar} {a : Nat} {d : Nat → Nat} (hg : ∀ e, e ∈ g ↔ e ∈ l) (hd : ∀ x, IsD l x a (d x)) : ∀ (k x : Nat), d x = k + 1 → PathR l d k x (pathI g d k x)
  | 0, _, _ => ⟨rfl, fun i h => absurd h (Nat.not_lt_zero _), fun i h => absurd h (Nat.not_lt_zero _)⟩
  | k + 1, x, hx => by
    obtain ⟨y0, hy0, hd0⟩ := next_ex hd hx
    unfold pathI
    cases hf : (sucI g x).find? fun y => d y == k + 1 with
    | none =>
      have := List.find?_eq_none.1 hf y0 (mem_suc.2 ((hg _).2 hy0))
      simp [hd0] at this
    | some y =>
      have h1 := List.find?_some hf
      have h2 := List.mem_of_find?_eq_some hf
      have hy : d y = k + 1 := by simpa using h1
      obtain ⟨p1, p2, p3⟩ := path_spec hg hd k y hy
      dsimp only
      refine ⟨by simp [p1], fun i hi => ?_, fun i hi => ?_⟩
      · cases i with
        | zero => exact hy
        | succ i =>
          have := p2 i (by simpa using hi)
          show d ((pathI g d k y)[i]'(by simpa using hi)) = _
          omega
      · cases i with
        | zero => exact (hg _).1 (mem_suc.1 h2)
        | succ i => exact p3 i (by simpa using hi)
theorem path_round {g l : List Ar} {a : Nat} {d : Nat → Nat} (hg : ∀ e, e ∈ g ↔ e ∈ l) (hs : ∀ x, (sucI g x).Pairwise (· ≤ ·)) (hd : ∀ x, IsD l x a (d x)) : ∀ (k x : Nat), d x = k + 1 → x :: pathI g d k x = roundU l a (k + 1) x
  | 0, _, _ => rfl
  | k + 1, x, hx => by
    obtain ⟨y0, hy0, hd0⟩ := next_ex hd hx
    obtain ⟨s1, s2⟩ := stepU_spec [x] l [] List.Pairwise.nil
    have hsame : ((stepU l [x] []).find? fun s => (k + 1) == 0 || farU l s a == k + 1) = (sucI g x).find? fun y => d y == k + 1 := by
      rw [find_same (s1.imp Nat.le_of_lt) (hs x) fun y => by rw [s2 y, mem_suc, hg]; simp]
      congr 1
      funext y
      rw [show farU l y a = d y from (farU_isD l y a).uniq (hd y)]
      simp
    unfold pathI roundU
    rw [hsame]
    cases hf : (sucI g x).find? fun y => d y == k + 1 with
    | none =>
      have := List.find?_eq_none.1 hf y0 (mem_suc.2 ((hg _).2 hy0))
      simp [hd0] at this
    | some y =>
      have hy : d y = k + 1 := by simpa using List.find?_some hf
      dsimp only [Option.getD_some]
      rw [path_round hg hs hd k y hy]
/-- What Find gives back. -/
def findI (g : List Ar) (d : Nat → Nat) (a : Nat) : List Nat := if d a = 0 then [] else a :: pathI g d (d a - 1) a
structure FindR (l : List Ar) (a : Nat) (c : List Nat) : Prop where
  len : c.length = farU l a a
  arc : ∀ (i : Nat) (h : i < c.length), (c[i], c[(i + 1) % c.length]'(Nat.mod_lt _ (by omega))) ∈ l
  nd : ∀ (i k : Nat) (hi : i < c.length) (hk : k < i), c[k]'(by omega) ≠ c[i]
  hd : ∀ h : 0 < c.length, c[0] = a
theorem find_spec {g l : List Ar} {a : Nat} {d : Nat → Nat} (hg : ∀ e, e ∈ g ↔ e ∈ l) (hd : ∀ x, IsD l x a (d x)) : FindR l a (findI g d a) := by
  have hn : farU l a a = d a := (farU_isD l a a).uniq (hd a)
  unfold findI
  by_cases h0 : d a = 0
  · rw [if_pos h0]
    exact ⟨by rw [hn, h0]; rfl, fun i h => absurd h (Nat.not_lt_zero _), fun i k hi => absurd hi (Nat.not_lt_zero _), fun h => absurd h (Nat.not_lt_zero _)⟩
  · rw [if_neg h0]
    obtain ⟨n, hda⟩ : ∃ n, d a = n + 1 := ⟨d a - 1, by omega⟩
    have hp := path_spec hg hd n a hda
    rw [show d a - 1 = n by omega]
    generalize pathI g d n a = p at hp ⊢
    obtain ⟨p1, p2, p3⟩ := hp
    have hdist : ∀ (i : Nat) (h : i < (a :: p).length), d (a :: p)[i] = n + 1 - i := fun i h => by
      cases i with
      | zero => exact hda
      | succ i =>
        have := p2 i (by simpa using h)
        show d (p[i]'(by simpa using h)) = _
        omega
    refine ⟨by rw [hn, hda]; simp [p1], fun i hi => ?_, fun i k hi hk e => ?_, fun _ => rfl⟩
    · by_cases hl : i < p.length
      · have e : (i + 1) % (a :: p).length = i + 1 := Nat.mod_eq_of_lt (by simp; omega)
        have := p3 i hl
        simp only [e]
        exact this
      · have hi' : i = p.length := by simp at hi; omega
        have e : (i + 1) % (a :: p).length = 0 := by rw [hi']; simp
        simp only [e]
        have h1 := hdist i hi
        have hd1 : d (a :: p)[i] = 1 := by omega
        rcases hd (a :: p)[i] with ⟨h2, _⟩ | ⟨_, h2, _⟩
        · omega
        · rw [hd1] at h2
          exact wlk_one.1 h2
    · have h1 := hdist i hi
      have h2 := hdist k (by omega)
      rw [e] at h2
      simp at hi
      omega
theorem find_round {g l : List Ar} {a : Nat} {d : Nat → Nat} (hg : ∀ e, e ∈ g ↔ e ∈ l) (hs : ∀ x, (sucI g x).Pairwise (· ≤ ·)) (hd : ∀ x, IsD l x a (d x)) : findI g d a = roundU l a (farU l a a) a := by
  have hn : farU l a a = d a := (farU_isD l a a).uniq (hd a)
  unfold findI
  rw [hn]
  by_cases h0 : d a = 0
  · rw [if_pos h0, h0]
    rfl
  · rw [if_neg h0]
    have h := path_round hg hs hd (d a - 1) a (by omega)
    rwa [show d a - 1 + 1 = d a by omega] at h
/-- Of a rearrangement that rises the arcs of somebody rise. -/
def arLe (a b : Ar) : Prop := a.1 < b.1 ∨ (a.1 = b.1 ∧ a.2 ≤ b.2)
theorem suc_rise {g : List Ar} (h : g.Pairwise arLe) (x : Nat) : (sucI g x).Pairwise (· ≤ ·) := by
  unfold sucI
  rw [List.pairwise_map]
  refine (h.filter _).imp_of_mem fun {a b} ha hb hab => ?_
  have h1 : a.1 = x := by simpa using (List.mem_filter.1 ha).2
  have h2 : b.1 = x := by simpa using (List.mem_filter.1 hb).2
  rcases hab with hab | hab
  · omega
  · exact hab.2

/-! ### whom one reaches -/
def insAll : List Nat → List Nat → List Nat
  | [], out => out
  | n :: ns, out => insAll ns (if n ∈ out then out else insU out n)
def reachU (l : List Ar) (a : Nat) : Nat → List Nat
  | 0 => stepU l [a] []
  | k + 1 => insAll (stepU l (reachU l a k) []) (reachU l a k)
theorem insAll_spec : ∀ (ns out : List Nat), out.Pairwise (· < ·) → (insAll ns out).Pairwise (· < ·) ∧ ∀ x, x ∈ insAll ns out ↔ x ∈ out ∨ x ∈ ns
  | [], out, h => ⟨h, fun x => by simp [insAll]⟩
  | n :: ns, out, h => by
    unfold insAll
    by_cases hn : n ∈ out
    · rw [if_pos hn]
      obtain ⟨h1, h2⟩ := insAll_spec ns out h
      refine ⟨h1, fun x => (h2 x).trans ?_⟩
      rw [List.mem_cons]
      constructor
      · rintro (h | h)
        · exact .inl h
        · exact .inr (.inr h)
      · rintro (h | rfl | h)
        · exact .inl h
        · exact .inl hn
        · exact .inr h
    · rw [if_neg hn]
      obtain ⟨h1, h2⟩ := insAll_spec ns (insU out n) (up_insU h hn)
      refine ⟨h1, fun x => (h2 x).trans ?_⟩
      rw [mem_insU, List.mem_cons]
      constructor
      · rintro ((h | h) | h)
        · exact .inr (.inl h)
        · exact .inl h
        · exact .inr (.inr h)
      · rintro (h | h | h)
        · exact .inl (.inr h)
        · exact .inl (.inl h)
        · exact .inr h
theorem reachU_spec (l : List Ar) (a : Nat) : ∀ k, (reachU l a k).Pairwise (· < ·) ∧ ∀ x, x ∈ reachU l a k ↔ ∃ j, 1 ≤ j ∧ j ≤ k + 1 ∧ Wlk l j a x
  | 0 => by
    obtain ⟨h1, h2⟩ := stepU_spec [a] l [] List.Pairwise.nil
    refine ⟨h1, fun x => (h2 x).trans ?_⟩
    constructor
    · rintro (h | ⟨c, hc, h⟩)
      · cases h
      · obtain rfl : c = a := by simpa using hc
        exact ⟨1, Nat.le_refl _, Nat.le_refl _, Wlk.one h⟩
    · rintro ⟨j, h3, h4, h5⟩
      obtain rfl : j = 1 := by omega
      exact .inr ⟨a, by simp, wlk_one.1 h5⟩
  | k + 1 => by
    obtain ⟨h1, h2⟩ := reachU_spec l a k
    obtain ⟨_, h4⟩ := stepU_spec (reachU l a k) l [] List.Pairwise.nil
    obtain ⟨h5, h6⟩ := insAll_spec (stepU l (reachU l a k) []) (reachU l a k) h1
    refine ⟨h5, fun x => (h6 x).trans ?_⟩
    rw [h4, h2]
    constructor
    · rintro (⟨j, j1, j2, j3⟩ | h | ⟨c, hc, h⟩)
      · exact ⟨j, j1, by omega, j3⟩
      · cases h
      · obtain ⟨j, j1, j2, j3⟩ := (h2 c).1 hc
        exact ⟨j + 1, by omega, by omega, c, j3, h⟩
    · rintro ⟨j, j1, j2, j3⟩
      by_cases hj : j ≤ k + 1
      · exact .inl ⟨j, j1, hj, j3⟩
      · obtain rfl : j = k + 2 := by omega
        obtain ⟨c, hc, h⟩ := j3
        exact .inr (.inr ⟨c, (h2 c).2 ⟨k + 1, by omega, by omega, hc⟩, h⟩)
theorem reach_all {l : List Ar} {a x k : Nat} (hk : 1 ≤ k) (h : Wlk l k a x) : x ∈ reachU l a l.length := by
  obtain ⟨m, hm⟩ := isD_ex l a x
  have hle := isD_le hm
  rcases hm with ⟨_, h1⟩ | ⟨h1, h2, _⟩
  · exact absurd h (h1 k hk)
  · exact ((reachU_spec l a l.length).2 x).2 ⟨m, h1, by omega, h2⟩
/-- The document's Reach is what rises and holds just those whom one reaches. -/
theorem reach_is {l : List Ar} {a : Nat} {d : Nat → Nat} (hd : ∀ x, IsD l a x (d x)) {r : List Nat} (hr : r.Pairwise (· < ·)) (hm : ∀ x, x ∈ r ↔ d x ≠ 0) : r = reachU l a l.length := by
  have h1 := (reachU_spec l a l.length).1
  have h2 : ∀ x, x ∈ r ↔ x ∈ reachU l a l.length := fun x => by
    rw [hm x]
    constructor
    · intro h
      rcases hd x with ⟨h0, _⟩ | ⟨h3, h4, _⟩
      · exact absurd h0 h
      · exact reach_all h3 h4
    · intro h e
      obtain ⟨j, j1, _, j3⟩ := ((reachU_spec l a l.length).2 x).1 h
      rcases hd x with ⟨_, h4⟩ | ⟨h3, _, _⟩
      · exact h4 j j1 j3
      · omega
  generalize reachU l a l.length = t at h1 h2
  clear hm
  induction r generalizing t with
  | nil =>
    cases t with
    | nil => rfl
    | cons y t => exact absurd ((h2 y).2 List.mem_cons_self) (by simp)
  | cons x r ih =>
    obtain ⟨r1, r2⟩ := List.pairwise_cons.1 hr
    cases t with
    | nil => exact absurd ((h2 x).1 List.mem_cons_self) (by simp)
    | cons y t =>
      obtain ⟨t1, t2⟩ := List.pairwise_cons.1 h1
      have exy : x = y := by
        have a1 := (h2 x).1 List.mem_cons_self
        have a2 := (h2 y).2 List.mem_cons_self
        rcases List.mem_cons.1 a1 with e | a1
        · exact e
        · rcases List.mem_cons.1 a2 with e | a2
          · exact e.symm
          · have := t1 x a1
            have := r1 y a2
            omega
      subst exy
      rw [ih r2 t t2 fun z => ?_]
      constructor
      · intro hz
        rcases List.mem_cons.1 ((h2 z).1 (List.mem_cons_of_mem _ hz)) with e | h
        · have := r1 z hz
          omega
        · exact h
      · intro hz
        rcases List.mem_cons.1 ((h2 z).2 (List.mem_cons_of_mem _ hz)) with e | h
        · have := t1 z hz
          omega
        · exact h
end Go.Proofs.Ytnkphpjnhjbokaa
