/-
  The search of a graph level by level; no program in it.
  Conditions: none beyond those that each theorem names.
-/
import Derived.Test.YtnkphpjnhjbokaaCA
namespace Go.Proofs.Ytnkphpjnhjbokaa
set_option maxRecDepth 20000

def updN (d : Nat → Nat) (x c : Nat) : Nat → Nat := fun y => if y = x then c else d y
/-- To whom the arcs of somebody lead. -/
def sucI (g : List Ar) (x : Nat) : List Nat := (g.filter fun a => a.1 == x).map (·.2)
theorem mem_suc {g : List Ar} {x y : Nat} : y ∈ sucI g x ↔ (x, y) ∈ g := by
  unfold sucI
  rw [List.mem_map]
  constructor
  · rintro ⟨⟨u, v⟩, h, rfl⟩
    obtain ⟨h1, h2⟩ := List.mem_filter.1 h
    have e : u = x := by simpa using h2
    subst e
    exact h1
  · intro h
    exact ⟨(x, y), List.mem_filter.2 ⟨h, by simp⟩, rfl⟩
def visI : List Nat → Nat → (Nat → Nat) × List Nat → (Nat → Nat) × List Nat
  | [], _, s => s
  | x :: ss, c, s => visI ss c (if s.1 x = 0 then (updN s.1 x c, s.2 ++ [x]) else s)
structure VisR (ss : List Nat) (c : Nat) (d : Nat → Nat) (q : List Nat) (d' : Nat → Nat) (q' : List Nat) (new : List Nat) : Prop where
  eq : q' = q ++ new
  nd : new.Nodup
  mem : ∀ x, x ∈ new ↔ x ∈ ss ∧ d x = 0
  val : ∀ x, d' x = if x ∈ new then c else d x
theorem visI_spec (c : Nat) (hc : c ≠ 0) : ∀ (ss : List Nat) (d : Nat → Nat) (q : List Nat), ∃ new, VisR ss c d q (visI ss c (d, q)).1 (visI ss c (d, q)).2 new
  | [], d, q => ⟨[], by simp [visI], List.nodup_nil, by simp, by simp [visI]⟩
  | x :: ss, d, q => by
    unfold visI
    by_cases hx : d x = 0
    · rw [if_pos hx]
      obtain ⟨new, h1, h2, h3, h4⟩ := visI_spec c hc ss (updN d x c) (q ++ [x])
      have hu : ∀ y, updN d x c y = 0 ↔ y ≠ x ∧ d y = 0 := fun y => by
        unfold updN
        split
        · rename_i e
          exact ⟨fun h => absurd h hc, fun h => absurd e h.1⟩
        · rename_i e
          exact ⟨fun h => ⟨e, h⟩, fun h => h.2⟩
      have hxn : x ∉ new := fun hm => ((hu x).1 ((h3 x).1 hm).2).1 rfl
      refine ⟨x :: new, by rw [h1]; simp, List.nodup_cons.2 ⟨hxn, h2⟩, fun y => ?_, fun y => ?_⟩
      · rw [List.mem_cons, h3, hu, List.mem_cons]
        constructor
        · rintro (rfl | ⟨h5, h6, h7⟩)
          · exact ⟨.inl rfl, hx⟩
          · exact ⟨.inr h5, h7⟩
        · rintro ⟨rfl | h5, h6⟩
          · exact .inl rfl
          · by_cases e : y = x
            · exact .inl e
            · exact .inr ⟨h5, e, h6⟩
      · rw [h4 y]
        by_cases hy : y ∈ new
        · rw [if_pos hy, if_pos (List.mem_cons_of_mem _ hy)]
        · rw [if_neg hy]
          unfold updN
          by_cases e : y = x
          · rw [if_pos e, if_pos (by rw [e]; exact List.mem_cons_self)]
          · rw [if_neg e, if_neg (fun h => by rcases List.mem_cons.1 h with h | h; exact e h; exact hy h)]
    · rw [if_neg hx]
      obtain ⟨new, h1, h2, h3, h4⟩ := visI_spec c hc ss d q
      refine ⟨new, h1, h2, fun y => (h3 y).trans ?_, h4⟩
      constructor
      · rintro ⟨h5, h6⟩
        exact ⟨List.mem_cons_of_mem _ h5, h6⟩
      · rintro ⟨h5, h6⟩
        rcases List.mem_cons.1 h5 with rfl | h5
        · exact absurd h6 hx
        · exact ⟨h5, h6⟩
theorem visI_append (c : Nat) : ∀ (a b : List Nat) (s : (Nat → Nat) × List Nat), visI (a ++ b) c s = visI b c (visI a c s)
  | [], _, _ => rfl
  | _ :: a, b, _ => visI_append c a b _
/-- How far the search has come: the first i of the queue have been looked at. -/
structure BI (l : List Ar) (a i : Nat) (d : Nat → Nat) (q : List Nat) : Prop where
  mem : ∀ x, x ∈ q ↔ d x ≠ 0
  nd : q.Nodup
  tg : ∀ x ∈ q, x ∈ l.map (·.2)
  wk : ∀ x, d x ≠ 0 → Wlk l (d x) a x
  le : ∀ x, d x ≤ q.length
  srt : q.Pairwise fun x y => d x ≤ d y
  top : ∀ (h : i < q.length), ∀ x ∈ q, d x ≤ d q[i] + 1
  fst : ∀ y, (a, y) ∈ l → d y ≠ 0 ∧ d y ≤ 1
  cls : ∀ (j : Nat) (h : j < q.length), j < i → ∀ y, (q[j], y) ∈ l → d y ≠ 0 ∧ d y ≤ d q[j] + 1
theorem BI.len {l : List Ar} {a i : Nat} {d : Nat → Nat} {q : List Nat} (h : BI l a i d q) : q.length ≤ l.length := by
  have := nodup_len h.nd h.tg
  simpa using this
theorem BI.start (l : List Ar) (a : Nat) : BI l a 0 (visI (sucI l a) 1 (fun _ => 0, [])).1 (visI (sucI l a) 1 (fun _ => 0, [])).2 := by
  obtain ⟨new, h1, h2, h3, h4⟩ := visI_spec 1 (by decide) (sucI l a) (fun _ => 0) []
  generalize visI (sucI l a) 1 (fun _ => 0, []) = s at h1 h4 ⊢
  obtain ⟨d, q⟩ := s
  dsimp only at h1 h4 ⊢
  rw [List.nil_append] at h1
  subst h1
  have hm : ∀ x, x ∈ q ↔ (a, x) ∈ l := fun x => by rw [h3, mem_suc]; simp
  have hd : ∀ x, x ∈ q → d x = 1 := fun x hx => by rw [h4, if_pos hx]
  have hd0 : ∀ x, x ∉ q → d x = 0 := fun x hx => by rw [h4, if_neg hx]
  refine ⟨fun x => ⟨fun hx => by rw [hd x hx]; decide, fun hx => Decidable.not_not.1 fun hn => hx (hd0 x hn)⟩, h2, fun x hx => List.mem_map.2 ⟨_, (hm x).1 hx, rfl⟩, fun x hx => ?_, fun x => ?_, ?_, fun h x hx => by rw [hd x hx]; omega, fun y hy => by rw [hd y ((hm y).2 hy)]; decide, fun j h hj => by omega⟩
  · have hq : x ∈ q := Decidable.not_not.1 fun hn => hx (hd0 x hn)
    rw [hd x hq]
    exact Wlk.one ((hm x).1 hq)
  · by_cases hx : x ∈ q
    · rw [hd x hx]
      exact List.length_pos_of_mem hx
    · rw [hd0 x hx]
      exact Nat.zero_le _
  · rw [List.pairwise_iff_getElem]
    intro i j hi hj _
    rw [hd _ (List.getElem_mem hi), hd _ (List.getElem_mem hj)]
    exact Nat.le_refl _
theorem BI.step {l : List Ar} {a i : Nat} {d : Nat → Nat} {q : List Nat} (h : BI l a i d q) (hi : i < q.length) {d' : Nat → Nat} {q' : List Nat} (he : visI (sucI l q[i]) (d q[i] + 1) (d, q) = (d', q')) : BI l a (i + 1) d' q' := by
  obtain ⟨new, h1, h2, h3, h4⟩ := visI_spec (d q[i] + 1) (by omega) (sucI l q[i]) d q
  rw [he] at h1 h4
  dsimp only at h1 h4
  subst h1
  obtain ⟨x0, hx0⟩ : ∃ x0, q[i] = x0 := ⟨_, rfl⟩
  rw [hx0] at h3 h4
  have hx0q : x0 ∈ q := hx0 ▸ List.getElem_mem hi
  have hx0d : d x0 ≠ 0 := (h.mem x0).1 hx0q
  have hn0 : ∀ x, x ∈ new → d x = 0 := fun x hx => ((h3 x).1 hx).2
  have hna : ∀ x, x ∈ new → (x0, x) ∈ l := fun x hx => mem_suc.1 ((h3 x).1 hx).1
  have hq' : ∀ x, x ∈ q → x ∉ new := fun x hx hn => (h.mem x).1 hx (hn0 x hn)
  have hdq : ∀ x, x ∉ new → d' x = d x := fun x hx => by rw [h4, if_neg hx]
  have hdn : ∀ x, x ∈ new → d' x = d x0 + 1 := fun x hx => by rw [h4, if_pos hx]
  have htop := h.top hi
  rw [hx0] at htop
  have hsrt : (q ++ new).Pairwise fun x y => d' x ≤ d' y := by
    refine List.pairwise_append.2 ⟨?_, ?_, fun x hx y hy => ?_⟩
    · have := h.srt
      rw [List.pairwise_iff_getElem] at this ⊢
      intro u v hu hv huv
      rw [hdq _ (hq' _ (List.getElem_mem hu)), hdq _ (hq' _ (List.getElem_mem hv))]
      exact this u v hu hv huv
    · rw [List.pairwise_iff_getElem]
      intro u v hu hv _
      rw [hdn _ (List.getElem_mem hu), hdn _ (List.getElem_mem hv)]
      exact Nat.le_refl _
    · rw [hdq _ (hq' _ hx), hdn _ hy]
      exact htop x hx
  refine ⟨fun x => ?_, List.nodup_append.2 ⟨h.nd, h2, fun x hx y hy e => hq' x hx (e ▸ hy)⟩, fun x hx => ?_, fun x hx => ?_, fun x => ?_, hsrt, fun hlt x hx => ?_, fun y hy => ?_, fun j hj hji y hy => ?_⟩
  · rw [List.mem_append]
    by_cases hx : x ∈ new
    · rw [hdn x hx]
      exact ⟨fun _ => by omega, fun _ => .inr hx⟩
    · rw [hdq x hx, ← h.mem x]
      exact ⟨fun hh => hh.elim id fun hh => absurd hh hx, .inl⟩
  · rcases List.mem_append.1 hx with hx | hx
    · exact h.tg x hx
    · exact List.mem_map.2 ⟨_, hna x hx, rfl⟩
  · by_cases hn : x ∈ new
    · rw [hdn x hn]
      exact ⟨x0, h.wk x0 hx0d, hna x hn⟩
    · rw [hdq x hn] at hx ⊢
      exact h.wk x hx
  · rw [List.length_append]
    by_cases hn : x ∈ new
    · rw [hdn x hn]
      have := h.le x0
      have := List.length_pos_of_mem hn
      omega
    · rw [hdq x hn]
      have := h.le x
      omega
  · have hlo : d x0 ≤ d' (q ++ new)[i + 1] := by
      have h5 := List.pairwise_iff_getElem.1 hsrt i (i + 1) (by omega) hlt (by omega)
      rw [List.getElem_append_left hi, hx0, hdq x0 (hq' x0 hx0q)] at h5
      exact h5
    rcases List.mem_append.1 hx with hx | hx
    · rw [hdq x (hq' x hx)]
      have := htop x hx
      omega
    · rw [hdn x hx]
      omega
  · have h5 := h.fst y hy
    rw [hdq y fun hn => h5.1 (hn0 y hn)]
    exact h5
  · by_cases hjn : j < q.length
    · rw [List.getElem_append_left hjn] at hy ⊢
      rw [hdq _ (hq' _ (List.getElem_mem hjn))]
      by_cases hj2 : j < i
      · have h5 := h.cls j hjn hj2 y hy
        rw [hdq y fun hn => h5.1 (hn0 y hn)]
        exact h5
      · obtain rfl : j = i := by omega
        rw [hx0] at hy ⊢
        by_cases hn : y ∈ new
        · rw [hdn y hn]
          exact ⟨by omega, Nat.le_refl _⟩
        · have hd0 : d y ≠ 0 := fun e => hn ((h3 y).2 ⟨mem_suc.2 hy, e⟩)
          rw [hdq y hn]
          exact ⟨hd0, htop y ((h.mem y).2 hd0)⟩
    · omega
theorem BI.done {l : List Ar} {a i : Nat} {d : Nat → Nat} {q : List Nat} (h : BI l a i d q) (hi : q.length ≤ i) : ∀ x, IsD l a x (d x) := by
  have key : ∀ j x, Wlk l (j + 1) a x → d x ≠ 0 ∧ d x ≤ j + 1 := by
    intro j
    induction j with
    | zero => exact fun x hw => h.fst x (wlk_one.1 hw)
    | succ j ih =>
      rintro x ⟨c, hc, hx⟩
      obtain ⟨h1, h2⟩ := ih c hc
      obtain ⟨n, hn, rfl⟩ := List.getElem_of_mem ((h.mem c).2 h1)
      have := h.cls n hn (by omega) x hx
      exact ⟨this.1, by omega⟩
  intro x
  by_cases hx : d x = 0
  · refine .inl ⟨hx, fun j hj hw => ?_⟩
    obtain ⟨j, rfl⟩ : ∃ m, j = m + 1 := ⟨j - 1, by omega⟩
    exact (key j x hw).1 hx
  · refine .inr ⟨by omega, h.wk x hx, fun j hj hlt hw => ?_⟩
    obtain ⟨j, rfl⟩ : ∃ m, j = m + 1 := ⟨j - 1, by omega⟩
    have := (key j x hw).2
    omega
end Go.Proofs.Ytnkphpjnhjbokaa
