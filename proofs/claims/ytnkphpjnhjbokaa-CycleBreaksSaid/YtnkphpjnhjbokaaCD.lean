/-
  Nodes taken away to which no arc leads any more: nothing is left just if nobody is on a way round; no program in it.
  Conditions: none beyond those that each theorem names.
-/
import Derived.Test.YtnkphpjnhjbokaaCC
namespace Go.Proofs.Ytnkphpjnhjbokaa
set_option maxRecDepth 20000

/-- Nobody is on a way round. -/
def NoWay (l : List Ar) : Prop := ∀ x k, 1 ≤ k → ¬ Wlk l k x x
structure KS where
  into : Nat → Nat
  left : Nat
  op : List Nat
def remI : List Nat → KS → KS
  | [], s => s
  | x :: ss, s => remI ss ⟨updN s.into x (s.into x - 1), s.left - 1, if s.into x - 1 = 0 then s.op ++ [x] else s.op⟩
structure RemR (ss : List Nat) (s s' : KS) (new : List Nat) : Prop where
  into : ∀ x, s'.into x = s.into x - ss.count x
  left : s'.left = s.left - ss.length
  op : s'.op = s.op ++ new
  nd : new.Nodup
  mem : ∀ x, x ∈ new ↔ x ∈ ss ∧ s.into x = ss.count x
theorem remI_spec : ∀ (ss : List Nat) (s : KS), (∀ x ∈ ss, ss.count x ≤ s.into x) → ∃ new, RemR ss s (remI ss s) new
  | [], s, _ => ⟨[], fun x => by simp [remI], rfl, by simp [remI], List.nodup_nil, by simp⟩
  | x :: ss, s, h => by
    have hx := h x List.mem_cons_self
    rw [List.count_cons_self] at hx
    have hc : ∀ y, (x :: ss).count y = ss.count y + if y = x then 1 else 0 := fun y => by
      rw [List.count_cons]
      congr 1
      by_cases e : y = x
      · rw [if_pos e, if_pos (by simp [e])]
      · rw [if_neg e, if_neg (by simpa using fun hh => e hh.symm)]
    obtain ⟨s1, hs1⟩ : ∃ s1 : KS, (⟨updN s.into x (s.into x - 1), s.left - 1, if s.into x - 1 = 0 then s.op ++ [x] else s.op⟩ : KS) = s1 := ⟨_, rfl⟩
    have i1 : ∀ y, s1.into y = if y = x then s.into x - 1 else s.into y := fun y => by rw [← hs1]; rfl
    have l1 : s1.left = s.left - 1 := by rw [← hs1]
    have o1 : s1.op = if s.into x - 1 = 0 then s.op ++ [x] else s.op := by rw [← hs1]
    have hle : ∀ y ∈ ss, ss.count y ≤ s1.into y := fun y hy => by
      have h1 := h y (List.mem_cons_of_mem _ hy)
      rw [hc] at h1
      rw [i1]
      by_cases e : y = x
      · rw [if_pos e]
        rw [e] at h1 ⊢
        simp at h1
        omega
      · rw [if_neg e]
        omega
    obtain ⟨new, r1, r2, r3, r4, r5⟩ := remI_spec ss s1 hle
    unfold remI
    rw [hs1]
    by_cases h0 : s.into x - 1 = 0
    · have hxs : ss.count x = 0 := by omega
      have hxn : x ∉ ss := List.count_eq_zero.1 hxs
      rw [if_pos h0] at o1
      refine ⟨x :: new, fun y => ?_, by rw [r2, l1]; simp; omega, by rw [r3, o1]; simp, List.nodup_cons.2 ⟨fun hm => hxn ((r5 x).1 hm).1, r4⟩, fun y => ?_⟩
      · rw [r1, i1, hc]
        by_cases e : y = x
        · rw [if_pos e, if_pos e, e]
          omega
        · rw [if_neg e, if_neg e]
          rfl
      · rw [List.mem_cons, r5, i1, hc, List.mem_cons]
        by_cases e : y = x
        · subst e
          simp only [if_true, true_or, true_and]
          constructor
          · intro _
            omega
          · intro _
            trivial
        · simp [e]
    · rw [if_neg h0] at o1
      refine ⟨new, fun y => ?_, by rw [r2, l1]; simp; omega, by rw [r3, o1], r4, fun y => ?_⟩
      · rw [r1, i1, hc]
        by_cases e : y = x
        · rw [if_pos e, if_pos e, e]
          omega
        · rw [if_neg e, if_neg e]
          rfl
      · rw [r5, i1, hc, List.mem_cons]
        by_cases e : y = x
        · subst e
          simp only [if_true, true_or, true_and]
          constructor
          · rintro ⟨h1, h2⟩
            omega
          · intro h1
            refine ⟨List.count_pos_iff.1 (by omega), by omega⟩
        · simp [e]
/-- How far it has come: the first i of those that are open have been taken away. -/
structure KI (g : List Ar) (i : Nat) (s : KS) : Prop where
  nd : s.op.Nodup
  cnt : ∀ x, s.into x = (g.filter fun a => decide (a.1 ∉ s.op.take i)).countP fun a => a.2 == x
  left : s.left = (g.filter fun a => decide (a.1 ∉ s.op.take i)).length
  opn : ∀ x ∈ s.op, s.into x = 0
  src : ∀ x y, (x, y) ∈ g → s.into x = 0 → x ∈ s.op
  ord : ∀ (q : Nat) (h : q < s.op.length) (x : Nat), (x, s.op[q]) ∈ g → x ∈ s.op.take q
theorem count_suc (g : List Ar) (n x : Nat) : (sucI g n).count x = g.countP fun a => a.1 == n && a.2 == x := by
  unfold sucI
  rw [List.count_eq_countP, List.countP_map, List.countP_filter]
  congr 1
  funext a
  simp [Bool.and_comm]
theorem len_suc (g : List Ar) (n : Nat) : (sucI g n).length = g.countP fun a => a.1 == n := by
  unfold sucI
  rw [List.length_map, List.countP_eq_length_filter]
theorem countP_split {α : Type} (p q : α → Bool) (l : List α) : l.countP p = (l.countP fun a => p a && q a) + l.countP fun a => p a && !q a := by
  induction l with
  | nil => rfl
  | cons a l ih =>
    simp only [List.countP_cons, ih]
    cases p a <;> cases q a <;> simp <;> omega
theorem KI.step {g : List Ar} {i : Nat} {s s' : KS} (h : KI g i s) (hi : i < s.op.length) (he : remI (sucI g s.op[i]) s = s') : KI g (i + 1) s' := by
  obtain ⟨n, hn⟩ : ∃ n, s.op[i] = n := ⟨_, rfl⟩
  have hnR : n ∉ s.op.take i := fun hm => by
    obtain ⟨j, hj, e⟩ := List.mem_take_iff_getElem.1 hm
    have := (List.getElem_inj h.nd (i := j) (j := i) (h₀ := by omega) (h₁ := hi)).1 (e.trans hn.symm)
    omega
  rw [hn] at he
  have hcnt : ∀ x, s.into x = g.countP fun a => (a.2 == x) && decide (a.1 ∉ s.op.take i) := fun x => by
    rw [h.cnt x, List.countP_filter]
  have hleft : s.left = g.countP fun a => decide (a.1 ∉ s.op.take i) := by rw [h.left, List.countP_eq_length_filter]
  have hsplit : ∀ x, s.into x = (sucI g n).count x + g.countP fun a => (a.2 == x) && decide (a.1 ∉ s.op.take i) && !(a.1 == n) := fun x => by
    rw [hcnt x, countP_split _ (fun a : Ar => a.1 == n), count_suc]
    congr 1
    congr 1
    funext a
    by_cases e : a.1 = n
    · simp [e, hnR]
    · have e' : (a.1 == n) = false := by simpa using e
      rw [e', Bool.and_false, Bool.false_and]
  obtain ⟨new, r1, r2, r3, r4, r5⟩ := remI_spec (sucI g n) s (fun x _ => by rw [hsplit x]; omega)
  rw [he] at r1 r2 r3
  have htk : s'.op.take (i + 1) = s.op.take i ++ [n] := by
    rw [r3, List.take_append_of_le_length (by omega), List.take_add_one, List.getElem?_eq_getElem hi, hn]
    rfl
  have hP : ∀ a : Ar, decide (a.1 ∉ s'.op.take (i + 1)) = (decide (a.1 ∉ s.op.take i) && !(a.1 == n)) := fun a => by
    rw [htk]
    by_cases e1 : a.1 = n <;> by_cases e2 : a.1 ∈ s.op.take i <;> simp [e1, e2]
  have hi' : ∀ x, s'.into x = g.countP fun a => (a.2 == x) && decide (a.1 ∉ s'.op.take (i + 1)) := fun x => by
    rw [r1 x, hsplit x, Nat.add_sub_cancel_left]
    congr 1
    funext a
    rw [hP a, Bool.and_assoc]
  have hnew0 : ∀ x, x ∈ new → s'.into x = 0 := fun x hx => by rw [r1 x, ((r5 x).1 hx).2]; omega
  have hnewO : ∀ x, x ∈ new → x ∉ s.op := fun x hx ho => by
    have h1 := ((r5 x).1 hx)
    have h2 := h.opn x ho
    have h3 := List.count_pos_iff.2 h1.1
    omega
  refine ⟨?_, fun x => by rw [hi' x, List.countP_filter], ?_, fun x hx => ?_, fun x y hxy h0 => ?_, fun q hq x hx => ?_⟩
  · rw [r3]
    exact List.nodup_append.2 ⟨h.nd, r4, fun x hx y hy e => hnewO y hy (e ▸ hx)⟩
  · rw [r2, hleft, ← List.countP_eq_length_filter, len_suc]
    rw [countP_split (fun a : Ar => decide (a.1 ∉ s.op.take i)) (fun a => a.1 == n)]
    have e1 : (g.countP fun a => a.1 == n) = g.countP fun a => decide (a.1 ∉ s.op.take i) && (a.1 == n) := by
      congr 1
      funext a
      by_cases e : a.1 = n
      · simp [e, hnR]
      · simp [e]
    rw [e1, Nat.add_sub_cancel_left]
    congr 1
    funext a
    exact (hP a).symm
  · rw [r3] at hx
    rcases List.mem_append.1 hx with hx | hx
    · rw [r1, h.opn x hx]
      omega
    · exact hnew0 x hx
  · rw [r3]
    refine List.mem_append.2 ?_
    by_cases h1 : s.into x = 0
    · exact .inl (h.src x y hxy h1)
    · rw [r1] at h0
      have h2 := hsplit x
      exact .inr ((r5 x).2 ⟨List.count_pos_iff.1 (by omega), by omega⟩)
  · by_cases hqs : q < s.op.length
    · have e : s'.op[q] = s.op[q] := by simp only [r3]; exact List.getElem_append_left hqs
      rw [e] at hx
      have := h.ord q hqs x hx
      rw [r3, List.take_append_of_le_length (by omega)]
      exact this
    · have hm : s'.op[q] ∈ new := by
        simp only [r3]
        rw [List.getElem_append_right (by omega)]
        exact List.getElem_mem _
      have h0 := hnew0 _ hm
      rw [hi'] at h0
      have h1 := List.countP_eq_zero.1 h0 _ hx
      have h2 : x ∈ s'.op.take (i + 1) := by simpa using h1
      exact (List.take_subset_take_left _ (show i + 1 ≤ q by omega)) h2
theorem KI.free {g : List Ar} {i : Nat} {s : KS} (h : KI g i s) (hi : s.op.length ≤ i) : s.left = 0 ↔ NoWay g := by
  have htk : s.op.take i = s.op := List.take_of_length_le hi
  constructor
  · intro h0 x k hk hw
    have hall : ∀ u v, (u, v) ∈ g → u ∈ s.op := fun u v huv => by
      have h1 := h.left
      rw [h0, htk] at h1
      have h2 := List.eq_nil_of_length_eq_zero h1.symm
      have h3 := List.filter_eq_nil_iff.1 h2 _ huv
      simpa using h3
    have key : ∀ k u v, Wlk g (k + 1) u v → ∀ (q : Nat) (hq : q < s.op.length), s.op[q] = v → u ∈ s.op.take q := by
      intro k
      induction k with
      | zero =>
        intro u v hw q hq e
        exact h.ord q hq u (by rw [e]; exact wlk_one.1 hw)
      | succ k ih =>
        rintro u v ⟨c, hc, hcv⟩ q hq e
        have h1 := h.ord q hq c (by rw [e]; exact hcv)
        obtain ⟨j, hj, ej⟩ := List.mem_take_iff_getElem.1 h1
        have h2 := ih u c hc j (by omega) ej
        exact (List.take_subset_take_left _ (show j ≤ q by omega)) h2
    obtain ⟨k, rfl⟩ : ∃ m, k = m + 1 := ⟨k - 1, by omega⟩
    obtain ⟨c, hxc, _⟩ := hw.head
    obtain ⟨q, hq, e⟩ := List.getElem_of_mem (hall x c hxc)
    have h1 := key k x x hw q hq e
    obtain ⟨j, hj, ej⟩ := List.mem_take_iff_getElem.1 h1
    have := (List.getElem_inj h.nd (i := j) (j := q) (h₀ := by omega) (h₁ := hq)).1 (ej.trans e.symm)
    omega
  · intro hno
    refine Decidable.by_contra fun h0 => ?_
    have hpos : 0 < (g.filter fun a => decide (a.1 ∉ s.op)).length := by
      have := h.left
      rw [htk] at this
      omega
    obtain ⟨⟨u, v⟩, hm⟩ := List.exists_mem_of_length_pos hpos
    obtain ⟨huv, hu⟩ := List.mem_filter.1 hm
    have hu' : u ∉ s.op := by simpa using hu
    have back : ∀ x y, (x, y) ∈ g → x ∉ s.op → ∃ z, (z, x) ∈ g ∧ z ∉ s.op := fun x y hxy hx => by
      have h1 : s.into x ≠ 0 := fun e => hx (h.src x y hxy e)
      rw [h.cnt x, htk] at h1
      obtain ⟨⟨z, w⟩, hz, hzw⟩ := List.countP_pos_iff.1 (Nat.pos_of_ne_zero h1)
      obtain ⟨hz1, hz2⟩ := List.mem_filter.1 hz
      have e : w = x := by simpa using hzw
      subst e
      exact ⟨z, hz1, by simpa using hz2⟩
    have chain : ∀ n, ∃ t : List Nat, t.length = n + 1 ∧ (∀ x ∈ t, x ∉ s.op ∧ ∃ y, (x, y) ∈ g) ∧ ∀ (j : Nat) (hj : j + 1 < t.length), (t[j], t[j + 1]) ∈ g := by
      intro n
      induction n with
      | zero => exact ⟨[u], rfl, fun x hx => by rw [List.mem_singleton.1 hx]; exact ⟨hu', v, huv⟩, fun j hj => absurd hj (by simp)⟩
      | succ n ih =>
        obtain ⟨t, t1, t2, t3⟩ := ih
        match t, t1, t2, t3 with
        | x :: t, t1, t2, t3 =>
          obtain ⟨hx, y, hxy⟩ := t2 x List.mem_cons_self
          obtain ⟨z, hz, hzo⟩ := back x y hxy hx
          refine ⟨z :: x :: t, by simp at t1 ⊢; omega, fun w hw => ?_, fun j hj => ?_⟩
          · rcases List.mem_cons.1 hw with rfl | hw
            · exact ⟨hzo, x, hz⟩
            · exact t2 w hw
          · cases j with
            | zero => exact hz
            | succ j => exact t3 j (by simpa using hj)
    obtain ⟨t, t1, t2, t3⟩ := chain g.length
    have walk : ∀ (m j : Nat) (hj : j + m < t.length), Wlk g m (t[j]'(by omega)) t[j + m] := by
      intro m
      induction m with
      | zero => exact fun j hj => rfl
      | succ m ih => exact fun j hj => ⟨t[j + m]'(by omega), ih j (by omega), t3 (j + m) hj⟩
    by_cases hnd : t.Nodup
    · have := nodup_len (t := g.map (·.1)) hnd fun x hx => by
        obtain ⟨_, y, hy⟩ := t2 x hx
        exact List.mem_map.2 ⟨_, hy, rfl⟩
      simp at this
      omega
    · apply hnd
      unfold List.Nodup
      rw [List.pairwise_iff_getElem]
      intro a b ha hb hab e
      have hw := walk (b - a) a (by omega)
      simp only [show a + (b - a) = b by omega] at hw
      rw [e] at hw
      exact hno _ _ (by omega) hw
theorem noWay_far {l : List Ar} : NoWay l ↔ ∀ a ∈ l, farU l a.1 a.1 = 0 := by
  constructor
  · intro h a _
    exact (farU_isD l a.1 a.1).uniq (.inl ⟨rfl, fun j hj => h _ j hj⟩)
  · intro h x k hk hw
    obtain ⟨k, rfl⟩ : ∃ m, k = m + 1 := ⟨k - 1, by omega⟩
    obtain ⟨c, hc, _⟩ := hw.head
    have h0 := h _ hc
    rcases farU_isD l x x with ⟨_, h1⟩ | ⟨h1, _, _⟩
    · exact h1 (k + 1) (by omega) hw
    · have e : farU l x x = 0 := h0
      omega
theorem noWay_congr {l m : List Ar} (h : ∀ a, a ∈ l ↔ a ∈ m) : NoWay l ↔ NoWay m := by
  unfold NoWay
  simp only [wlk_congr h]
/-- Arcs that all lead to greater numbers. -/
theorem wlk_up {l : List Ar} (h : ∀ a ∈ l, a.1 < a.2) : ∀ {k a b : Nat}, Wlk l (k + 1) a b → a < b
  | 0, _, _, hw => h _ (wlk_one.1 hw)
  | _ + 1, _, _, ⟨_, h1, h2⟩ => Nat.lt_trans (wlk_up h h1) (h _ h2)
theorem noWay_up {l : List Ar} (h : ∀ a ∈ l, a.1 < a.2) : NoWay l := fun x k hk hw => by
  obtain ⟨k, rfl⟩ : ∃ m, k = m + 1 := ⟨k - 1, by omega⟩
  exact Nat.lt_irrefl _ (wlk_up h hw)
end Go.Proofs.Ytnkphpjnhjbokaa
