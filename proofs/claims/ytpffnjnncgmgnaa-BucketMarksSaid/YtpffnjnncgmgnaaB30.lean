/-
  The mathematics of acts: what the records are behind an act, what marking, dropping and adding again leave.
  Conditions: none beyond those that each theorem names.
-/
import Derived.Test.YtpffnjnncgmgnaaB22
namespace Go.Proofs.Ytpffnjnncgmgnaa
open Go.RowKit
set_option maxRecDepth 20000

theorem idxP_lt {p : Rc → Bool} {l : List Rc} {k : Nat} (h : idxP p l = (k : Int)) : ∃ hk : k < l.length, p l[k] = true := by
  unfold idxP at h
  cases h2 : l.findIdx? p with
  | none => rw [h2] at h; simp at h; try omega
  | some j =>
    rw [h2] at h
    obtain ⟨a, b, _⟩ := List.findIdx?_eq_some_iff_getElem.1 h2
    have : j = k := by have h' : (j : Int) = (k : Int) := h; omega
    subst this
    exact ⟨a, b⟩
theorem idxP_no {p : Rc → Bool} {l : List Rc} (h : ¬ 0 ≤ idxP p l) : ∀ x ∈ l, p x = false := by
  unfold idxP at h
  cases h2 : l.findIdx? p with
  | none => exact fun x hx => List.findIdx?_eq_none_iff.1 h2 x hx
  | some j => rw [h2] at h; exact absurd (by simp) h
theorem idxP_none' {p : Rc → Bool} {l : List Rc} (h : ∀ x ∈ l, p x = false) : idxP p l = -1 := by
  unfold idxP
  rw [List.findIdx?_eq_none_iff.2 h]
theorem nodup_inj {α : Type} {l : List α} (h : l.Nodup) {i j : Nat} (hi : i < l.length) (hj : j < l.length) (e : l[i] = l[j]) : i = j := by
  have := List.pairwise_iff_getElem.1 h
  rcases Nat.lt_trichotomy i j with h1 | h1 | h1
  · exact absurd e (this i j hi hj h1)
  · exact h1
  · exact absurd e.symm (this j i hj hi h1)
def idsL (l : List Rc) : List Nat := l.map (·.id)
theorem idxP_ids (id : Nat) (l l' : List Rc) (h : idsL l = idsL l') : idxP (fun r => r.id == id) l = idxP (fun r => r.id == id) l' := by
  have e : ∀ l : List Rc, l.findIdx? (fun r => r.id == id) = (idsL l).findIdx? (· == id) := fun l => by
    unfold idsL
    rw [List.findIdx?_map]
    rfl
  unfold idxP
  rw [e, e, h]
/-- Records as they are kept. -/
structure GoodB (pn : Nat) (l : List Rc) : Prop where
  recs : ∀ r ∈ l, r.ok ∧ r.val.length ≤ 15
  len : l.length ≤ 5 * pn
  ids : (idsL l).Nodup
theorem GoodB.nil (pn : Nat) : GoodB pn [] := ⟨fun r h => by simp at h, by simp, by simp [idsL]⟩
theorem ids_ghost (l : List Rc) (k : Nat) (b : Bool) : idsL (ghostAt l k b) = idsL l := by
  apply List.ext_getElem?
  intro i
  simp only [idsL, ghostAt, List.getElem?_map, List.getElem?_modify]
  by_cases e : k = i <;> simp [e] <;> cases l[i]? <;> simp
theorem ghost_mem {l : List Rc} {k : Nat} {b : Bool} {r : Rc} (h : r ∈ ghostAt l k b) : ∃ r' ∈ l, r.id = r'.id ∧ r.key = r'.key ∧ r.x = r'.x ∧ r.y = r'.y ∧ r.val = r'.val := by
  obtain ⟨i, hi⟩ := List.mem_iff_getElem?.1 h
  rw [ghostAt, List.getElem?_modify] at hi
  cases e : l[i]? with
  | none => rw [e] at hi; split at hi <;> simp at hi
  | some r' =>
    rw [e] at hi
    refine ⟨r', List.mem_iff_getElem?.2 ⟨i, e⟩, ?_⟩
    split at hi <;> simp at hi <;> subst hi <;> exact ⟨rfl, rfl, rfl, rfl, rfl⟩
theorem GoodB.add {pn : Nat} {l : List Rc} (h : GoodB pn l) {r : Rc} (hr : r.ok) : GoodB pn (addR pn l r).1 := by
  unfold addR
  split
  · exact h
  · next h1 =>
    split
    · exact h
    · next h2 =>
      split
      · exact h
      · next h3 =>
        refine ⟨fun x hx => ?_, by simp; omega, ?_⟩
        · rcases List.mem_append.1 hx with hx | hx
          · exact h.recs x hx
          · rw [List.mem_singleton.1 hx]
            exact ⟨hr, by omega⟩
        · unfold idsL
          rw [List.map_append, List.nodup_append]
          refine ⟨h.ids, by simp, fun a ha b hb => ?_⟩
          obtain ⟨x, hx, rfl⟩ := List.mem_map.1 ha
          have := idxP_no h2 x hx
          simp at hb
          subst hb
          simpa using this
theorem GoodB.dropAt {pn : Nat} {l : List Rc} (h : GoodB pn l) (k : Nat) : GoodB pn (dropAt l k) := by
  unfold Go.Proofs.Ytpffnjnncgmgnaa.dropAt
  refine ⟨fun x hx => h.recs x (List.mem_of_mem_eraseIdx hx), ?_, ?_⟩
  · have := h.len
    rw [List.length_eraseIdx]
    split <;> omega
  · exact h.ids.sublist ((List.eraseIdx_sublist l k).map _)
theorem GoodB.drop {pn : Nat} {l : List Rc} (h : GoodB pn l) (id : Nat) : GoodB pn (dropR l id).1 := by
  unfold dropR
  split
  · exact h.dropAt _
  · exact h
theorem GoodB.ghost {pn : Nat} {l : List Rc} (h : GoodB pn l) (k : Nat) (b : Bool) : GoodB pn (ghostAt l k b) := by
  refine ⟨fun x hx => ?_, by rw [ghostAt_length]; exact h.len, by rw [ids_ghost]; exact h.ids⟩
  obtain ⟨r, hr, e1, e2, e3, e4, e5⟩ := ghost_mem hx
  obtain ⟨⟨a1, a2, a3, a4⟩, a5⟩ := h.recs r hr
  exact ⟨⟨by rw [e1]; exact a1, by rw [e2]; exact a2, by rw [e3]; exact a3, by rw [e4]; exact a4⟩, by rw [e5]; exact a5⟩
theorem GoodB.mark {pn : Nat} {l : List Rc} (h : GoodB pn l) (id : Nat) (b : Bool) : GoodB pn (markR l id b).1 := by
  unfold markR
  split
  · exact h.ghost _ _
  · exact h
/-- The records behind an act. -/
def stepR (pn : Nat) (l : List Rc) (o : Op13) : List Rc := if o.kind = 0 ∨ o.kind = 1 then (addR pn l o.r).1 else if o.kind = 2 then (dropR l o.r.id).1 else (markR l o.r.id (decide (o.kind = 3))).1
theorem GoodB.step {pn : Nat} {l : List Rc} (h : GoodB pn l) {o : Op13} (ho : o.r.ok) : GoodB pn (stepR pn l o) := by
  unfold stepR
  split
  · exact h.add ho
  · split
    · exact h.drop _
    · exact h.mark _ _
/-- The records behind the first k acts. -/
def madeR (pn : Nat) (l : List Op13) (k : Nat) : List Rc := (l.take k).foldl (stepR pn) []
theorem madeR_succ (pn : Nat) (l : List Op13) (k : Nat) (hk : k < l.length) : madeR pn l (k + 1) = stepR pn (madeR pn l k) l[k] := by
  unfold madeR
  rw [List.take_succ_eq_append_getElem hk, List.foldl_append]
  rfl
theorem good_made {pn : Nat} {l : List Op13} (h : ∀ o ∈ l, o.r.ok) : ∀ k, k ≤ l.length → GoodB pn (madeR pn l k)
  | 0, _ => GoodB.nil pn
  | k + 1, hk => by
    rw [madeR_succ pn l k hk]
    exact (good_made h k (by omega)).step (h _ (List.getElem_mem hk))
/-! ### Marked and called back -/
theorem ghost_at (l : List Rc) (k i : Nat) (b : Bool) (hi : i < l.length) : (ghostAt l k b)[i]'(by rw [ghostAt_length]; exact hi) = if k = i then { l[i] with ghost := b } else l[i] := by
  simp only [ghostAt, List.getElem_modify]
theorem ghost_back (l : List Rc) (k : Nat) (b : Bool) (hk : k < l.length) : ghostAt (ghostAt l k b) k l[k].ghost = l := by
  refine List.ext_getElem (by rw [ghostAt_length, ghostAt_length]) fun i h1 h2 => ?_
  rw [ghost_at _ _ _ _ (by rw [ghostAt_length]; exact h2), ghost_at _ _ _ _ h2]
  by_cases e : k = i
  · subst e
    simp
  · simp [e]
theorem mark_yes {l : List Rc} {id q : Nat} (h : idxP (fun r => r.id == id) l = (q : Int)) (b : Bool) : markR l id b = (ghostAt l q b, true) := by
  unfold markR
  rw [h, if_pos (by omega)]
  rfl
theorem mark_no {l : List Rc} {id : Nat} (h : idxP (fun r => r.id == id) l = -1) (b : Bool) : markR l id b = (l, false) := by
  unfold markR
  rw [h, if_neg (by omega)]
theorem live_ghost {l : List Rc} {q key : Nat} (hq : q < l.length) : idxP (isLive key) (ghostAt l q true) ≠ (q : Int) := fun h => by
  obtain ⟨h1, h2⟩ := idxP_lt h
  rw [ghost_at l q q true hq] at h2
  simp [isLive] at h2
theorem drop_yes {l : List Rc} {id q : Nat} (h : idxP (fun r => r.id == id) l = (q : Int)) : dropR l id = (dropAt l q, true) := by
  unfold dropR
  rw [h, if_pos (by omega)]
  rfl
theorem id_of {l : List Rc} {id q : Nat} (h : idxP (fun r => r.id == id) l = (q : Int)) : ∃ hq : q < l.length, l[q].id = id := by
  obtain ⟨h1, h2⟩ := idxP_lt h
  exact ⟨h1, by simpa using h2⟩
theorem dropAt_length (l : List Rc) {q : Nat} (hq : q < l.length) : (dropAt l q).length = l.length - 1 := by
  unfold dropAt
  rw [List.length_eraseIdx, if_pos hq]
theorem dropAt_get (l : List Rc) (q k : Nat) (hk : k < (dropAt l q).length) : ∃ h : (if k < q then k else k + 1) < l.length, (dropAt l q)[k] = l[if k < q then k else k + 1] := by
  have hl : k < (l.eraseIdx q).length := hk
  have hle := List.length_eraseIdx (l := l) (i := q)
  refine ⟨by rw [hle] at hl; split at hl <;> split <;> omega, ?_⟩
  show (l.eraseIdx q)[k] = _
  rw [List.getElem_eraseIdx]
  by_cases e : k < q
  · simp [e]
  · simp [e]
theorem drop_gone {l : List Rc} {id q : Nat} (hd : (idsL l).Nodup) (h : idxP (fun r => r.id == id) l = (q : Int)) : ∀ x ∈ dropAt l q, (x.id == id) = false := by
  obtain ⟨hq, hid⟩ := id_of h
  intro x hx
  obtain ⟨k, hk, rfl⟩ := List.getElem_of_mem hx
  obtain ⟨h1, e⟩ := dropAt_get l q k hk
  rw [e]
  apply Bool.eq_false_iff.2
  intro hc
  have hc := eq_of_beq hc
  have hne : (if k < q then k else k + 1) ≠ q := by split <;> omega
  have := nodup_inj hd (i := if k < q then k else k + 1) (j := q) (by simpa [idsL] using h1) (by simpa [idsL] using hq) (by simp only [idsL, List.getElem_map]; rw [hc, hid])
  exact hne this
theorem add_again {pn : Nat} {l : List Rc} {id q : Nat} (hg : GoodB pn l) (h : idxP (fun r => r.id == id) l = (q : Int)) (hq : q < l.length) : addR pn (dropAt l q) l[q] = (dropAt l q ++ [l[q]], 0) := by
  obtain ⟨_, hid⟩ := id_of h
  have hn := dropAt_length l hq
  have := hg.len
  unfold addR
  rw [if_neg (by omega), if_neg (by rw [hid, idxP_none' (drop_gone hg.ids h)]; omega), if_neg (by have := (hg.recs l[q] (List.getElem_mem hq)).2; omega)]
theorem find_again {l : List Rc} {id q : Nat} (hd : (idsL l).Nodup) (h : idxP (fun r => r.id == id) l = (q : Int)) (hq : q < l.length) : idxP (fun r => r.id == id) (dropAt l q ++ [l[q]]) = ((l.length - 1 : Nat) : Int) := by
  obtain ⟨_, hid⟩ := id_of h
  have hn := dropAt_length l hq
  refine idxP_at (by simp; omega) (fun j hj hlt => ?_) ?_
  · rw [List.getElem_append_left (by omega)]
    exact drop_gone hd h _ (List.getElem_mem _)
  · rw [List.getElem_append_right (by omega)]
    simp [hid]
end Go.Proofs.Ytpffnjnncgmgnaa
