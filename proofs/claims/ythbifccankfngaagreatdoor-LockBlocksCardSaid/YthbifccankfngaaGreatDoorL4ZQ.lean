/-
  What holds of the two tables along the law's acts: that all that is stored is in range, and how much there is.
  Conditions: none beyond those that each theorem names.
-/
import Derived.Test.YthbifccankfngaaGreatDoorL2ZQ
import Derived.Test.YthbifccankfngaaGreatDoorR11ZQ
import Derived.Test.YthbifccankfngaaGreatDoorR13ZQ
import Derived.Test.YthbifccankfngaaGreatDoorK24ZQ
namespace Go.Proofs.YthbifccankfngaaGreatDoor
open Go.RowKit Go.Shelf
set_option maxRecDepth 20000

theorem nodup_len {α : Type} [DecidableEq α] : ∀ (ks m : List α), ks.Nodup → ks ⊆ m → ks.length ≤ m.length
  | [], _, _, _ => Nat.zero_le _
  | a :: ks, m, hn, hs => by
    rw [List.nodup_cons] at hn
    have ha : a ∈ m := hs (by simp)
    have ih := nodup_len ks (m.erase a) hn.2 (fun x hx => by
      have hne : x ≠ a := fun e => hn.1 (e ▸ hx)
      exact (List.mem_erase_of_ne hne).2 (hs (by simp [hx])))
    rw [List.length_erase_of_mem ha] at ih
    have := List.length_pos_of_mem ha
    simp
    omega
def OkC (c : Cl) : Prop := RsOk c.1 ∧ U64 c.2.1
/-- All that is stored is in range. -/
structure OkU (u : TR) : Prop where
  h : ∀ c ∈ u.held, OkC c
  q : ∀ c ∈ u.queue, OkC c
def tot (u : TR) : Nat := u.held.length + u.queue.length
theorem okU_grant {u : TR} (h : OkU u) {c : Cl} (hc : OkC c) {q : List Cl} (hq : ∀ d ∈ q, OkC d) : OkU ⟨grantR u.held c, q⟩ := ⟨fun d hd => by
  rcases mem_grant hd with rfl | ⟨h1, _⟩
  · exact hc
  · exact h.h d h1, hq⟩
theorem mem_dropR {r : Rs} {d : Cl} : ∀ {q : List Cl}, d ∈ dropR r q → d ∈ q
  | [], h => by cases h
  | x :: q, h => by
    rw [dropR] at h
    split at h
    · exact List.mem_cons_of_mem _ h
    · rcases List.mem_cons.1 h with rfl | h
      · exact List.mem_cons_self
      · exact List.mem_cons_of_mem _ (mem_dropR h)
theorem okU_wakeL (r : Rs) : ∀ (q : List Cl) (u : TR), OkU u → (∀ d ∈ q, OkC d) → OkU (wakeL r q u).1
  | [], u, h, _ => h
  | c :: q, u, h, hq => by
    rw [wakeL]
    split
    · exact okU_wakeL r q _ (okU_grant h (hq c (by simp)) (fun d hd => h.q d (mem_dropR hd))) (fun d hd => hq d (by simp [hd]))
    · exact h
theorem okU_wakeR {u : TR} (h : OkU u) (r : Rs) : OkU (wakeR u r).1 := okU_wakeL r _ u h fun d hd => h.q d (mem_ofR.1 hd).1
theorem okU_wakes : ∀ (l : List Rs) (u : TR), OkU u → OkU (wakes l u).1
  | [], _, h => h
  | r :: l, _, h => okU_wakes l _ (okU_wakeR h r)
theorem okU_release {u : TR} (h : OkU u) (t : Nat) : OkU (releaseR u t).1 := okU_wakes _ _ ⟨fun d hd => h.h d (List.mem_filter.1 hd).1, fun d hd => h.q d (List.mem_filter.1 hd).1⟩
theorem okU_cancel {u : TR} (h : OkU u) (t : Nat) : OkU (cancelR u t).1 := by
  unfold cancelR
  cases waitR u.queue t with
  | none => exact h
  | some c => exact okU_wakeR (u := ⟨u.held, withoutR u.queue t⟩) ⟨h.h, fun d hd => h.q d (List.mem_filter.1 hd).1⟩ c.1
theorem okU_lock {u : TR} (h : OkU u) (t : Nat) (r : Rs) (m : Int) (ht : U64 t) (hr : RsOk r) : OkU (lockR u t r m).1 := by
  unfold lockR
  split
  · exact h
  split
  · exact h
  split
  · exact h
  split
  · exact okU_grant h ⟨hr, ht⟩ h.q
  · refine ⟨h.h, fun d hd => ?_⟩
    split at hd
    · rcases List.mem_cons.1 ((ins_mem _ _ _).mem_iff.1 hd) with rfl | hd
      · exact ⟨hr, ht⟩
      · exact h.q d hd
    · rcases List.mem_append.1 hd with hd | hd
      · exact h.q d hd
      · simp at hd
        rw [hd]
        exact ⟨hr, ht⟩
theorem tot_lock (u : TR) (t : Nat) (r : Rs) (m : Int) : tot (lockR u t r m).1 ≤ tot u + 1 := by
  unfold lockR tot
  split
  · simp
  split
  · simp
  split
  · simp
  split
  · have := grant_len u.held (r, t, jn (modeR u.held t r) m)
    have e : (r, t, jn (modeR u.held t r) m).2.1 = t := rfl
    show (grantR u.held (r, t, jn (modeR u.held t r) m)).length + u.queue.length ≤ u.held.length + u.queue.length + 1
    omega
  · split
    · have := (ins_mem u.held (r, t, jn (modeR u.held t r) m) u.queue).length_eq
      simp at this
      simp [this]
      omega
    · simp
      omega
theorem tot_release (u : TR) (t : Nat) : tot (releaseR u t).1 ≤ tot u := by
  have h := wakes_tot (thingsR ⟨byT u.held t, byT u.queue t⟩) ⟨withoutR u.held t, withoutR u.queue t⟩
  have h1 : (withoutR u.held t).length ≤ u.held.length := List.length_filter_le _ _
  have h2 : (withoutR u.queue t).length ≤ u.queue.length := List.length_filter_le _ _
  unfold tot releaseR
  have h3 : (wakes (thingsR ⟨byT u.held t, byT u.queue t⟩) ⟨withoutR u.held t, withoutR u.queue t⟩).1.held.length + (wakes (thingsR ⟨byT u.held t, byT u.queue t⟩) ⟨withoutR u.held t, withoutR u.queue t⟩).1.queue.length ≤ (withoutR u.held t).length + (withoutR u.queue t).length := h
  omega
theorem tot_cancel (u : TR) (t : Nat) : tot (cancelR u t).1 ≤ tot u := by
  unfold cancelR
  cases waitR u.queue t with
  | none => exact Nat.le_refl _
  | some c =>
    have h := (wakeR_tot ⟨u.held, withoutR u.queue t⟩ c.1).1
    have h2 : (withoutR u.queue t).length ≤ u.queue.length := List.length_filter_le _ _
    have h3 : (wakeR ⟨u.held, withoutR u.queue t⟩ c.1).1.held.length + (wakeR ⟨u.held, withoutR u.queue t⟩ c.1).1.queue.length ≤ u.held.length + (withoutR u.queue t).length := h
    show (wakeR ⟨u.held, withoutR u.queue t⟩ c.1).1.held.length + (wakeR ⟨u.held, withoutR u.queue t⟩ c.1).1.queue.length ≤ u.held.length + u.queue.length
    omega
section
variable {s : TS} {u : TR}
theorem Rel.sm (h : Rel s u) {N : Nat} (hN : tot u ≤ N) : SmS s N := by
  unfold tot at hN
  refine ⟨fun r => ?_, fun t => ?_⟩
  · have e := h.at_ r
    unfold AtR at e
    rw [e]
    have h1 : (ofR u.held r).length ≤ u.held.length := List.length_filter_le _ _
    have h2 : (ofR u.queue r).length ≤ u.queue.length := List.length_filter_le _ _
    simp only [cms, List.length_map]
    omega
  · rw [(h.r0.ow t).length_eq, List.length_map]
    have h1 : (byT u.held t).length ≤ u.held.length := List.length_filter_le _ _
    omega
theorem Rel.okq (h : Rel s u) (ho : OkU u) (r : Rs) : OkQ s r := fun c hc => by
  have e := h.at_ r
  unfold AtR at e
  rw [e] at hc
  obtain ⟨x, hx, rfl⟩ := List.mem_map.1 hc
  exact (ho.q x (mem_ofR.1 hx).1).2
theorem Rel.okw (h : Rel s u) (ho : OkU u) {t : Nat} {r : Rs} (hw : s.wt t = some r) : RsOk r := by
  rw [h.r0.wt] at hw
  cases hq : waitR u.queue t with
  | none => rw [hq] at hw; cases hw
  | some c =>
    rw [hq] at hw
    injection hw with hw
    rw [← hw]
    exact (ho.q c (List.mem_of_find?_eq_some hq)).1
theorem Rel.okm (h : Rel s u) (ho : OkU u) (t : Nat) : ∀ r ∈ mineI s t, RsOk r := fun r hr => by
  obtain ⟨c, hc, rfl⟩ := ((mine_spec h t).2 r).1 hr
  rcases hc with hc | hc
  · exact (ho.h c (mem_byT.1 hc).1).1
  · exact (ho.q c (mem_byT.1 hc).1).1
theorem Rel.count (h : Rel s u) {N : Nat} (hN : tot u ≤ N) (ks : List Rs) (hn : ks.Nodup) (ha : ∀ a ∈ ks, (s.th a).isSome = true) : ks.length ≤ N := by
  have hs : ks ⊆ u.held.map (·.1) := fun a hm => by
    have h1 := ha a hm
    have h2 := h.dom a
    unfold DomR at h2
    rw [h1] at h2
    cases hx : ofR u.held a with
    | nil => rw [hx] at h2; simp at h2
    | cons c l =>
      have : c ∈ ofR u.held a := by rw [hx]; simp
      obtain ⟨h3, h4⟩ := mem_ofR.1 this
      exact List.mem_map.2 ⟨c, h3, h4⟩
  have := nodup_len ks (u.held.map (·.1)) hn hs
  rw [List.length_map] at this
  unfold tot at hN
  omega
theorem Rel.ok_of (h : Rel s u) (ho : OkU u) {r : Rs} (hr : (s.th r).isSome = true) : RsOk r := by
  have h2 := h.dom r
  unfold DomR at h2
  rw [hr] at h2
  cases hx : ofR u.held r with
  | nil => rw [hx] at h2; simp at h2
  | cons c l =>
    have : c ∈ ofR u.held r := by rw [hx]; simp
    obtain ⟨h3, h4⟩ := mem_ofR.1 this
    rw [← h4]
    exact (ho.h c h3).1
theorem rel_empty : Rel emptyS ⟨[], []⟩ := by
  refine ⟨⟨fun t => ?_, fun t => rfl⟩, ⟨List.Pairwise.nil, List.Pairwise.nil, (fun c h => by cases h), (fun c h => by cases h), (fun a h => by cases h)⟩, (fun r => rfl), (fun r => rfl), (fun r c h => by cases h)⟩
  exact List.Perm.refl _
end
/-- Rows of the reference stay off the table's blocks over a call on the table. -/
theorem rtv_tw {X X' : Nat → Prop} {w w' : World} {A1 A2 : Option Addr} {n1 n2 : Nat} {u : TR} (h : RtV X w A1 n1 A2 n2 u) (hm : Mod X w w') (hx : ∀ k, X' k → X k ∨ w.heap.size ≤ k) : RtV X' w' A1 n1 A2 n2 u :=
  (h.wide (Y := fun k => X k ∨ X' k) (fun k hk hkk => by
    rcases hkk with hkk | hkk
    · exact hkk
    · rcases hx k hkk with h | h
      · exact h
      · omega)).kept (hm.mono fun k _ hk => .inl hk) |>.wide (fun k _ hk => .inr hk)
end Go.Proofs.YthbifccankfngaaGreatDoor
