/-
  What granting leaves of the queues; sizes along a release.
  Conditions: none beyond those that each theorem names.
-/
import Derived.Test.YthbifccankfngaaGreatDoorK21ZQ
namespace Go.Proofs.YthbifccankfngaaGreatDoor
open Go.RowKit Go.Shelf
set_option maxRecDepth 20000

theorem th_at_ne (s : TS) (r r' : Rs) (v : Option (List Cm × List Cm)) (h : r' ≠ r) : ({ s with th := upd s.th r v } : TS).at r' = s.at r' := by simp [TS.at, upd, h]
theorem step_sub (s : TS) (r : Rs) (c : Cm) (r' : Rs) : (((stepI s r c).at r').2).Sublist (s.at r').2 := by
  by_cases e : r' = r
  · subst e
    rw [step_q]
    exact List.filter_sublist
  · have h := (hold_th { s with th := upd s.th r (some ((s.at r).1, notT c.1 (s.at r).2)) } r c).2.2.1 r' e
    have e2 : (stepI s r c).at r' = s.at r' := by
      show ((stepI s r c).th r').getD ([], []) = _
      have : (stepI s r c).th r' = (holdI { s with th := upd s.th r (some ((s.at r).1, notT c.1 (s.at r).2)) } r c).th r' := rfl
      rw [this, h]
      simp [TS.at, upd, e]
    rw [e2]
    exact List.Sublist.refl _
theorem end_sub (s : TS) (r r' : Rs) : (((endI s r).at r').2).Sublist (s.at r').2 := by
  unfold endI
  split
  · by_cases e : r' = r
    · subst e
      simp [TS.at, upd]
    · rw [th_at_ne s r r' none e]
      exact List.Sublist.refl _
  · exact List.Sublist.refl _
theorem grant_sub (r r' : Rs) : ∀ (n : Nat) (s : TS), (((grantI n s r).1.at r').2).Sublist (s.at r').2
  | 0, s => end_sub s r r'
  | n + 1, s => by
    unfold grantI
    split
    · exact end_sub s r r'
    · split
      · exact (grant_sub r r' n _).trans (step_sub s r _ r')
      · exact end_sub s r r'
theorem sm_end {s : TS} {N : Nat} (h : SmS s N) (r : Rs) : SmS (endI s r) N := by
  unfold endI
  split
  · refine ⟨fun r' => ?_, h.2⟩
    by_cases e : r' = r
    · subst e
      simp [TS.at, upd]
    · rw [th_at_ne s r r' none e]
      exact h.1 r'
  · exact h
theorem sm_grant (r : Rs) : ∀ (n : Nat) (s : TS) (N : Nat), SmS s N → SmS (grantI n s r).1 (N + n)
  | 0, s, N, h => sm_end h r
  | n + 1, s, N, h => by
    unfold grantI
    split
    · exact (sm_end h r).mono (by omega)
    · split
      · exact (sm_grant r n _ (N + 1) (sm_step h r _)).mono (by omega)
      · exact (sm_end h r).mono (by omega)
theorem grant_len2 (r : Rs) : ∀ (n : Nat) (s : TS), (grantI n s r).2.length ≤ n
  | 0, s => by simp [grantI]
  | n + 1, s => by
    unfold grantI
    split
    · simp
    · split
      · have := grant_len2 r n
        simp only [List.length_cons]
        exact Nat.succ_le_succ (this _)
      · simp
theorem drop_at (s : TS) (r : Rs) (t : Nat) : (dropI s r t).at r = (notT t (s.at r).1, notT t (s.at r).2) := at_upd s r _
theorem drop_sub (s : TS) (r r' : Rs) (t : Nat) : (((dropI s r t).at r').2).Sublist (s.at r').2 := by
  by_cases e : r' = r
  · subst e
    rw [drop_at]
    exact List.filter_sublist
  · unfold dropI
    rw [th_at_ne s r r' _ e]
    exact List.Sublist.refl _
theorem sm_drop {s : TS} {N : Nat} (h : SmS s N) (r : Rs) (t : Nat) : SmS (dropI s r t) N :=
  sm_th h r _ (Nat.le_trans (notT_len _ _) (h.1 r).1) (Nat.le_trans (notT_len _ _) (h.1 r).2)
end Go.Proofs.YthbifccankfngaaGreatDoor
