/-
  What the law LockBlocks calls, beside the document's table.
  Conditions: at most 60 acts.
-/
import Derived.Test.YthbifccankfngaaGreatDoorLC0ZQ
import Derived.Test.YthbifccankfngaaGreatDoorOAZQ
import Derived.Test.YthbifccankfngaaGreatDoorOBZQ
namespace Go.Proofs.YthbifccankfngaaGreatDoor
open Go.RowKit Go.Shelf
set_option maxRecDepth 20000

theorem idx_take {α : Type} (p : α → Bool) : ∀ (l : List α) (i : Nat), l.findIdx? p = some i → ∃ h : i < l.length, p l[i] = true ∧ l.takeWhile (fun x => !p x) = l.take i
  | [], i, h => by simp at h
  | x :: l, i, h => by
    rw [List.findIdx?_cons] at h
    by_cases hx : p x = true
    · rw [if_pos hx] at h
      injection h with h
      subst h
      exact ⟨Nat.zero_lt_succ _, hx, by rw [List.takeWhile_cons, if_neg (by simp [hx])]; rfl⟩
    · rw [if_neg hx] at h
      cases hf : l.findIdx? p with
      | none =>
        rw [hf] at h
        cases h
      | some k =>
        rw [hf] at h
        injection h with h
        subst h
        obtain ⟨h1, h2, h3⟩ := idx_take p l k hf
        exact ⟨Nat.succ_lt_succ h1, h2, by rw [List.takeWhile_cons, if_pos (by simp [hx]), h3]; rfl⟩
theorem pw_eq {l : List Cm} (h : l.Pairwise fun a b => a.1 ≠ b.1) {a b : Cm} (ha : a ∈ l) (hb : b ∈ l) (e : a.1 = b.1) : a = b := by
  rw [List.pairwise_iff_getElem] at h
  obtain ⟨i, hi, rfl⟩ := List.getElem_of_mem ha
  obtain ⟨j, hj, rfl⟩ := List.getElem_of_mem hb
  rcases Nat.lt_trichotomy i j with h1 | h1 | h1
  · exact absurd e (h i j hi hj h1)
  · subst h1
    rfl
  · exact absurd e.symm (h j i hj hi h1)
section
variable {w0 z : World} {g b4 k : Nat} {X : Nat → Prop} {s : TS} {A1 A2 : Option Addr} {n1 c1 n2 c2 : Nat} {u : TR}
theorem LdS.le (h : LdS w0 g b4 k X s A1 n1 c1 A2 n2 c2 u z) (hk : k ≤ 200) : n1 ≤ 100000 ∧ n2 ≤ 100000 := by
  have h1 := h.two.rt.h.rclen
  have h2 := h.two.rt.q.rclen
  have h3 := h.two.sz
  unfold tot at h3
  omega
/-- What Blocks tells, sorted, each one once. -/
structure BlkR (u : TR) (t : Nat) (l : List Nat) : Prop where
  up : l.Pairwise (· < ·)
  mem : ∀ x, x ∈ l ↔ blocksR u t x = true
  ne : l = [] ↔ waitR u.queue t = none
theorem blocks_l (h : LdS w0 g b4 k X s A1 n1 c1 A2 n2 c2 u z) (hk : k ≤ 200) (t : Nat) (ht : U64 t) :
    Calls Tryz.prog 15 #[.pointer (some ⟨g, 0, none⟩), .int .u64 (t : Int)] z (fun e z' => ∃ A n c, ∃ l : List Nat, e = .returned (.slice A n c) ∧ l.length = n ∧ n ≤ 9223372036854775807 ∧ BlkR u t l ∧ Lz (fun _ => False) z' 1 A n (UC l) ∧ Below z.heap.size z z') := by
  have hwt := h.two.rel.r0.wt t
  cases hw : waitR u.queue t with
  | none =>
    rw [hw] at hwt
    refine (blocks_idle X g s t z h.two.tt ht hwt).mono ?_
    rintro e z' ⟨rfl, hb⟩
    refine ⟨none, 0, 0, [], rfl, rfl, by omega, ⟨List.Pairwise.nil, fun x => ?_, by simp [hw]⟩, Lz.empty, hb⟩
    unfold blocksR
    rw [hw]
    simp
  | some c =>
    rw [hw] at hwt
    have hws : s.wt t = some c.1 := hwt
    obtain ⟨hc1, hc2⟩ := wait_some hw
    have hat_ := h.two.rel.at_ c.1
    unfold AtR at hat_
    have e1 : (s.at c.1).1 = cms (ofR u.held c.1) := by rw [hat_]
    have e2 : (s.at c.1).2 = cms (ofR u.queue c.1) := by rw [hat_]
    have hin : c.2 ∈ (s.at c.1).2 := by
      rw [e2]
      exact List.mem_map.2 ⟨c, mem_ofR.2 ⟨hc1, rfl⟩, rfl⟩
    have hpw : ((s.at c.1).2).Pairwise fun a b => a.1 ≠ b.1 := by
      rw [e2]
      exact pw_cms (pw_ofR (h.two.rel.i0.uq.imp fun hab hh => hab hh.2) c.1)
    cases hf : (s.at c.1).2.findIdx? (fun d => d.1 == t) with
    | none =>
      have := List.findIdx?_eq_none_iff.1 hf c.2 hin
      simp [hc2] at this
    | some ax =>
      obtain ⟨hax, hp, htk⟩ := idx_take _ _ _ hf
      have hcx : (s.at c.1).2[ax] = c.2 := pw_eq hpw (List.getElem_mem hax) hin (by rw [hc2]; simpa using hp)
      have hL : blkI (s.at c.1).1 (s.at c.1).2 c.2 = ((s.at c.1).1.filter fun x => hind x (s.at c.1).2[ax]).map (·.1) ++ ((s.at c.1).2.take ax).map (·.1) := by
        unfold blkI
        rw [hcx, ← htk, hc2]
        rfl
      have hm := blk_mem h.two.rel hw
      have hne := blk_ne h.two.rel hw
      generalize blkI (s.at c.1).1 (s.at c.1).2 c.2 = L at hL hm hne
      refine (blocks_wait X g s t c.1 z h.two.tt h.two.tb h.two.x2 (h.two.rel.okw h.two.ok hws) ht ((h.two.rel.sm (Nat.le_trans h.two.sz hk)).mono (by omega)) hws ax hax hf L hL hne).mono ?_
      rintro e z' ⟨v, l2, rfl, ⟨p1, p2⟩, ho, hb⟩
      obtain ⟨A, cc, rfl, hcc⟩ := own_slice ho
      refine ⟨A, l2.length, cc, l2, rfl, rfl, ?_, ⟨p1, fun x => (p2 x).trans (hm x), ⟨fun hl => ?_, fun hn => by cases hw.symm.trans hn⟩⟩, Lz.of_own ho (fun _ h => h.elim), hb⟩
      · rcases ho.2 with ⟨_, h0⟩ | ⟨_, cap, _, e, _, _, h3, h4, _⟩
        · omega
        · simp only [maxLen] at h4
          omega
      · obtain ⟨x, hx⟩ := List.exists_mem_of_ne_nil _ hne
        have := (p2 x).2 hx
        rw [hl] at this
        cases this
theorem rblocks_l (h : LdS w0 g b4 k X s A1 n1 c1 A2 n2 c2 u z) (hk : k ≤ 200) (t o : Nat) (b : Bool) (hb : blocksR u t o = b) :
    Calls Tryz.prog 17 #[.agg (rtA A1 A2 n1 c1 n2 c2), .int .u64 (t : Int), .int .u64 (o : Int)] z (RetB z (.bool b)) := by
  rw [← hb]
  exact rBlocks_any A1 A2 n1 c1 n2 c2 u t o z (lz_wide h.two.rt.h fun _ _ hf => hf.elim) (lz_wide h.two.rt.q fun _ _ hf => hf.elim) (h.le hk).1 (h.le hk).2
theorem rwaits_l (h : LdS w0 g b4 k X s A1 n1 c1 A2 n2 c2 u z) (hk : k ≤ 200) (t : Nat) (i : Int) (hi : wIdx u.queue t = i) :
    Calls Tryz.prog 16 #[.agg (rtA A1 A2 n1 c1 n2 c2), .int .u64 (t : Int)] z (RetB z (.int .i64 i)) := by
  rw [← hi]
  exact rWaits_any A1 A2 n1 c1 n2 c2 u.queue t z (lz_wide h.two.rt.q fun _ _ hf => hf.elim) (h.le hk).2
end
/-- Something is told just when one waits. -/
theorem blk_pos {u : TR} {t : Nat} {l : List Nat} {n : Nat} (h : BlkR u t l) (hn : l.length = n) : decide ((0 : Int) < (n : Int)) = decide (0 ≤ wIdx u.queue t) := by
  subst hn
  rcases wait_idx u.queue t with ⟨h1, h2⟩ | ⟨i, _, h1, h2, _⟩
  · rw [h.ne.2 h1, h2]
    rfl
  · have : l ≠ [] := fun e => by cases h2.symm.trans (h.ne.1 e)
    have h3 := List.length_pos_iff.2 this
    rw [h1, decide_eq_true (by omega), decide_eq_true (by omega)]
end Go.Proofs.YthbifccankfngaaGreatDoor
