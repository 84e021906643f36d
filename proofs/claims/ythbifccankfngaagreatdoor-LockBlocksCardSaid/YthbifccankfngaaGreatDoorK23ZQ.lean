/-
  What Release's loop carries along.
  Conditions: none beyond those that each theorem names.
-/
import Derived.Test.YthbifccankfngaaGreatDoorK22ZQ
namespace Go.Proofs.YthbifccankfngaaGreatDoor
open Go.RowKit Go.Shelf
set_option maxRecDepth 20000

theorem setF_twice {I β : Type} [DecidableEq I] (f : I → β) (i : I) (a b : β) : setF (setF f i a) i b = setF f i b := by
  funext x
  by_cases h : x = i
  · subst h; rw [setF_same, setF_same]
  · rw [setF_ne _ _ h, setF_ne _ _ h, setF_ne _ _ h]
theorem setF_id {I β : Type} [DecidableEq I] (f : I → β) (i : I) (a : β) (h : f i = a) : setF f i a = f := by
  funext x
  by_cases e : x = i
  · subst e; rw [setF_same, h]
  · rw [setF_ne _ _ e]
theorem row_no (s : TS) (t : Nat) (i : RI) : setF (rowI s) (.own t) [] i = rowI (noI s t) i := by
  cases i with
  | hold r => rw [setF_ne _ _ (by intro e; cases e)]; rfl
  | queue r => rw [setF_ne _ _ (by intro e; cases e)]; rfl
  | own t' =>
    by_cases e : t' = t
    · subst e; rw [setF_same]; simp [rowI, noI, upd]
    · rw [setF_ne _ _ (by intro e2; injection e2 with e2; exact e e2)]; simp [rowI, noI, upd, e]
theorem sm_no {s : TS} {N : Nat} (h : SmS s N) (t : Nat) : SmS (noI s t) N := by
  refine ⟨h.1, fun t' => ?_⟩
  by_cases e : t' = t
  · subst e; simp [noI, upd]
  · have : (noI s t).ow t' = s.ow t' := by simp [noI, upd, e]
    rw [this]
    exact h.2 t'
def waitsI (s : TS) (t : Nat) : Option Rs → List Rs
  | none => []
  | some r => if heldI (s.at r).1 t = 0 then [r] else []
theorem mine_eq (s : TS) (t : Nat) : mineI s t = (s.ow t).getD [] ++ waitsI s t (s.wt t) := by
  unfold mineI waitsI
  cases s.wt t <;> rfl
/-- What stands in the cell of the freed row and of the row of resources ahead of the deletes. -/
def RlC (w0 : World) (X : Nat → Prop) (B g b1 b2 b3 : Nat) (s : TS) (V : RI → Value) (t : Nat) (m : List Rs) (v : Value) (z : World) : Prop :=
  ∃ A c, v = .slice A m.length c ∧ Hid (TbR w0 X z B g b1 b2 b3 s V (setF V (.own t) (.slice A m.length c)) (setF (rowI s) (.own t) (m.map rsP)))
/-- The state of Release's loop: begun at w1 on s2; k rounds are done, F was freed, the table is s'. -/
structure RlS (w1 : World) (X1 : Nat → Prop) (g t N : Nat) (l : List Rs) (s2 : TS) (k : Nat) (s' : TS) (F : List Nat) (v : Value) (z : World) : Prop where
  tw : Tw w1 X1 g s' z
  rel : freeI t l s2 = ((freeI t (l.drop k) s').1, F ++ (freeI t (l.drop k) s').2)
  sm : SmS s' (N + k * N)
  q : ∀ r, ((s'.at r).2).Sublist (s2.at r).2
  len : F.length ≤ k * N
  own : z.ownsRow w1.heap.size 31 1 v F.length (UC F)
def RlL (w1 : World) (X1 : Nat → Prop) (g t N : Nat) (l : List Rs) (s2 : TS) (v i : Value) (z : World) : Prop :=
  ∃ k s' F A c, k ≤ l.length ∧ v = .slice A F.length c ∧ i = .int .i64 (k : Int) ∧ Hid (RlS w1 X1 g t N l s2 k s' F (.slice A F.length c) z)
section
variable {w1 : World} {X1 : Nat → Prop} {g t N : Nat} {l : List Rs} {s2 : TS} {k : Nat} {s' : TS} {F : List Nat} {v : Value} {z : World}
theorem RlS.qlen (h : RlS w1 X1 g t N l s2 k s' F v z) (hs : SmS s2 N) (r : Rs) : ((dropI s' r t).at r).2.length ≤ N :=
  Nat.le_trans (((drop_sub s' r r t).trans (h.q r)).length_le) (hs.1 r).2
theorem RlS.next (h : RlS w1 X1 g t N l s2 k s' F v z) (hs : SmS s2 N) (hk : k < l.length) {p : TS × List Nat} (hp : grantA (dropI s' l[k] t) l[k] = p) {v' : Value} {z' : World}
    (tw : Tw w1 X1 g p.1 z') (own : z'.ownsRow w1.heap.size 31 1 v' (F.length + p.2.length) (UC F ++ UC p.2)) : RlS w1 X1 g t N l s2 (k + 1) p.1 (F ++ p.2) v' z' := by
  have hq := h.qlen hs l[k]
  have e : N + (k + 1) * N = N + k * N + N := by rw [Nat.succ_mul]; omega
  refine ⟨tw, ?_, ?_, fun r => ?_, ?_, ?_⟩
  · rw [h.rel, List.drop_eq_getElem_cons hk, freeI, hp]
    simp
  · rw [← hp, e]
    exact (sm_grant l[k] _ _ _ (sm_drop h.sm l[k] t)).mono (by omega)
  · rw [← hp]
    exact ((grant_sub l[k] r _ _).trans (drop_sub s' l[k] r t)).trans (h.q r)
  · have h2 : p.2.length ≤ N := by
      rw [← hp]
      exact Nat.le_trans (grant_len2 l[k] _ _) hq
    have := h.len
    rw [List.length_append, Nat.succ_mul]
    omega
  · rw [List.length_append, UC_append]
    exact own
theorem RlS.done (h : RlS w1 X1 g t N l s2 k s' F v z) (hk : k = l.length) : freeI t l s2 = (s', F) := by
  rw [h.rel, hk, List.drop_length]
  simp [freeI]
theorem small_k {k N n : Nat} (hk : k < n) (hn : n ≤ N + 1) (hN : N ≤ 300) : k * N ≤ 90000 := by
  have h1 : k ≤ 300 := by omega
  exact Nat.le_trans (Nat.mul_le_mul h1 hN) (by omega)
end
/-- The row that was sorted is none of the table's. -/
theorem TbR.freed {w0 w : World} {X : Nat → Prop} {B g b1 b2 b3 : Nat} {s : TS} {V V' : RI → Value} {L : RI → List (Value × Value)} {t : Nat} {v : Value} (h : TbR w0 X w B g b1 b2 b3 s V (setF V' (.own t) v) L) :
    ∀ k, v.ownBlock = some k → ¬ TbX g b1 b2 b3 (setF V' (.own t) nilS) k := by
  intro k hk
  have hk2 : (setF V' (.own t) v (.own t)).ownBlock = some k := by rw [setF_same]; exact hk
  obtain ⟨n1, n2, n3, n4⟩ := h.row_ne hk2
  rintro (h1 | h1 | h1 | h1 | ⟨j, hj⟩)
  · exact n1 h1
  · exact n2 h1
  · exact n3 h1
  · exact n4 h1
  · by_cases e : j = .own t
    · subst e
      rw [setF_same] at hj
      cases hj
    · rw [setF_ne _ _ e] at hj
      refine h.rows.apart (.own t) j (Ne.symm e) k hk2 ?_
      rw [setF_ne _ _ e]
      exact hj
theorem no_n1 {s : TS} {V : RI → Value} (t : Nat) (h : ∀ r, s.th r = none → V (.hold r) = nilS ∧ V (.queue r) = nilS) : ∀ r, (noI s t).th r = none → setF V (.own t) nilS (.hold r) = nilS ∧ setF V (.own t) nilS (.queue r) = nilS := fun r hr => by
  rw [setF_ne _ _ (by intro e; cases e), setF_ne _ _ (by intro e; cases e)]
  exact h r hr
theorem no_n2 {s : TS} {V : RI → Value} (t : Nat) (h : ∀ t, s.ow t = none → V (.own t) = nilS) : ∀ t', (noI s t).ow t' = none → setF V (.own t) nilS (.own t') = nilS := fun t' ht => by
  by_cases e : t' = t
  · subst e; rw [setF_same]
  · rw [setF_ne _ _ (by intro e2; injection e2 with e2; exact e e2)]
    refine h t' ?_
    simpa [noI, upd, e] using ht
/-- The table behind the deletes and the sort, the sorted row let go. -/
theorem rl_table {w0 w : World} {X : Nat → Prop} {B g b1 b2 b3 : Nat} {s : TS} {V V' : RI → Value} {L : RI → List (Value × Value)} {t : Nat} {v : Value} {l : List (Value × Value)} (h : TbR w0 X w B g b1 b2 b3 (noI s t) (setF V (.own t) nilS) (setF V' (.own t) v) (setF L (.own t) l))
    (hV : V' = V) (hL : L = rowI s) (n1 : ∀ r, s.th r = none → V (.hold r) = nilS ∧ V (.queue r) = nilS) (n2 : ∀ t, s.ow t = none → V (.own t) = nilS) :
    TbV w B g b1 b2 b3 (noI s t) (setF V (.own t) nilS) ∧ (∀ k, v.ownBlock = some k → ¬ TbX g b1 b2 b3 (setF V (.own t) nilS) k) ∧ (∀ k, TbX g b1 b2 b3 (setF V (.own t) nilS) k → X k ∨ w0.heap.size ≤ k) ∧ Mod X w0 w := by
  subst hV hL
  have hF := h.forget (.own t)
  rw [setF_twice, setF_twice] at hF
  refine ⟨hF.tbv (fun _ => rfl) (fun i => row_no s t i) (no_n1 t n1) (no_n2 t n2), h.freed, ?_, hF.mod⟩
  rintro k (h1 | h1 | h1 | h1 | ⟨i, hi⟩)
  · exact .inl (h1 ▸ hF.xg.1)
  · exact .inl (h1 ▸ hF.xg.2.1)
  · exact .inl (h1 ▸ hF.xg.2.2.1)
  · exact .inl (h1 ▸ hF.xg.2.2.2)
  · exact hF.xr i k hi
end Go.Proofs.YthbifccankfngaaGreatDoor
