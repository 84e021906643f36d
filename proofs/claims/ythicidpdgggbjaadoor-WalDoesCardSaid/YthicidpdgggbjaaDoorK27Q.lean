/-
  The reference's Append in one contract; the state of the law WalCuts while it lays the entries.
  Conditions: logs of at most 100000 sectors.
-/
import Derived.Test.YthicidpdgggbjaaDoorK26Q
namespace Go.Proofs.YthicidpdgggbjaaDoor
open Go.RowKit
set_option maxRecDepth 20000

/-- What the reference's Append returns: of an entry that Put takes and that fits, a longer log; else the same. -/
def RApp (size us dn n : Nat) (bx0 : Array Value) (rs : List Er) (r : Er) (w : World) (e : Ending) (w' : World) : Prop :=
  ∃ (bx : Array Value) (k : Nat) (z : Int), e = .returned (.tuple #[.agg bx, .int .u64 (k : Int), .int .i64 z]) ∧ bx.size = 4 ∧ bx.all (·.oneCell') = true ∧ Below w.heap.size w w' ∧
    ((z = 0 ∧ k = us + 1 ∧ Gd (withN r.e (us + 1)) ∧ us + wid (withN r.e (us + 1)) ≤ size ∧ ∃ A c, bx = rlA size A (n + 1) c (us + wid (withN r.e (us + 1))) dn ∧ w'.ownsRow w.heap.size 42 13 (.slice A (n + 1) c) (n + 1) (flatE (rs ++ [erN r (us + 1)]))) ∨
     ((z != 0) = true ∧ k = 0 ∧ bx = bx0 ∧ (chk (withN r.e (us + 1)) = z ∨ (Gd (withN r.e (us + 1)) ∧ size - us < wid (withN r.e (us + 1)) ∧ z = 6))))
theorem withN_ok {e : Ent} (h : e.ok) {n : Nat} (hn : n < 18446744073709551616) : (withN e n).ok := ⟨hn, h.txn, h.prev, h.next, h.rc, h.act⟩
theorem rapp_any (X Y : Nat → Prop) (A : Option Addr) (n c size us dn : Nat) (rs : List Er) (r : Er) (w : World) (hl : LEz Y w A n rs) (hn : n ≤ 1000) (hr : ELz X w r) (hus : us ≤ size) (hsz : size ≤ 100000) (hnp : r.np ≤ 1000) (hna : r.na ≤ 1000) (hv : r.e.rc.val.length ≤ 1000) (hok : r.e.ok) :
    Calls Tryd.prog 11 #[.agg (rlA size A n c us dn), .agg (erA r)] w (RApp size us dn n (rlA size A n c us dn) rs r w) := by
  by_cases hz : chk (withN r.e (us + 1)) = 0
  · have hg : Gd (withN r.e (us + 1)) := ⟨withN_ok hok (by omega), hz⟩
    by_cases hf : size - us < wid (withN r.e (us + 1))
    · refine (rappend_full X A n c size us dn r w hr hus hsz hg hf).mono ?_
      rintro e w' ⟨rfl, hb⟩
      exact ⟨_, 0, 6, rfl, rfl, rlA_one _ _ _ _ _ _, hb, .inr ⟨rfl, rfl, rfl, .inr ⟨hg, hf, rfl⟩⟩⟩
    · refine (rappend_ok X Y A n c size us dn rs r w hl hn hr hus hsz hg (by omega)).mono ?_
      rintro e w' ⟨v, rfl, ho, hb⟩
      obtain ⟨A', c', rfl, _, _⟩ := own_slice ho
      exact ⟨rlA size A' (n + 1) c' (us + wid (withN r.e (us + 1))) dn, us + 1, 0, rfl, rfl, rlA_one _ _ _ _ _ _, hb, .inl ⟨rfl, rfl, hg, by omega, A', c', rfl, ho⟩⟩
  · refine (rappend_bad X A n c size us dn r w _ hr (by omega) hnp hna hv rfl (by simp [hz])).mono ?_
    rintro e w' ⟨rfl, hb⟩
    exact ⟨_, 0, _, rfl, rfl, rlA_one _ _ _ _ _ _, hb, .inr ⟨by simp [hz], rfl, rfl, .inl rfl⟩⟩

/-- What the numbers of the laid entries are. -/
structure CuM (rs : List Er) (us k : Nat) : Prop where
  num : Numd (rs.map (·.e)) 0
  sum : us = pos (rs.map (·.e))
  le : us ≤ 1000
  len : rs.length ≤ k
theorem CuM.gd {rs : List Er} {us k : Nat} (h : CuM rs us k) : ∀ r ∈ rs, Gd r.e := fun r hr => by
  obtain ⟨i, hi, rfl⟩ := List.getElem_of_mem hr
  have := (numd_get h.num (m := i) (by simpa using hi)).2
  simpa using this
theorem gd_small {X : Nat → Prop} {z : World} {r : Er} (h : Gd r.e) (he : ELz X z r) : r.np ≤ 1000 ∧ r.na ≤ 1000 ∧ r.e.rc.val.length ≤ 1000 := by
  have g := chk_zero h.chk
  have h1 := g.pages
  have h2 := g.act
  have h3 := g.val
  rw [he.lenP] at h1
  rw [he.lenA] at h2
  omega
theorem CuM.step {rs : List Er} {us k : Nat} (h : CuM rs us k) {r : Er} (hg : Gd (withN r.e (us + 1))) (hf : us + wid (withN r.e (us + 1)) ≤ 1000) : CuM (rs ++ [erN r (us + 1)]) (us + wid (withN r.e (us + 1))) (k + 1) := by
  have e1 : (rs ++ [erN r (us + 1)]).map (·.e) = rs.map (·.e) ++ [withN r.e (us + 1)] := by simp [erN]
  refine ⟨?_, ?_, hf, by simp; exact h.len⟩
  · rw [e1, numd_snoc]
    exact ⟨h.num, by rw [← h.sum]; show us + 1 = _; omega, hg⟩
  · rw [e1, pos_snoc, ← h.sum]
theorem CuM.mono {rs : List Er} {us k : Nat} (h : CuM rs us k) : CuM rs us (k + 1) := ⟨h.num, h.sum, h.le, Nat.le_succ_of_le h.len⟩
theorem lay_step {rs : List Er} {us : Nat} (hu : us = pos (rs.map (·.e))) (r : Er) : lay ((rs ++ [erN r (us + 1)]).map (·.e)) 0 = lay (rs.map (·.e)) 0 ++ cutS (enc (withN r.e (us + 1))) us := by
  have e1 : (rs ++ [erN r (us + 1)]).map (·.e) = rs.map (·.e) ++ [withN r.e (us + 1)] := by simp [erN]
  rw [e1, lay_snoc, Nat.zero_add, ← hu]
/-- The state of WalCuts while it lays the entries: the reference's log in box b, the sectors in a row of their own. -/
structure CuS (w : World) (b : Nat) (A : Option Addr) (n c us : Nat) (rs : List Er) (vS : Value) (z : World) : Prop where
  box : At z b 34 (rlA 1000 A n c us 0)
  row : Lz (fun k => k = b ∨ vS.ownBlock = some k) z 13 A n (flatE rs)
  els : ∀ r ∈ rs, ELz (fun k => w.heap.size ≤ k) z r
  own : z.ownsRow (b + 1) 68 64 vS us (flat (lay (rs.map (·.e)) 0))
  low : Below w.heap.size w z
  lb : w.heap.size ≤ b
section
variable {w z z' : World} {b n c us : Nat} {A : Option Addr} {rs : List Er} {vS : Value}
theorem CuS.call (h : CuS w b A n c us rs vS z) (hb : Below z.heap.size z z') : CuS w b A n c us rs vS z' :=
  ⟨h.box.under hb h.box.lt, h.row.below hb, fun r hr => (h.els r hr).below hb, own_under h.own hb (Nat.le_refl _), h.low.trans (hb.mono h.low.size), h.lb⟩
theorem CuS.ownw (h : CuS w b A n c us rs vS z) : ∀ k, vS.ownBlock = some k → b < k ∧ k < z.heap.size := fun k hk => by
  obtain ⟨h1, cur, h2⟩ := own_cells h.own hk
  exact ⟨h1, (Array.getElem?_eq_some_iff.1 h2).1⟩
theorem CuS.lez (h : CuS w b A n c us rs vS z) : LEz (fun k => k = b ∨ vS.ownBlock = some k) z A n rs :=
  ⟨h.row, fun r hr => (h.els r hr).mono fun k _ hk => by
    have := h.lb
    rcases hk with rfl | hk
    · exact this
    · have := (h.ownw k hk).1; omega⟩
end
end Go.Proofs.YthicidpdgggbjaaDoor
