/-
  Walks: bytes.HasSuffix of one zero byte, copy onto a page, readPage.
  Conditions: readers over at most 10000 bytes.
-/
import Derived.Test.YtihlmjknhgnjpaaDoorT2
import Derived.Laws.IdiomCopy
import Derived.Laws.Tables
namespace Go.Proofs.YtihlmjknhgnjpaaDoor
open Go.RowKit
set_option maxRecDepth 8000

def splice {α : Type} (L : List α) (o : Nat) (cs : List α) : List α := L.take o ++ cs ++ L.drop (o + cs.length)
theorem splice_get {α : Type} (L : List α) (o : Nat) (cs : List α) (i : Nat) (h : o + cs.length ≤ L.length) : (splice L o cs)[i]? = if o ≤ i ∧ i < o + cs.length then cs[i - o]? else L[i]? := by
  have hlt : (L.take o).length = o := by rw [List.length_take]; omega
  unfold splice
  by_cases h1 : i < o
  · rw [if_neg (by omega), List.append_assoc, List.getElem?_append_left (by omega), List.getElem?_take_of_lt h1]
  · by_cases h2 : i < o + cs.length
    · rw [if_pos ⟨by omega, h2⟩, List.append_assoc, List.getElem?_append_right (by omega), hlt, List.getElem?_append_left (by omega)]
    · rw [if_neg (by omega), List.getElem?_append_right (by rw [List.length_append]; omega), List.length_append, hlt, List.getElem?_drop]
      congr 1
      omega
theorem setCells_row (b : Nat) (t : TypeId) : ∀ (vs : List Value) (o : Nat) (cur : List Value) (w : World), w.heap[b]? = some (.cells cur.toArray t (0, 0)) → o + vs.length ≤ cur.length →
    (w.setCells b o vs).heap[b]? = some (.cells (splice cur o vs).toArray t (0, 0))
  | [], o, cur, w, h, _ => by simpa [World.setCells, splice] using h
  | v :: r, o, cur, w, h, hl => by
    simp only [List.length_cons] at hl
    have h1 := heap_setCell_same w b o cur.toArray t v h
    rw [List.setIfInBounds_toArray] at h1
    rw [World.setCells, setCells_row b t r (o + 1) (cur.set o v) _ h1 (by rw [List.length_set]; omega)]
    congr 3
    apply List.ext_getElem?
    intro i
    rw [splice_get _ _ _ _ (by rw [List.length_set]; omega), splice_get _ _ _ _ (by simp; omega)]
    simp only [List.length_cons]
    by_cases h2 : i = o
    · subst h2
      rw [if_neg (by omega), if_pos (by omega), Nat.sub_self, List.getElem?_set_self (by omega)]
      rfl
    · by_cases h3 : o + 1 ≤ i ∧ i < o + 1 + r.length
      · rw [if_pos h3, if_pos (by omega), show i - o = (i - (o + 1)) + 1 from by omega, List.getElem?_cons_succ]
      · rw [if_neg h3, if_neg (by omega), List.getElem?_set_ne (by omega)]
theorem setCells_heap (b : Nat) : ∀ (vs : List Value) (o : Nat) (w : World) (k : Nat), k ≠ b → (w.setCells b o vs).heap[k]? = w.heap[k]?
  | [], _, _, _, _ => rfl
  | v :: r, o, w, k, h => by
    rw [World.setCells, setCells_heap b r (o + 1) _ k h, Below.heap_setCell _ _ _ _ h]
theorem setCells_size (b : Nat) : ∀ (vs : List Value) (o : Nat) (w : World), (w.setCells b o vs).heap.size = w.heap.size
  | [], _, _ => rfl
  | v :: r, o, w => by rw [World.setCells, setCells_size b r]; simp [World.setCell]
theorem setCells_rest (b : Nat) : ∀ (vs : List Value) (o : Nat) (w : World), (w.setCells b o vs).os = w.os ∧ (w.setCells b o vs).tape = w.tape ∧ (w.setCells b o vs).output = w.output
  | [], _, _ => ⟨rfl, rfl, rfl⟩
  | v :: r, o, w => by rw [World.setCells]; exact setCells_rest b r (o + 1) _
theorem grown_setCells (w : World) (g o : Nat) (vs : List Value) : w.grownBy (w.setCells g o vs) (some g) := by
  obtain ⟨h1, h2, h3⟩ := setCells_rest g vs o w
  exact ⟨h1, h2, h3, by rw [setCells_size]; exact Nat.le_refl _, fun k _ hk => setCells_heap g vs o w k (fun e => hk (by rw [e]))⟩

theorem pad_splice (z : Int) (l : List UInt8) (h : l.length ≤ 224) : splice (imL ⟨z, zpg⟩) 1 (BC l) = imL ⟨z, padPg l⟩ := by
  have e0 : zpg.toList = List.replicate 224 0 := by rw [zpg, padPg_toList [] (by simp)]; simp
  unfold splice
  simp only [imL]
  rw [padPg_toList l h, e0, BC_append, BC_length, Nat.add_comm 1 l.length, List.drop_succ_cons, BC_drop, List.drop_replicate]
  rfl
/-- copy(p[:], l) onto a page that is zero. -/
theorem wpList_copy_im {ops : Array Oper} {rest : List Oper} {op : Oper} {a : Act} {w : World} {Q : Exit → Act → World → Prop} (r : Nat) (d s : Operand) (hop : op.dst = some r) (hgd : op.guard = none)
    (ho : op.op = .call { callee := .builtin .copy, args := #[d, s], argTypes := #[32, 32] }) (g B n c : Nat) (A : Option Addr) (z : Int) (l : List UInt8)
    (hd : a.eval d = .slice (some ⟨g, 1, none⟩) 224 224) (hs : a.eval s = .slice A n c) (hg : At w g 51 (imA ⟨z, zpg⟩)) (hl : Lies w B 1 A n (BC l)) (hn : n ≤ 224)
    (h : ∀ w', At w' g 51 (imA ⟨z, padPg l⟩) → w.grownBy w' (some g) → wpList Tryd.prog ops Q rest (a.put (some r) (goInt n)) w') : wpList Tryd.prog ops Q (op :: rest) a w := by
  have hln : l.length = n := by have := hl.len; rw [BC_length] at this; omega
  have hrun : ∃ w', (Builtin.copy_ #[32, 32] op.type #[.slice (some ⟨g, 1, none⟩) 224 224, .slice A n c]).run Tryd.prog w = .ok (goInt n) w' ∧ At w' g 51 (imA ⟨z, padPg l⟩) ∧ w.grownBy w' (some g) := by
    cases A with
    | none =>
      have h0 : n = 0 := by
        by_cases h0 : n = 0
        · exact h0
        · obtain ⟨a, ha, _⟩ := hl.spot (by omega)
          cases ha
      subst h0
      have : l = [] := List.eq_nil_of_length_eq_zero hln
      subst this
      refine ⟨w, ?_, hg, grown_refl w _⟩
      simp [Builtin.copy_, go_sem, goInt]
    | some ad =>
      have hc : ∀ j v, (BC l)[j]? = some v → w.cell? (ad.add j) = some v := by
        intro j v hv
        have hj : j < n := by
          rcases Nat.lt_or_ge j n with hj | hj
          · exact hj
          · rw [List.getElem?_eq_none (by rw [BC_length]; omega)] at hv
            cases hv
        obtain ⟨a', ha, _, hx⟩ := hl.spot (by omega)
        cases ha
        exact hx j v hv
      have hr := run_copy_cells (P := Tryd.prog) w 32 32 op.type 5 g 1 224 224 ad n c (BC l) Tryd.underlying32 u8_size (by rw [BC_length, hln]; exact (Nat.min_eq_left hn).symm) hc
        (fun j hj => by rw [hg.cell, Array.getElem?_eq_getElem (by rw [imA_size]; rw [BC_length] at hj; omega)]; rfl) (fun j hj => hg.frozen _) (BC_one l)
      rw [BC_length, hln] at hr
      refine ⟨_, hr, ?_, grown_setCells w g 1 _⟩
      have := setCells_row g 51 (BC l) 1 (imL ⟨z, zpg⟩) w hg (by rw [imL_length, BC_length]; omega)
      rw [pad_splice z l (by omega)] at this
      exact this
  obtain ⟨w', hr, h1, h2⟩ := hrun
  refine wpList_plain hgd fun K hK => ?_
  unfold Oper.wp
  simp [execOp, ho, resolve, invoke, builtin, hd, hs, hr, Result.andThen]
  simp only [Oper.upon]
  rw [hop]
  exact hK _ _ (h w' h1 h2)

theorem sfx_one (l : List UInt8) (m : Nat) (h : l.length = m + 1) : (l.drop m == [0]) = sfx l := by
  have e : l.drop m = [l.getD m 0] := by
    rw [List.drop_eq_getElem_cons (by omega), List.drop_of_length_le (by omega), List.getD_eq_getElem?_getD, List.getElem?_eq_getElem (by omega)]
    rfl
  rw [e, sfx, h, show m + 1 - 1 = m from rfl]
  simp

set_option maxHeartbeats 800000 in
theorem hasSuffix_any (B n c B2 c2 : Nat) (A A2 : Option Addr) (l : List UInt8) (w : World) (h : Lies w B 1 A n (BC l)) (h2 : Lies w B2 1 A2 1 (BC [0])) (hn : n ≤ 1000) (hc : n ≤ c) :
    Calls Tryd.prog 57 #[.slice A n c, .slice A2 1 c2] w fun e w' => e = .returned (.bool (sfx l)) ∧ w = w' := by
  have hl : l.length = n := by have := h.len; rw [BC_length] at this; omega
  cases n with
  | zero =>
    have hs := Lib.hid (show sfx l = false by simp [sfx, hl])
    clear h h2
    go_enter Tryd.func57, Tryd.ntmps57
    go_wp2_with fail
    go_ret
    exact ⟨by rw [hs.out]; rfl, rfl⟩
  | succ m =>
    have hs := Lib.hid (sfx_one l m hl)
    have rt := fun W => run_tail (P := Tryd.prog) 32 5 Tryd.underlying32 u8_size A (m + 1) c m (by omega) W
    rw [show m + 1 - m = 1 from by omega] at rt
    have HT := Lib.hid (show Lies w B 1 (tailA A c m) 1 (BC (l.drop m)) by have := h.tailA (k := m) (by omega) hc; rw [BC_drop] at this; rwa [show m + 1 - m = 1 from by omega] at this)
    have H2 := Lib.hid h2
    have hge : (1 : Int) ≤ (m : Int) + 1 := by omega
    clear h h2
    go_enter Tryd.func57, Tryd.ntmps57
    go_wp2_with (go_at_call 47; refine (equal_any _ _ _ _ _ _ _ _ _ _ w HT.out H2.out).mono ?_; rintro e w' ⟨rfl, rfl⟩)
    go_ret
    exact ⟨by rw [hs.out]; rfl, rfl⟩
end Go.Proofs.YtihlmjknhgnjpaaDoor
