/-
  leaf.Of of at most a page of bytes.
  Conditions: at most 224 bytes.
-/
import Derived.Test.YtgjkbnplpioloaaB13
namespace Go.Proofs.Ytgjkbnplpioloaa
open Go.RowKit
attribute [local go_sem] Oper.semAt_some
set_option maxRecDepth 20000

def splice {α : Type} (L : List α) (o : Nat) (cs : List α) : List α := L.take o ++ cs ++ L.drop (o + cs.length)
theorem splice_get {α : Type} (L : List α) (o : Nat) (cs : List α) (i : Nat) (h : o + cs.length ≤ L.length) : (splice L o cs)[i]? = if o ≤ i ∧ i < o + cs.length then cs[i - o]? else L[i]? := by
  have hlt : (L.take o).length = o := by rw [List.length_take]; omega
  unfold splice
  by_cases h1 : i < o
  · rw [if_neg (by omega), List.append_assoc, List.getElem?_append_left (by omega), List.getElem?_take_of_lt h1]
  · by_cases h2 : i < o + cs.length
    · rw [if_pos ⟨by omega, h2⟩, List.append_assoc, List.getElem?_append_right (by omega), hlt, List.getElem?_append_left (by omega)]
    · rw [if_neg (by omega), List.getElem?_append_right (by rw [List.length_append]; omega), List.length_append, hlt, List.getElem?_drop]
      congr 1
      omega
theorem setCells_row (b : Nat) (t : TypeId) : ∀ (vs : List Value) (o : Nat) (cur : List Value) (w : World), w.heap[b]? = some (.cells cur.toArray t (0, 0)) → o + vs.length ≤ cur.length →
    (w.setCells b o vs).heap[b]? = some (.cells (splice cur o vs).toArray t (0, 0))
  | [], o, cur, w, h, _ => by simpa [World.setCells, splice] using h
  | v :: r, o, cur, w, h, hl => by
    simp only [List.length_cons] at hl
    have h1 := heap_setCell_same w b o cur.toArray t v h
    rw [List.setIfInBounds_toArray] at h1
    rw [World.setCells, setCells_row b t r (o + 1) (cur.set o v) _ h1 (by rw [List.length_set]; omega)]
    congr 3
    apply List.ext_getElem?
    intro i
    rw [splice_get _ _ _ _ (by rw [List.length_set]; omega), splice_get _ _ _ _ (by simp; omega)]
    simp only [List.length_cons]
    by_cases h2 : i = o
    · subst h2
      rw [if_neg (by omega), if_pos (by omega), Nat.sub_self, List.getElem?_set_self (by omega)]
      rfl
    · by_cases h3 : o + 1 ≤ i ∧ i < o + 1 + r.length
      · rw [if_pos h3, if_pos (by omega), show i - o = (i - (o + 1)) + 1 from by omega, List.getElem?_cons_succ]
      · rw [if_neg h3, if_neg (by omega), List.getElem?_set_ne (by omega)]
theorem setCells_heap (b : Nat) : ∀ (vs : List Value) (o : Nat) (w : World) (k : Nat), k ≠ b → (w.setCells b o vs).heap[k]? = w.heap[k]?
  | [], _, _, _, _ => rfl
  | v :: r, o, w, k, h => by
    rw [World.setCells, setCells_heap b r (o + 1) _ k h, Below.heap_setCell _ _ _ _ h]
theorem setCells_size (b : Nat) : ∀ (vs : List Value) (o : Nat) (w : World), (w.setCells b o vs).heap.size = w.heap.size
  | [], _, _ => rfl
  | v :: r, o, w => by rw [World.setCells, setCells_size b r]; simp [World.setCell]
theorem setCells_rest (b : Nat) : ∀ (vs : List Value) (o : Nat) (w : World), (w.setCells b o vs).os = w.os ∧ (w.setCells b o vs).tape = w.tape ∧ (w.setCells b o vs).output = w.output
  | [], _, _ => ⟨rfl, rfl, rfl⟩
  | v :: r, o, w => by rw [World.setCells]; exact setCells_rest b r (o + 1) _
theorem grown_setCells (w : World) (g o : Nat) (vs : List Value) : w.grownBy (w.setCells g o vs) (some g) := by
  obtain ⟨h1, h2, h3⟩ := setCells_rest g vs o w
  exact ⟨h1, h2, h3, by rw [setCells_size]; exact Nat.le_refl _, fun k _ hk => setCells_heap g vs o w k (fun e => hk (by rw [e]))⟩

theorem pad_splice (l : List UInt8) (h : l.length ≤ 224) : splice (BC zpg.toList) 0 (BC l) = BC (padPg l).toList := by
  have e0 : zpg.toList = List.replicate 224 0 := by rw [zpg, padPg_toList [] (by simp)]; simp
  unfold splice
  rw [padPg_toList l h, e0, BC_append, BC_length, Nat.zero_add, BC_drop, List.drop_replicate]
  rfl
theorem pg_info : (Try.prog.info? 62).map (fun i => (i.zero, i.size)) = some (some (.agg (pgA zpg)), 224) := by kernel_rfl
theorem u8_size : (Try.prog.info? 5).map (·.size) = some 1 := by kernel_rfl
theorem pgA_one (p : Pg) : (pgA p).all (·.oneCell') = true := by
  rw [pgA, ← Array.all_toList, List.all_eq_true]
  exact fun v hv => BC_one _ v hv
/-- copy(p[:], l) onto a page that is zero. -/
theorem wpList_copy_pg {ops : Array Oper} {rest : List Oper} {op : Oper} {a : Act} {w : World} {Q : Exit → Act → World → Prop} (r : Nat) (d s : Operand) (hop : op.dst = some r) (hgd : op.guard = none)
    (ho : op.op = .call { callee := .builtin .copy, args := #[d, s], argTypes := #[79, 79] }) (g B n c : Nat) (ad : Addr) (l : List UInt8)
    (hd : a.eval d = .slice (some ⟨g, 0, none⟩) 224 224) (hs : a.eval s = .slice (some ad) n c) (hg : At w g 62 (pgA zpg)) (hl : Lies w B 1 (some ad) n (BC l)) (hn : n ≤ 224)
    (h : ∀ w', At w' g 62 (pgA (padPg l)) → w.grownBy w' (some g) → wpList Try.prog ops Q rest (a.put (some r) (goInt n)) w') : wpList Try.prog ops Q (op :: rest) a w := by
  have hln : l.length = n := by have := hl.len; rw [BC_length] at this; omega
  have hrun : ∃ w', (Builtin.copy_ #[79, 79] op.type #[.slice (some ⟨g, 0, none⟩) 224 224, .slice (some ad) n c]).run Try.prog w = .ok (goInt n) w' ∧ At w' g 62 (pgA (padPg l)) ∧ w.grownBy w' (some g) := by
    have hc : ∀ j v, (BC l)[j]? = some v → w.cell? (ad.add j) = some v := by
      intro j v hv
      have hj : j < n := by
        rcases Nat.lt_or_ge j n with hj | hj
        · exact hj
        · rw [List.getElem?_eq_none (by rw [BC_length]; omega)] at hv
          cases hv
      obtain ⟨a', ha, _, hx⟩ := hl.spot (by omega)
      cases ha
      exact hx j v hv
    have hr := run_copy_cells (P := Try.prog) w 79 79 op.type 5 g 0 224 224 ad n c (BC l) Try.underlying79 u8_size (by rw [BC_length, hln]; exact (Nat.min_eq_left hn).symm) hc
      (fun j hj => by rw [hg.cell, Array.getElem?_eq_getElem (by rw [pgA_size]; rw [BC_length] at hj; omega)]; rfl) (fun j hj => hg.frozen _) (BC_one l)
    rw [BC_length, hln] at hr
    refine ⟨_, hr, ?_, grown_setCells w g 0 _⟩
    have := setCells_row g 62 (BC l) 0 (BC zpg.toList) w hg (by rw [BC_length, BC_length, Vector.length_toList]; omega)
    rw [pad_splice l (by omega)] at this
    exact this
  obtain ⟨w', hr, h1, h2⟩ := hrun
  refine wpList_plain hgd fun K hK => ?_
  unfold Oper.wp
  simp [execOp, ho, resolve, invoke, builtin, hd, hs, hr, Result.andThen]
  simp only [Oper.upon]
  rw [hop]
  exact hK _ _ (h w' h1 h2)
set_option maxHeartbeats 800000 in
theorem Of_any (B n c : Nat) (a : Addr) (l : List UInt8) (w : World) (h : Lies w B 1 (some a) n (BC l)) (hB : B ≤ w.heap.size) (hn : n ≤ 224) :
    Calls Try.prog 54 #[.slice (some a) n c] w fun e z => e = .returned (.tuple #[.agg (pgA (padPg l)), .bool true]) ∧ Below w.heap.size w z := by
  have HB : Hid (Below w.heap.size w ((w.alloc (.cells (pgA zpg) 62)).alloc (.cells (pgA zpg) 62))) := ((Below.refl _ w).alloc (Nat.le_refl _) _).alloc (by simp) _
  have HA : Hid (At ((w.alloc (.cells (pgA zpg) 62)).alloc (.cells (pgA zpg) 62)) w.heap.size 62 (pgA zpg)) := by
    have := (At.new w 62 (pgA zpg)).alloc (.cells (pgA zpg) 62)
    exact this
  have HC : Hid (At ((w.alloc (.cells (pgA zpg) 62)).alloc (.cells (pgA zpg) 62)) (w.heap.size + 1) 62 (pgA zpg)) := by
    have := At.new (w.alloc (.cells (pgA zpg) 62)) 62 (pgA zpg)
    rw [World.size_alloc] at this
    exact this
  have HL := Lib.hid (h.under (HB.out.mono hB))
  clear h
  have hzero := (zero_of_info pg_info).1
  go_enter Try.func54, Try.ntmps54
  go_upto_region 4 with fail
  generalize ((w.alloc (Obj.cells (pgA zpg) 62)).alloc (Obj.cells (pgA zpg) 62)) = w1 at HB HA HC HL ⊢
  go_wp2_with (first
    | (refine wpList_copy_pg 11 (.tmp 9) (.tmp 10) rfl rfl rfl (w.heap.size + 1) _ n c a l rfl rfl HC.out HL.out hn ?_; intro w2 h2 g2; have HC2 := Lib.hid h2; have HA2 := Lib.hid (HA.out.grown g2 (by intro e; injection e with e; omega)); have HB2 := Lib.hid (HB.out.grown g2 HB.out.size (fun j e => by injection e with e; omega)); clear h2 g2)
    | refine wpList_load_at 62 12 (.tmp 4) rfl rfl rfl (w.heap.size + 1) rfl (pgA (padPg l)) 224 str49 (pgA_size _) HC2.out ?_
    | (refine wpList_store_at 62 (.tmp 2) (.tmp 12) rfl rfl rfl w.heap.size rfl (pgA (padPg l)) (pgA zpg) 224 rfl str49 (pgA_size _) (pgA_size _) (pgA_one _) HA2.out ?_; intro w9 h9 g9; have H9 := Lib.hid h9; have HB9 := Lib.hid (HB2.out.grown g9 HB2.out.size (fun j e => by injection e with e; omega)); clear h9 g9))
  exact bodyPost_ret (results_at2 (g := w.heap.size) rfl H9.out str49 (pgA_size _) rfl rfl) rfl ⟨rfl, HB9.out⟩
end Go.Proofs.Ytgjkbnplpioloaa
