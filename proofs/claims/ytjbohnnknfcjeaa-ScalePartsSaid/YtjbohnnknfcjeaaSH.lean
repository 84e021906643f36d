/-
  slices.Clone; a row of cells copied into a scale; Cuts, Of.
  Conditions: at most seven cuts of 32 bits.
-/
import Derived.Test.YtjbohnnknfcjeaaSG
import Derived.Laws.IdiomCopy
import Derived.Laws.Slices
namespace Go.Proofs.Ytjbohnnknfcjeaa
open Go.RowKit
attribute [local go_sem] Oper.semAt_some
set_option maxRecDepth 20000

set_option maxHeartbeats 400000 in
theorem clone_some (X : Nat → Prop) (n c : Nat) (a : Addr) (l : List Nat) (w : World) (h : Lz X w 1 (some a) n (UC l)) (hn : n ≤ 100000) :
    Calls Try.prog 22 #[.slice (some a) n c] w fun e w' => ∃ v, e = .returned v ∧ w'.ownsRow w.heap.size 23 1 v n (UC l) ∧ Below w.heap.size w w' := by
  obtain ⟨i0, hi0, hz0, hz1, hz2⟩ := u_info
  have hnil := fun W => Lib.run_eql_slice_nil (P := Try.prog) W 22 23 (some a) n c 0 0 Try.underlying22
  have HH := Lib.hid h
  clear h
  have hm : (w.alloc (.cells #[] 23)).ownsRow w.heap.size 23 1 (.slice (some ⟨w.heap.size, 0, none⟩) 0 0) 0 [] := World.ownsRow_made w #[] 0 (Nat.le_refl _) (by simp [maxLen]) rfl
  have HM := Lib.hid hm
  clear hm
  go_enter Try.func22, Try.ntmps22
  go_wp2_with (at_builtin; refine pl_wpList_app _ rfl (.tmp 5) (.tmp 6) _ rfl w.heap.size 23 i0 _ 1 4 Try.underlying22 hi0 hz0 hz1 hz2 rfl (by omega) _ 0 [] rfl HM.out a n c (UC l) rfl HH.out.len (HH.out.alloc _).cells (UC_one l) (by simp only [maxLen]; omega) (by omega) (by simp) ?_; intro v1 w1 hown hg)
  go_ret
  exact ⟨v1, rfl, by simpa using hown, pl_below_own ((Below.refl _ _).alloc (Nat.le_refl _) _) HM.out hg (Nat.le_refl _) (by simp)⟩
set_option maxHeartbeats 400000 in
theorem clone_none (n c : Nat) (w : World) : Calls Try.prog 22 #[.slice none n c] w fun e w' => e = .returned (.slice none 0 0) ∧ w = w' := by
  have hnil := fun W => Lib.run_eql_slice_nil (P := Try.prog) W 22 23 none n c 0 0 Try.underlying22
  go_enter Try.func22, Try.ntmps22
  go_wp2_with fail
  go_ret
  exact ⟨rfl, rfl⟩

theorem clone_any (X : Nat → Prop) (n c : Nat) (A : Option Addr) (l : List Nat) (w : World) (h : Lz X w 1 A n (UC l)) (hn : n ≤ 100000) : Calls Try.prog 22 #[.slice A n c] w (RetU w l) := by
  have hlen := h.ulen
  cases A with
  | some a =>
    refine (clone_some X n c a l w h hn).mono ?_
    rintro e w' ⟨v, rfl, ho, hb⟩
    obtain ⟨A, c', rfl, _⟩ := own_slice ho
    subst hlen
    exact ⟨A, c', rfl, hb, ho⟩
  | none =>
    refine (clone_none n c w).mono ?_
    rintro e w' ⟨rfl, rfl⟩
    obtain ⟨rfl, _⟩ := h.nil_of_none
    have : l = [] := List.eq_nil_of_length_eq_zero hlen
    subst this
    exact ⟨none, 0, rfl, RowS.nil w⟩
/-- The cuts as a slice of a scale's cells. -/
theorem sc_lz {w : World} {g : Nat} {t : TypeId} {l : List Nat} (h : At w g t (scA l)) : Lz (fun _ => False) w 1 (some ⟨g, 1, none⟩) l.length (UC l) :=
  ⟨by rw [UC_length]; omega, fun _ => ⟨g, 1, rfl, fun h => h, h.lt, fun j u hu => by
    have hj : j < l.length := by
      rcases Nat.lt_or_ge j l.length with hj | hj
      · exact hj
      · rw [List.getElem?_eq_none (by rw [UC_length]; exact hj)] at hu
        cases hu
    rw [UC_get l j hj] at hu
    injection hu with hu
    rw [← hu]
    exact h.scc hj⟩⟩
def splice {α : Type} (L : List α) (o : Nat) (cs : List α) : List α := L.take o ++ cs ++ L.drop (o + cs.length)
theorem splice_get {α : Type} (L : List α) (o : Nat) (cs : List α) (i : Nat) (h : o + cs.length ≤ L.length) : (splice L o cs)[i]? = if o ≤ i ∧ i < o + cs.length then cs[i - o]? else L[i]? := by
  have hlt : (L.take o).length = o := by rw [List.length_take]; omega
  unfold splice
  by_cases h1 : i < o
  · rw [if_neg (by omega), List.append_assoc, List.getElem?_append_left (by omega), List.getElem?_take_of_lt h1]
  · by_cases h2 : i < o + cs.length
    · rw [if_pos ⟨by omega, h2⟩, List.append_assoc, List.getElem?_append_right (by omega), hlt, List.getElem?_append_left (by omega)]
    · rw [if_neg (by omega), List.getElem?_append_right (by rw [List.length_append]; omega), List.length_append, hlt, List.getElem?_drop]
      congr 1
      omega
theorem setCells_row (b : Nat) (t : TypeId) : ∀ (vs : List Value) (o : Nat) (cur : List Value) (w : World), w.heap[b]? = some (.cells cur.toArray t (0, 0)) → o + vs.length ≤ cur.length →
    (w.setCells b o vs).heap[b]? = some (.cells (splice cur o vs).toArray t (0, 0))
  | [], o, cur, w, h, _ => by simpa [World.setCells, splice] using h
  | v :: r, o, cur, w, h, hl => by
    simp only [List.length_cons] at hl
    have h1 := heap_setCell_same w b o cur.toArray t v h
    rw [List.setIfInBounds_toArray] at h1
    rw [World.setCells, setCells_row b t r (o + 1) (cur.set o v) _ h1 (by rw [List.length_set]; omega)]
    congr 3
    apply List.ext_getElem?
    intro i
    rw [splice_get _ _ _ _ (by rw [List.length_set]; omega), splice_get _ _ _ _ (by simp; omega)]
    simp only [List.length_cons]
    by_cases h2 : i = o
    · subst h2
      rw [if_neg (by omega), if_pos (by omega), Nat.sub_self, List.getElem?_set_self (by omega)]
      rfl
    · by_cases h3 : o + 1 ≤ i ∧ i < o + 1 + r.length
      · rw [if_pos h3, if_pos (by omega), show i - o = (i - (o + 1)) + 1 from by omega, List.getElem?_cons_succ]
      · rw [if_neg h3, if_neg (by omega), List.getElem?_set_ne (by omega)]
theorem setCells_heap (b : Nat) : ∀ (vs : List Value) (o : Nat) (w : World) (k : Nat), k ≠ b → (w.setCells b o vs).heap[k]? = w.heap[k]?
  | [], _, _, _, _ => rfl
  | v :: r, o, w, k, h => by
    rw [World.setCells, setCells_heap b r (o + 1) _ k h, Below.heap_setCell _ _ _ _ h]
theorem setCells_size (b : Nat) : ∀ (vs : List Value) (o : Nat) (w : World), (w.setCells b o vs).heap.size = w.heap.size
  | [], _, _ => rfl
  | v :: r, o, w => by rw [World.setCells, setCells_size b r]; simp [World.setCell]
theorem setCells_rest (b : Nat) : ∀ (vs : List Value) (o : Nat) (w : World), (w.setCells b o vs).os = w.os ∧ (w.setCells b o vs).tape = w.tape ∧ (w.setCells b o vs).output = w.output
  | [], _, _ => ⟨rfl, rfl, rfl⟩
  | v :: r, o, w => by rw [World.setCells]; exact setCells_rest b r (o + 1) _
theorem grown_setCells (w : World) (g o : Nat) (vs : List Value) : w.grownBy (w.setCells g o vs) (some g) := by
  obtain ⟨h1, h2, h3⟩ := setCells_rest g vs o w
  exact ⟨h1, h2, h3, by rw [setCells_size]; exact Nat.le_refl _, fun k _ hk => setCells_heap g vs o w k (fun e => hk (by rw [e]))⟩


theorem run_arr_head (g off k : Nat) (hk : k ≤ 7) (W : World) : (Instr.sliceAt 25 (.pointer (some ⟨g, off, none⟩)) none (some (.int .i64 (k : Int))) none).run Try.prog W = .ok (.slice (some ⟨g, off, none⟩) k 7) W := by
  have h := run_sliceAt_array_h (P := Try.prog) W 25 ⟨g, off, none⟩ Try.underlying25 .i64 (k : Int) (by omega) (by show (k : Int) ≤ 7; omega)
  rw [h]
  have hs : (sizeOf (Try.prog.elem 25)).run Try.prog W = .ok 1 W := Try.sizeOf23 W
  rw [hs]
  simp [Result.andThen, slicedAt, Addr.add]
  rfl
/-- The address that the model keeps of a[k:] of an array of seven. -/
def tl7 (g k : Nat) : Addr := if 7 = k then ⟨g, 1, none⟩ else ⟨g, 1 + k, none⟩
theorem run_arr_tail (g k : Nat) (hk : k ≤ 7) (W : World) : (Instr.sliceAt 25 (.pointer (some ⟨g, 1, none⟩)) (some (.int .i64 (k : Int))) none none).run Try.prog W = .ok (.slice (some (tl7 g k)) (7 - k) (7 - k)) W := by
  have h := run_sliceAt_array_l (P := Try.prog) W 25 ⟨g, 1, none⟩ Try.underlying25 .i64 (k : Int) (by omega) (by show (k : Int) ≤ 7; omega)
  rw [h]
  have hs : (sizeOf (Try.prog.elem 25)).run Try.prog W = .ok 1 W := Try.sizeOf23 W
  rw [hs]
  have hl : Try.prog.arrayLen 25 = 7 := rfl
  simp only [Result.andThen, slicedAt, hl, Int.toNat_natCast, tl7, Nat.mul_one, add_plain]
theorem run_arr_all (g : Nat) (W : World) : (Instr.sliceAt 25 (.pointer (some ⟨g, 1, none⟩)) none none none).run Try.prog W = .ok (.slice (some ⟨g, 1, none⟩) 7 7) W := by
  have h := run_sliceAt_array_all (P := Try.prog) W 25 ⟨g, 1, none⟩ Try.underlying25
  rw [h]
  have hs : (sizeOf (Try.prog.elem 25)).run Try.prog W = .ok 1 W := Try.sizeOf23 W
  rw [hs]
  simp [Result.andThen, slicedAt, Addr.add]
  rfl
theorem UC_splice (xs : List Nat) (k : Nat) (M : List Nat) : UC (splice xs k M) = splice (UC xs) k (UC M) := by simp [splice, UC_append, UC_take, UC_drop, UC_length]
theorem scR_splice (m : Nat) (xs : List Nat) (k : Nat) (M : List Nat) : scR m (splice xs k M) = splice (scR m xs) (1 + k) (UC M) := by
  unfold scR
  rw [UC_splice]
  unfold splice
  rw [show 1 + k + (UC M).length = (k + (UC M).length) + 1 from by omega, show 1 + k = k + 1 from by omega, List.take_succ_cons, List.drop_succ_cons]
  rfl
theorem u32_size : (Try.prog.info? 23).map (·.size) = some 1 := by kernel_rfl
theorem splice_nil (xs : List Nat) (k : Nat) : splice xs k [] = xs := by simp [splice]
theorem run_copy_sc (w : World) (ty g m k dn dc sn sc : Nat) (xs M : List Nat) (ad : Addr) (A : Option Addr) (hx : xs.length = 7) (hg : At w g 27 (scR m xs).toArray) (hM : M.length = Nat.min sn dn) (hkM : k + M.length ≤ 7)
    (hd : 0 < M.length → ad = ⟨g, 1 + k, none⟩) (hs : 0 < M.length → ∃ a, A = some a ∧ ∀ j v, (UC M)[j]? = some v → w.cell? (a.add j) = some v) :
    ∃ w', (Builtin.copy_ #[22, 22] ty #[.slice (some ad) dn dc, .slice A sn sc]).run Try.prog w = .ok (goInt M.length) w' ∧ At w' g 27 (scR m (splice xs k M)).toArray ∧ w.grownBy w' (some g) := by
  by_cases h0 : 0 < M.length
  · obtain ⟨a, rfl, hc⟩ := hs h0
    obtain rfl := hd h0
    have hr := run_copy_cells (P := Try.prog) w 22 22 ty 23 g (1 + k) dn dc a sn sc (UC M) Try.underlying22 u32_size (by rw [UC_length]; exact hM) hc
      (fun j hj => by rw [hg.cell, List.getElem?_toArray, List.getElem?_eq_getElem (by rw [scR_len, hx]; rw [UC_length] at hj; omega)]; rfl) (fun j hj => hg.frozen _) (UC_one M)
    rw [UC_length] at hr
    refine ⟨_, hr, ?_, grown_setCells w g (1 + k) _⟩
    have := setCells_row g 27 (UC M) (1 + k) (scR m xs) w hg (by rw [UC_length, scR_len, hx]; omega)
    rw [← scR_splice] at this
    exact this
  · obtain rfl : M = [] := List.eq_nil_of_length_eq_zero (by omega)
    refine ⟨w, run_copy_none (P := Try.prog) w 22 22 ty 23 (some ad) A dn dc sn sc Try.underlying22 u32_size hM.symm, by rw [splice_nil]; exact hg, ⟨rfl, rfl, rfl, Nat.le_refl _, fun _ _ _ => rfl⟩⟩
theorem wp_copyS {op : Oper} {a : Act} {w : World} {K : Act → World → Prop} {Q : Exit → Act → World → Prop} (r : Nat) (d s : Operand) (hop : op.dst = some r)
    (ho : op.op = .call { callee := .builtin .copy, args := #[d, s], argTypes := #[22, 22] }) (g m k dn dc sn sc : Nat) (xs M : List Nat) (ad : Addr) (A : Option Addr) (hda : a.eval d = .slice (some ad) dn dc) (hsa : a.eval s = .slice A sn sc)
    (hx : xs.length = 7) (hg : At w g 27 (scR m xs).toArray) (hM : M.length = Nat.min sn dn) (hkM : k + M.length ≤ 7)
    (hd : 0 < M.length → ad = ⟨g, 1 + k, none⟩) (hs : 0 < M.length → ∃ a, A = some a ∧ ∀ j v, (UC M)[j]? = some v → w.cell? (a.add j) = some v)
    (h : ∀ w', At w' g 27 (scR m (splice xs k M)).toArray → w.grownBy w' (some g) → K (a.put (some r) (goInt M.length)) w') : op.wp Try.prog a w K Q := by
  obtain ⟨w', hr, h1, h2⟩ := run_copy_sc w op.type g m k dn dc sn sc xs M ad A hx hg hM hkM hd hs
  unfold Oper.wp
  simp [execOp, ho, resolve, invoke, builtin, hda, hsa, hr, Result.andThen]
  simp only [Oper.upon]
  rw [hop]
  exact h w' h1 h2
theorem wpList_copyS {ops : Array Oper} {rest : List Oper} {op : Oper} {a : Act} {w : World} {Q : Exit → Act → World → Prop} (r : Nat) (d s : Operand) (hop : op.dst = some r) (hgd : op.guard = none)
    (ho : op.op = .call { callee := .builtin .copy, args := #[d, s], argTypes := #[22, 22] }) (g m k dn dc sn sc : Nat) (xs M : List Nat) (ad : Addr) (A : Option Addr) (hda : a.eval d = .slice (some ad) dn dc) (hsa : a.eval s = .slice A sn sc)
    (hx : xs.length = 7) (hg : At w g 27 (scR m xs).toArray) (hM : M.length = Nat.min sn dn) (hkM : k + M.length ≤ 7)
    (hd : 0 < M.length → ad = ⟨g, 1 + k, none⟩) (hs : 0 < M.length → ∃ a, A = some a ∧ ∀ j v, (UC M)[j]? = some v → w.cell? (a.add j) = some v)
    (h : ∀ w', At w' g 27 (scR m (splice xs k M)).toArray → w.grownBy w' (some g) → wpList Try.prog ops Q rest (a.put (some r) (goInt M.length)) w') : wpList Try.prog ops Q (op :: rest) a w :=
  wpList_plain hgd fun _ hK => wp_copyS r d s hop ho g m k dn dc sn sc xs M ad A hda hsa hx hg hM hkM hd hs fun w' h1 h2 => hK _ _ (h w' h1 h2)
set_option maxHeartbeats 1600000 in
theorem sCuts_any (l : List Nat) (hl : l.length ≤ 7) (w : World) : Calls Try.prog 14 #[.agg (scA l)] w (RetU w l) := by
  obtain ⟨n, hn⟩ : ∃ n, l.length = n := ⟨_, rfl⟩
  have hA := At.new w 27 (scA l)
  have c1 := hA.scn
  have hlz := sc_lz hA
  rw [hn] at c1 hlz hl
  have HB : Hid (Below w.heap.size w (w.alloc (.cells (scA l) 27))) := (Below.refl _ w).alloc (Nat.le_refl _) _
  have HCL : Hid (∀ c, Calls Try.prog 22 #[.slice (some ⟨w.heap.size, 1, none⟩) n c] (w.alloc (.cells (scA l) 27)) (RetU (w.alloc (.cells (scA l) 27)) l)) := fun c => clone_any _ n c _ l _ hlz (by omega)
  have rh := fun W => run_arr_head w.heap.size 1 n hl W
  clear hA hn hlz
  go_enter Try.func14, Try.ntmps14
  go_wp2_with (go_at_call 22; refine (HCL.out _).mono ?_; rintro e w' ⟨A, c, rfl, hr⟩)
  go_ret
  exact ⟨A, c, rfl, HB.out.trans (hr.below.mono HB.out.size), own_base hr.own HB.out.size⟩
end Go.Proofs.Ytjbohnnknfcjeaa
