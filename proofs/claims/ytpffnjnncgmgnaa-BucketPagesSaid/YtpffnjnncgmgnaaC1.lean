/-
  Pages in memory: a slice of pages, and the laws on loading and storing a whole struct.
  Conditions: none beyond those that each theorem names.
-/
import Derived.Test.YtpffnjnncgmgnaaA4
import Derived.Test.YtpffnjnncgmgnaaHeld
import Derived.Deep.MidRow
import Derived.Deep.WholeRow
namespace Go.Proofs.Ytpffnjnncgmgnaa
open Go.RowKit
set_option maxRecDepth 8000

def imL (i : Im) : List Value := .int .i64 i.page :: BC i.p.toList
def imA (i : Im) : Array Value := (imL i).toArray
theorem imL_length (i : Im) : (imL i).length = 225 := by rw [imL, List.length_cons, BC_length, Vector.length_toList]
theorem imA_size (i : Im) : (imA i).size = 225 := by rw [imA, List.size_toArray, imL_length]
theorem imL_one (i : Im) : ∀ u ∈ imL i, u.oneCell' = true := by
  intro u hu
  rcases List.mem_cons.1 hu with rfl | hu
  · rfl
  · exact BC_one _ u hu
theorem imA_one (i : Im) : (imA i).all (·.oneCell') = true := all_oneCell_toArray (imL_one i)
theorem imA_page (i : Im) : (imA i)[0]? = some (.int .i64 i.page) := rfl
theorem imL_byte (i : Im) (j : Nat) (h : j < 224) : (imL i)[1 + j]? = some (.int .u8 ((i.p.toList.getD j 0).toNat : Int)) := by
  rw [Nat.add_comm, imL, List.getElem?_cons_succ, BC_get _ j (by simpa using h), List.getD_eq_getElem?_getD, List.getElem?_eq_getElem (by simpa using h)]
  rfl
def flatI : List Im → List Value
  | [] => []
  | i :: r => imL i ++ flatI r
theorem flatI_length : ∀ l : List Im, (flatI l).length = l.length * 225
  | [] => rfl
  | b :: r => by rw [flatI, List.length_append, imL_length, flatI_length r, List.length_cons]; omega
theorem flatI_append : ∀ l m : List Im, flatI (l ++ m) = flatI l ++ flatI m
  | [], _ => rfl
  | b :: r, m => by rw [List.cons_append, flatI, flatI, flatI_append r m, List.append_assoc]
theorem flatI_single (i : Im) : flatI [i] = imL i := by rw [flatI, flatI, List.append_nil]
theorem flatI_one : ∀ l : List Im, ∀ u ∈ flatI l, u.oneCell' = true
  | [], u, h => by simp [flatI] at h
  | b :: r, u, h => by
    rw [flatI, List.mem_append] at h
    rcases h with h | h
    · exact imL_one b u h
    · exact flatI_one r u h
theorem flatI_range {w : World} {b o : Nat} {l : List Im} {k : Nat} (h : w.rangeAt b o (flatI l)) (hk : k < l.length) : w.rangeAt b (o + k * 225) (imL l[k]) := fun j v hv => by
  have hj : j < 225 := by
    have := (List.getElem?_eq_some_iff.1 hv).1
    rwa [imL_length] at this
  rw [Nat.add_assoc]
  refine h _ v ?_
  have e : l = l.take k ++ ([l[k]] ++ l.drop (k + 1)) := by simp
  rw [e, flatI_append, flatI_append, List.getElem?_append_right (by rw [flatI_length, List.length_take]; omega), List.getElem?_append_left (by rw [flatI_length, flatI_length, List.length_take]; simp; omega), flatI_single, flatI_length, List.length_take, Nat.min_eq_left (by omega), show k * 225 + j - k * 225 = j from by omega]
  exact hv

/-- A slice of pages. -/
structure LI (w : World) (B : Nat) (A : Option Addr) (n : Nat) (l : List Im) : Prop where
  len : l.length = n
  spot : 0 < n → ∃ b o, A = some ⟨b, o, none⟩ ∧ b < B ∧ w.rangeAt b o (flatI l)
section
variable {w w' : World} {B B' n : Nat} {A : Option Addr} {l : List Im}
theorem rangeAt_block {b o : Nat} {cs : List Value} (h : w.rangeAt b o cs) (hb : w'.heap[b]? = w.heap[b]?) : w'.rangeAt b o cs := fun j v hv => by
  rw [World.cell?_of_block (w := w) (a := ⟨b, o + j, none⟩) hb]
  exact h j v hv
theorem LI.empty : LI w B A 0 [] := ⟨rfl, fun h => absurd h (Nat.lt_irrefl 0)⟩
theorem LI.under (h : LI w B A n l) (hb : Below B w w') : LI w' B A n l := by
  refine ⟨h.len, fun hn => ?_⟩
  obtain ⟨b, o, ha, hlt, hr⟩ := h.spot hn
  exact ⟨b, o, ha, hlt, rangeAt_block hr (hb.block b hlt)⟩
theorem LI.up (h : LI w B A n l) (hB : B ≤ B') : LI w B' A n l := by
  refine ⟨h.len, fun hn => ?_⟩
  obtain ⟨b, o, ha, hlt, hr⟩ := h.spot hn
  exact ⟨b, o, ha, Nat.lt_of_lt_of_le hlt hB, hr⟩
theorem LI.drewN (h : LI w B A n l) (k : Nat) : LI (w.drewN k) B A n l := h.under ⟨rfl, rfl, rfl, Nat.le_refl _, fun _ _ => rfl⟩
theorem LI.alloc (h : LI w B A n l) (hB : B ≤ w.heap.size) (o : Obj) : LI (w.alloc o) B A n l := h.under ((Below.refl B w).alloc hB o)
theorem LI.grown {v : Value} (h : LI w B A n l) (hg : w.grownBy w' v.ownBlock) (hB : B ≤ w.heap.size) (ho : Off n v A) : LI w' B A n l := by
  refine ⟨h.len, fun hn => ?_⟩
  obtain ⟨b, o, ha, hlt, hr⟩ := h.spot hn
  exact ⟨b, o, ha, hlt, rangeAt_block hr (hg.block b (by omega) (fun e => ho hn b _ e.symm ha rfl))⟩
theorem LI.at {k : Nat} (h : LI w B A n l) (hk : k < n) : ∃ b o, ∃ hl : k < l.length, A = some ⟨b, o, none⟩ ∧ b < B ∧ w.rangeAt b (o + k * 225) (imL (l[k]'hl)) := by
  obtain ⟨b, o, ha, hlt, hr⟩ := h.spot (by omega)
  have hl : k < l.length := by rw [h.len]; exact hk
  exact ⟨b, o, hl, ha, hlt, flatI_range hr hl⟩
theorem LI.of_own {base c : Nat} (h : w.ownsRow base 41 225 (.slice A n c) n (flatI l)) : LI w w.heap.size A n l := by
  have hl : l.length = n := by have := h.1; rw [flatI_length] at this; omega
  refine ⟨hl, fun hn => ?_⟩
  have hc := @World.ownsRow.cells w base 41 225 (.slice A n c) n (flatI l) h
  rcases h.2 with ⟨_, h0⟩ | ⟨g, cap, cur, hv, hb, hg, _⟩
  · omega
  · injection hv with hA
    subst hA
    refine ⟨g, 0, rfl, (Array.getElem?_eq_some_iff.1 hg).1, fun j u hu => ?_⟩
    have := hc rfl j u hu
    rwa [Addr.add_mid] at this
end
theorem im_page {w : World} {b o : Nat} {i : Im} (h : w.rangeAt b o (imL i)) : w.cell? ⟨b, o, none⟩ = some (.int .i64 i.page) := h 0 _ rfl
theorem im_byte {w : World} {b o j : Nat} {i : Im} (h : w.rangeAt b o (imL i)) (hj : j < 224) : w.cell? ⟨b, o + 1 + j, none⟩ = some (.int .u8 ((i.p.toList.getD j 0).toNat : Int)) := by
  have := h (1 + j) _ (imL_byte i j hj)
  rwa [← Nat.add_assoc] at this
theorem at_range {w : World} {g : Nat} {t : TypeId} {cs : List Value} (h : At w g t cs.toArray) : w.rangeAt g 0 cs := fun j v hv => by
  rw [Nat.zero_add, h.cell j]
  simpa using hv

/-! ### Whole structs -/
/-- A type of several cells. -/
def Str (ty : TypeId) (n : Nat) : Prop := ∃ d, Try.prog.underlying ty = some d ∧ (match d with | .struct _ | .array _ _ => true | _ => false) = true ∧ (Try.prog.info? ty).map (·.size) = some n
theorem str25 : Str 52 6 := ⟨_, Try.underlying52, rfl, by kernel_rfl⟩
theorem str49 : Str 39 224 := ⟨_, Try.underlying39, rfl, by kernel_rfl⟩
theorem str51 : Str 41 225 := ⟨_, Try.underlying41, rfl, by kernel_rfl⟩
theorem str69 : Str 99 2 := ⟨_, Try.underlying99, rfl, by kernel_rfl⟩

section
variable {ops : Array Oper} {rest : List Oper} {op : Oper} {a : Act} {w : World} {Q : Exit → Act → World → Prop}
theorem wpList_load_at (ty d : Nat) (x : Operand) (hop : op.dst = some d) (hgd : op.guard = none) (ho : op.op = .load ty x) (g : Nat) (hx : a.eval x = .pointer (some ⟨g, 0, none⟩)) (cs : Array Value) (n : Nat) (hs : Str ty n) (hn : cs.size = n)
    (hc : At w g ty cs) (h : wpList Try.prog ops Q rest (a.put (some d) (.agg cs)) w) : wpList Try.prog ops Q (op :: rest) a w := by
  obtain ⟨ds, h1, h2, h3⟩ := hs
  refine wpList_load_row hgd ty x ho g hx ty cs (0, 0) ds hc h1 (by cases ds <;> first | rfl | cases h2) (by rw [hn]; exact h3) ?_
  rw [hop]
  exact h
theorem wpList_load_im (d : Nat) (x : Operand) (hop : op.dst = some d) (hgd : op.guard = none) (ho : op.op = .load 41 x) (g o : Nat) (hx : a.eval x = .pointer (some ⟨g, o, none⟩)) (i : Im)
    (hc : w.rangeAt g o (imL i)) (h : wpList Try.prog ops Q rest (a.put (some d) (.agg (imA i))) w) : wpList Try.prog ops Q (op :: rest) a w := by
  obtain ⟨ds, h1, h2, h3⟩ := str51
  refine wpList_load_mid hgd 41 x ho g o hx (imL i) ds hc h1 h2 (by rw [imL_length]; exact h3) ?_
  rw [hop]
  exact h
theorem grown_setRow (w : World) (g : Nat) (cs : Array Value) : w.grownBy (w.setRow g cs) (some g) :=
  ⟨rfl, rfl, rfl, by simp, fun k _ hk => setRow_other w g k cs (fun e => hk (by rw [e]))⟩
theorem wpList_store_at (ty : Nat) (x y : Operand) (hop : op.dst = none) (hgd : op.guard = none) (ho : op.op = .store ty x y) (g : Nat) (hx : a.eval x = .pointer (some ⟨g, 0, none⟩)) (cs old : Array Value) (n : Nat) (hy : a.eval y = .agg cs)
    (hs : Str ty n) (hn : cs.size = n) (hn2 : old.size = n) (h1 : cs.all (·.oneCell') = true) (hc : At w g ty old)
    (h : ∀ w', At w' g ty cs → w.grownBy w' (some g) → wpList Try.prog ops Q rest (a.put none undef) w') : wpList Try.prog ops Q (op :: rest) a w := by
  obtain ⟨ds, _, _, h3⟩ := hs
  refine wpList_store_row hgd ty x y ho g cs hx hy ty old hc (by rw [hn]; exact h3) (by rw [hn, hn2]) h1 ?_
  rw [hop]
  exact h _ (setRow_heap w g old cs ty (0, 0) hc) (grown_setRow w g cs)
/-- A store into the block that was made just before. -/
theorem wpList_store_new (ty : Nat) (x y : Operand) (hop : op.dst = none) (hgd : op.guard = none) (ho : op.op = .store ty x y) (g : Nat) (w0 : World) (hg : g = w0.heap.size) (hx : a.eval x = .pointer (some ⟨g, 0, none⟩)) (cs old : Array Value) (n : Nat) (hy : a.eval y = .agg cs)
    (hs : Str ty n) (hn : cs.size = n) (hn2 : old.size = n) (h1 : cs.all (·.oneCell') = true) (hw : w = w0.alloc (.cells old ty))
    (h : wpList Try.prog ops Q rest (a.put none undef) (w0.alloc (.cells cs ty))) : wpList Try.prog ops Q (op :: rest) a w := by
  subst hg hw
  obtain ⟨ds, _, _, h3⟩ := hs
  refine wpList_store_row hgd ty x y ho w0.heap.size cs hx hy ty old (heap_alloc_new w0 _) (by rw [hn]; exact h3) (by rw [hn, hn2]) h1 ?_
  rw [hop, World.setRow_alloc_new]
  exact h
end
/-- What a function hands back that returns a struct out of a cell, and a value beside it. -/
theorem results_at2 {fn : Func} {p t : Tmp} {ty : TypeId} {tmps : Array Value} {w : World} {g n : Nat} {cs : Array Value} {v : Value} (hp : tmps.getD p undef = .pointer (some ⟨g, 0, none⟩)) (hc : At w g ty cs) (hs : Str ty n) (hn : cs.size = n)
    (h : fn.results = #[.cell p ty, .tmp t]) (hv : tmps.getD t undef = v) : (results fn tmps).run Try.prog w = .ok (.tuple #[.agg cs, v]) w := by
  obtain ⟨ds, h1, h2, h3⟩ := hs
  have hp' : tmps[p]?.getD undef = .pointer (some ⟨g, 0, none⟩) := by simpa using hp
  have hv' : tmps[t]?.getD undef = v := by simpa using hv
  have hl := run_loadVar_row w g ty ty cs (0, 0) ds hc h1 (by cases ds <;> first | rfl | cases h2) (by rw [hn]; exact h3)
  simp [results, h, hp', hv', asAddr, hl]
end Go.Proofs.Ytpffnjnncgmgnaa
