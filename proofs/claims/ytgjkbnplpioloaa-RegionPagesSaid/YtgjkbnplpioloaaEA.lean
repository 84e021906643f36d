/-
  Points, pages and cells in memory: whole structs loaded and stored, '==' of points and pages, regions that end in no other way.
  Conditions: none beyond those that each theorem names.
-/
import Derived.Test.YtgjkbnplpioloaaA1
import Derived.Test.YtgjkbnplpioloaaHeld
import Derived.Test.YtgjkbnplpioloaaPB
import Derived.WalkLawsBesides
import Derived.WalkSpells
import Derived.Lib.SliceRun
import Derived.Deep.MidRow
import Derived.Deep.WholeRow
import Derived.ChangeKeysEq
import Derived.Laws.StructEq
import Derived.StillTailTactics
namespace Go.Proofs.Ytgjkbnplpioloaa
open Go.RowKit
set_option maxRecDepth 8000

/-! ### A block of cells -/
def At (w : World) (g : Nat) (t : TypeId) (cs : Array Value) : Prop := w.heap[g]? = some (.cells cs t (0, 0))
section
variable {w w' : World} {g : Nat} {t : TypeId} {cs : Array Value}
theorem At.lt (h : At w g t cs) : g < w.heap.size := (Array.getElem?_eq_some_iff.1 h).1
theorem At.cell (h : At w g t cs) (k : Nat) : w.cell? ⟨g, k, none⟩ = cs[k]? := cell_of_row w g k _ _ _ h
theorem At.frozen (h : At w g t cs) (k : Nat) : w.frozen? ⟨g, k, none⟩ = false := frozen_of_row w g k _ _ h
theorem At.under {B : Nat} (h : At w g t cs) (hb : Below B w w') (hg : g < B) : At w' g t cs := (hb.block g hg).trans h
theorem At.grown {row : Option Nat} (h : At w g t cs) (hb : w.grownBy w' row) (hg : some g ≠ row) : At w' g t cs := (hb.block g h.lt hg).trans h
theorem At.alloc (h : At w g t cs) (o : Obj) : At (w.alloc o) g t cs := (Below.heap_alloc w o g h.lt).trans h
theorem At.set (h : At w g t cs) (k : Nat) (u : Value) : At (w.setCell ⟨g, k, none⟩ u) g t (cs.setIfInBounds k u) := heap_set w g k _ _ u h
theorem At.other (h : At w g t cs) {p : Addr} (hp : g ≠ p.block) (u : Value) : At (w.setCell p u) g t cs := (Below.heap_setCell w p u g hp).trans h
end
theorem At.new (w : World) (t : TypeId) (cs : Array Value) : At (w.alloc (.cells cs t)) w.heap.size t cs := heap_alloc_new w _

def imL (i : Im) : List Value := .int .i64 i.page :: BC i.p.toList
def imA (i : Im) : Array Value := (imL i).toArray
theorem imL_length (i : Im) : (imL i).length = 225 := by rw [imL, List.length_cons, BC_length, Vector.length_toList]
theorem imA_size (i : Im) : (imA i).size = 225 := by rw [imA, List.size_toArray, imL_length]
theorem imL_one (i : Im) : ∀ u ∈ imL i, u.oneCell' = true := by
  intro u hu
  rcases List.mem_cons.1 hu with rfl | hu
  · rfl
  · exact BC_one _ u hu
theorem imA_one (i : Im) : (imA i).all (·.oneCell') = true := all_oneCell_toArray (imL_one i)
theorem imA_page (i : Im) : (imA i)[0]? = some (.int .i64 i.page) := rfl
theorem imL_byte (i : Im) (j : Nat) (h : j < 224) : (imL i)[1 + j]? = some (.int .u8 ((i.p.toList.getD j 0).toNat : Int)) := by
  rw [Nat.add_comm, imL, List.getElem?_cons_succ, BC_get _ j (by simpa using h), List.getD_eq_getElem?_getD, List.getElem?_eq_getElem (by simpa using h)]
  rfl
def flatI : List Im → List Value
  | [] => []
  | i :: r => imL i ++ flatI r
theorem flatI_length : ∀ l : List Im, (flatI l).length = l.length * 225
  | [] => rfl
  | b :: r => by rw [flatI, List.length_append, imL_length, flatI_length r, List.length_cons]; omega
theorem flatI_append : ∀ l m : List Im, flatI (l ++ m) = flatI l ++ flatI m
  | [], _ => rfl
  | b :: r, m => by rw [List.cons_append, flatI, flatI, flatI_append r m, List.append_assoc]
theorem flatI_single (i : Im) : flatI [i] = imL i := by rw [flatI, flatI, List.append_nil]
theorem flatI_one : ∀ l : List Im, ∀ u ∈ flatI l, u.oneCell' = true
  | [], u, h => by simp [flatI] at h
  | b :: r, u, h => by
    rw [flatI, List.mem_append] at h
    rcases h with h | h
    · exact imL_one b u h
    · exact flatI_one r u h
theorem flatI_range {w : World} {b o : Nat} {l : List Im} {k : Nat} (h : w.rangeAt b o (flatI l)) (hk : k < l.length) : w.rangeAt b (o + k * 225) (imL l[k]) := fun j v hv => by
  have hj : j < 225 := by
    have := (List.getElem?_eq_some_iff.1 hv).1
    rwa [imL_length] at this
  rw [Nat.add_assoc]
  refine h _ v ?_
  have e : l = l.take k ++ ([l[k]] ++ l.drop (k + 1)) := by simp
  rw [e, flatI_append, flatI_append, List.getElem?_append_right (by rw [flatI_length, List.length_take]; omega), List.getElem?_append_left (by rw [flatI_length, flatI_length, List.length_take]; simp; omega), flatI_single, flatI_length, List.length_take, Nat.min_eq_left (by omega), show k * 225 + j - k * 225 = j from by omega]
  exact hv

section
variable {w w' : World}
theorem rangeAt_block {b o : Nat} {cs : List Value} (h : w.rangeAt b o cs) (hb : w'.heap[b]? = w.heap[b]?) : w'.rangeAt b o cs := fun j v hv => by
  rw [World.cell?_of_block (w := w) (a := ⟨b, o + j, none⟩) hb]
  exact h j v hv
end
theorem im_page {w : World} {b o : Nat} {i : Im} (h : w.rangeAt b o (imL i)) : w.cell? ⟨b, o, none⟩ = some (.int .i64 i.page) := h 0 _ rfl
theorem im_byte {w : World} {b o j : Nat} {i : Im} (h : w.rangeAt b o (imL i)) (hj : j < 224) : w.cell? ⟨b, o + 1 + j, none⟩ = some (.int .u8 ((i.p.toList.getD j 0).toNat : Int)) := by
  have := h (1 + j) _ (imL_byte i j hj)
  rwa [← Nat.add_assoc] at this
theorem at_range {w : World} {g : Nat} {t : TypeId} {cs : List Value} (h : At w g t cs.toArray) : w.rangeAt g 0 cs := fun j v hv => by
  rw [Nat.zero_add, h.cell j]
  simpa using hv

/-- A type of several cells. -/
def Str (ty : TypeId) (n : Nat) : Prop := ∃ d, Try.prog.underlying ty = some d ∧ (match d with | .struct _ | .array _ _ => true | _ => false) = true ∧ (Try.prog.info? ty).map (·.size) = some n
theorem str25 : Str 50 4 := ⟨_, Try.underlying50, rfl, by kernel_rfl⟩
theorem str49 : Str 62 224 := ⟨_, Try.underlying62, rfl, by kernel_rfl⟩
theorem str51 : Str 64 225 := ⟨_, Try.underlying64, rfl, by kernel_rfl⟩
theorem str69 : Str 101 2 := ⟨_, Try.underlying101, rfl, by kernel_rfl⟩

section
variable {ops : Array Oper} {rest : List Oper} {op : Oper} {a : Act} {w : World} {Q : Exit → Act → World → Prop}
theorem wpList_load_at (ty d : Nat) (x : Operand) (hop : op.dst = some d) (hgd : op.guard = none) (ho : op.op = .load ty x) (g : Nat) (hx : a.eval x = .pointer (some ⟨g, 0, none⟩)) (cs : Array Value) (n : Nat) (hs : Str ty n) (hn : cs.size = n)
    (hc : At w g ty cs) (h : wpList Try.prog ops Q rest (a.put (some d) (.agg cs)) w) : wpList Try.prog ops Q (op :: rest) a w := by
  obtain ⟨ds, h1, h2, h3⟩ := hs
  refine wpList_load_row hgd ty x ho g hx ty cs (0, 0) ds hc h1 (by cases ds <;> first | rfl | cases h2) (by rw [hn]; exact h3) ?_
  rw [hop]
  exact h
theorem wpList_load_im (d : Nat) (x : Operand) (hop : op.dst = some d) (hgd : op.guard = none) (ho : op.op = .load 64 x) (g o : Nat) (hx : a.eval x = .pointer (some ⟨g, o, none⟩)) (i : Im)
    (hc : w.rangeAt g o (imL i)) (h : wpList Try.prog ops Q rest (a.put (some d) (.agg (imA i))) w) : wpList Try.prog ops Q (op :: rest) a w := by
  obtain ⟨ds, h1, h2, h3⟩ := str51
  refine wpList_load_mid hgd 64 x ho g o hx (imL i) ds hc h1 h2 (by rw [imL_length]; exact h3) ?_
  rw [hop]
  exact h
theorem grown_setRow (w : World) (g : Nat) (cs : Array Value) : w.grownBy (w.setRow g cs) (some g) :=
  ⟨rfl, rfl, rfl, by simp, fun k _ hk => setRow_other w g k cs (fun e => hk (by rw [e]))⟩
theorem wpList_store_at (ty : Nat) (x y : Operand) (hop : op.dst = none) (hgd : op.guard = none) (ho : op.op = .store ty x y) (g : Nat) (hx : a.eval x = .pointer (some ⟨g, 0, none⟩)) (cs old : Array Value) (n : Nat) (hy : a.eval y = .agg cs)
    (hs : Str ty n) (hn : cs.size = n) (hn2 : old.size = n) (h1 : cs.all (·.oneCell') = true) (hc : At w g ty old)
    (h : ∀ w', At w' g ty cs → w.grownBy w' (some g) → wpList Try.prog ops Q rest (a.put none undef) w') : wpList Try.prog ops Q (op :: rest) a w := by
  obtain ⟨ds, _, _, h3⟩ := hs
  refine wpList_store_row hgd ty x y ho g cs hx hy ty old hc (by rw [hn]; exact h3) (by rw [hn, hn2]) h1 ?_
  rw [hop]
  exact h _ (setRow_heap w g old cs ty (0, 0) hc) (grown_setRow w g cs)
/-- A store into the block that was made just before. -/
theorem wpList_store_new (ty : Nat) (x y : Operand) (hop : op.dst = none) (hgd : op.guard = none) (ho : op.op = .store ty x y) (g : Nat) (w0 : World) (hg : g = w0.heap.size) (hx : a.eval x = .pointer (some ⟨g, 0, none⟩)) (cs old : Array Value) (n : Nat) (hy : a.eval y = .agg cs)
    (hs : Str ty n) (hn : cs.size = n) (hn2 : old.size = n) (h1 : cs.all (·.oneCell') = true) (hw : w = w0.alloc (.cells old ty))
    (h : wpList Try.prog ops Q rest (a.put none undef) (w0.alloc (.cells cs ty))) : wpList Try.prog ops Q (op :: rest) a w := by
  subst hg hw
  obtain ⟨ds, _, _, h3⟩ := hs
  refine wpList_store_row hgd ty x y ho w0.heap.size cs hx hy ty old (heap_alloc_new w0 _) (by rw [hn]; exact h3) (by rw [hn, hn2]) h1 ?_
  rw [hop, World.setRow_alloc_new]
  exact h
end
/-- What a function hands back that returns a struct out of a cell, and a value beside it. -/
theorem results_at2 {fn : Func} {p t : Tmp} {ty : TypeId} {tmps : Array Value} {w : World} {g n : Nat} {cs : Array Value} {v : Value} (hp : tmps.getD p undef = .pointer (some ⟨g, 0, none⟩)) (hc : At w g ty cs) (hs : Str ty n) (hn : cs.size = n)
    (h : fn.results = #[.cell p ty, .tmp t]) (hv : tmps.getD t undef = v) : (results fn tmps).run Try.prog w = .ok (.tuple #[.agg cs, v]) w := by
  obtain ⟨ds, h1, h2, h3⟩ := hs
  have hp' : tmps[p]?.getD undef = .pointer (some ⟨g, 0, none⟩) := by simpa using hp
  have hv' : tmps[t]?.getD undef = v := by simpa using hv
  have hl := run_loadVar_row w g ty ty cs (0, 0) ds hc h1 (by cases ds <;> first | rfl | cases h2) (by rw [hn]; exact h3)
  simp [results, h, hp', hv', asAddr, hl]
def pgA (p : Pg) : Array Value := (BC p.toList).toArray
theorem pgA_size (p : Pg) : (pgA p).size = 224 := by rw [pgA, List.size_toArray, BC_length, Vector.length_toList]
theorem pgA_get (p : Pg) (j : Nat) (h : j < 224) : (pgA p)[j]? = some (.int .u8 ((p.toList.getD j 0).toNat : Int)) := by
  rw [pgA, List.getElem?_toArray, BC_get _ j (by simpa using h), List.getD_eq_getElem?_getD, List.getElem?_eq_getElem (by simpa using h)]
  rfl
section
variable {P : Program}
theorem eqItems_bytes (d : Nat) {e : TypeId} (he : P.underlying e = some (.int .u8)) (a b : List UInt8) (w : World) : ∀ is : List Nat, (∀ i ∈ is, i < a.length ∧ i < b.length) →
    (Op.eqItems (d + 1) e 1 (BC a).toArray (BC b).toArray is).run P w = .ok (is.all fun i => a.getD i 0 == b.getD i 0) w
  | [], _ => by simp [Op.eqItems]
  | i :: is, h => by
    obtain ⟨hi1, hi2⟩ := h i (by simp)
    have hagg : (isAgg e).run P w = .ok false w := by
      unfold isAgg
      rw [Sem.run_bind, run_underlying he w]
      simp
    have p1 : ∀ x : List UInt8, i < x.length → (part e (BC x).toArray (i * 1)).run P w = .ok (.int .u8 ((x.getD i 0).toNat : Int)) w := fun x hx => by
      simp only [part, Sem.run_bind, hagg, Result.andThen_ok, Nat.mul_one, List.getElem?_toArray, BC_get x i hx]
      simp [List.getD, hx]
    have hq : (((a.getD i 0).toNat : Int) == ((b.getD i 0).toNat : Int)) = (a.getD i 0 == b.getD i 0) := by
      rw [Bool.eq_iff_iff, beq_iff_eq, beq_iff_eq]
      constructor
      · intro h; exact UInt8.toNat_inj.1 (by omega)
      · intro h; rw [h]
    simp only [Op.eqItems, Sem.run_bind, p1 a hi1, p1 b hi2, Result.andThen_ok, run_equalIn_int w d e .u8 .u8 _ _ he]
    rw [hq]
    have ih := eqItems_bytes d he a b w is (fun j hj => h j (by simp [hj]))
    rw [List.all_cons]
    cases hab : (a.getD i 0 == b.getD i 0) with
    | true => simpa using ih
    | false => simp
end
theorem all_same (a b : List UInt8) (n : Nat) (ha : a.length = n) (hb : b.length = n) : ((List.range n).all fun i => a.getD i 0 == b.getD i 0) = (a == b) := by
  rw [Bool.eq_iff_iff, List.all_eq_true, beq_iff_eq]
  constructor
  · intro h
    apply List.ext_getElem (by omega)
    intro i h1 h2
    have := h i (by simp; omega)
    simpa [List.getD, h1, h2] using this
  · rintro rfl i _
    simp
theorem info5 : ∃ i, Try.prog.info? 5 = some i := Option.isSome_iff_exists.1 (show (Try.prog.info? 5).isSome = true by kernel_rfl)
theorem cells5 : Try.prog.cellsOf 5 = 1 := by kernel_rfl
theorem equalIn_pg (d : Nat) (a b : Pg) (w : World) : (Op.equalIn (d + 2) 62 (.agg (pgA a)) (.agg (pgA b))).run Try.prog w = .ok (a == b) w := by
  obtain ⟨i, hi⟩ := info5
  have hb : (a.toList == b.toList) = (a == b) := by rw [Bool.eq_iff_iff, beq_iff_eq, beq_iff_eq, Vector.toList_inj]
  rw [run_equalIn_array w (d + 1) _ _ Try.underlying62 hi, cells5, pgA, pgA, eqItems_bytes d Try.underlying5 a.toList b.toList w _ (fun i hi => by simp at hi; simpa using hi), all_same a.toList b.toList 224 (by simp) (by simp), hb]
theorem imA_tail (i : Im) : (imA i).extract 1 225 = pgA i.p := by
  apply Array.ext'
  rw [imA, pgA]
  simp [imL]
  exact List.take_of_length_le (by rw [BC_length, Vector.length_toList]; exact Nat.le_refl _)
theorem part_page (i : Im) (w : World) : (part 3 (imA i) 0).run Try.prog w = .ok (.int .i64 i.page) w := by
  have hagg : (isAgg 3).run Try.prog w = .ok false w := by
    unfold isAgg
    rw [Sem.run_bind, run_underlying Try.underlying3 w]
    simp
  simp only [part, Sem.run_bind, hagg, Result.andThen_ok, imA_page]
  simp
theorem part_p (i : Im) (w : World) : (part 62 (imA i) 1).run Try.prog w = .ok (.agg (pgA i.p)) w := by
  have hagg : (isAgg 62).run Try.prog w = .ok true w := by
    unfold isAgg
    rw [Sem.run_bind, run_underlying Try.underlying62 w]
    simp
  obtain ⟨_, _, _, h3⟩ := str49
  cases hq : Try.prog.info? 62 with
  | none => simp [hq] at h3
  | some j =>
    have hs : j.size = 224 := by simpa [hq] using h3
    simp [part, hagg, sizeOf, typeInfo, hq, hs, imA_tail]
theorem fields51 : (Try.prog.fieldsOf 64).toList.map (fun f => (f.name, f.type, f.offset)) = [("Page", 3, 0), ("P", 62, 1)] := by kernel_rfl
theorem equalIn_im (d : Nat) (a b : Im) (w : World) : (Op.equalIn (d + 3) 64 (.agg (imA a)) (.agg (imA b))).run Try.prog w = .ok (sameI a b) w := by
  have hu : Try.prog.underlying 64 = some (.struct (Try.prog.fieldsOf 64)) := by kernel_rfl
  have hs : Try.prog.stoodInHeld 64 = false := by kernel_rfl
  rw [run_equalIn_struct w (d + 2) _ _ _ hu hs]
  have hf := fields51
  cases hq : (Try.prog.fieldsOf 64).toList with
  | nil => rw [hq] at hf; cases hf
  | cons f1 r =>
    cases r with
    | nil => rw [hq] at hf; simp at hf
    | cons f2 r =>
      cases r with
      | cons _ _ => rw [hq] at hf; simp at hf
      | nil =>
        rw [hq] at hf
        simp at hf
        obtain ⟨⟨n1, t1, o1⟩, n2, t2, o2⟩ := hf
        have e1 : (Op.equalIn (d + 2) 3 (.int .i64 a.page) (.int .i64 b.page)).run Try.prog w = .ok (a.page == b.page) w := run_equalIn_int w (d + 1) 3 .i64 .i64 _ _ Try.underlying3
        have e0 : (a.page == b.page) = decide (a.page = b.page) := by rw [Bool.eq_iff_iff, beq_iff_eq, decide_eq_true_eq]
        rw [sameI, ← e0]
        cases hp : (a.page == b.page) with
        | false => simp [Op.eqFields, n1, t1, o1, n2, part_page, e1, hp]
        | true => simp [Op.eqFields, n1, t1, o1, n2, t2, o2, part_page, part_p, e1, hp, equalIn_pg]
                  by_cases hpp : a.p = b.p
                  · simp [hpp]
                  · have : (a.p == b.p) = false := by simpa using hpp
                    rw [if_neg hpp, this]
theorem neq_im (a b : Im) (w : World) : (binOp .neq 64 (.agg (imA a)) (.agg (imA b))).run Try.prog w = .ok (.bool (!(sameI a b))) w := by
  rw [run_neq_struct, equalIn_im 9997]
  rfl
theorem neq_pg (a b : Pg) (w : World) : (binOp .neq 62 (.agg (pgA a)) (.agg (pgA b))).run Try.prog w = .ok (.bool (!(a == b))) w := by
  rw [run_neq_struct, equalIn_pg 9998]
  rfl
def rcL (r : Rc) : List Value := [.int .u32 (r.x : Nat), .int .u32 (r.y : Nat), .int .u64 (r.id : Nat), .int .u64 (r.key : Nat)]
theorem rc_one (r : Rc) : (#[.int .u32 (r.x : Nat), .int .u32 (r.y : Nat), .int .u64 (r.id : Nat), .int .u64 (r.key : Nat)] : Array Value).all (·.oneCell') = true :=
  all_oneCell_toArray (cs := rcL r) (by intro v hv; simp only [rcL, List.mem_cons, List.not_mem_nil, or_false] at hv; rcases hv with rfl | rfl | rfl | rfl <;> rfl)
theorem fields25 : (Try.prog.fieldsOf 50).toList.map (fun f => (f.name, f.type, f.offset)) = [("X", 47, 0), ("Y", 47, 1), ("Id", 48, 2), ("Key", 48, 3)] := by kernel_rfl
theorem nat_beq (a b : Nat) : ((a : Int) == (b : Int)) = (a == b) := by
  rw [Bool.eq_iff_iff, beq_iff_eq, beq_iff_eq]
  omega
theorem equalIn_rc (d : Nat) (a b : Rc) (w : World) : (Op.equalIn (d + 2) 50 (.agg (rcL a).toArray) (.agg (rcL b).toArray)).run Try.prog w = .ok (sameR a b) w := by
  have hu : Try.prog.underlying 50 = some (.struct (Try.prog.fieldsOf 50)) := by kernel_rfl
  have hs : Try.prog.stoodInHeld 50 = false := by kernel_rfl
  rw [run_equalIn_struct w (d + 1) _ _ _ hu hs]
  have hf := fields25
  generalize (Try.prog.fieldsOf 50).toList = L at hf
  rcases L with _ | ⟨f1, _ | ⟨f2, _ | ⟨f3, _ | ⟨f4, _ | ⟨f5, L⟩⟩⟩⟩⟩ <;> simp at hf
  obtain ⟨⟨n1, t1, o1⟩, ⟨n2, t2, o2⟩, ⟨n3, t3, o3⟩, n4, t4, o4⟩ := hf
  have i22 : ∀ x y : Nat, (Op.equalIn (d + 1) 48 (.int .u64 (x : Int)) (.int .u64 (y : Int))).run Try.prog w = .ok (x == y) w := fun x y => by rw [run_equalIn_int w d 48 .u64 .u64 _ _ Try.underlying48, nat_beq]
  have i23 : ∀ x y : Nat, (Op.equalIn (d + 1) 47 (.int .u32 (x : Int)) (.int .u32 (y : Int))).run Try.prog w = .ok (x == y) w := fun x y => by rw [run_equalIn_int w d 47 .u32 .u32 _ _ Try.underlying47, nat_beq]
  obtain ⟨ax, ay, ai, ak⟩ := a
  obtain ⟨bx, bY, bi, bk⟩ := b
  simp only [sameR]
  cases h1 : (ax == bx) with
  | false => simp [Op.eqFields, n1, t1, o1, part, rcL, i23, h1]
  | true =>
  cases h2 : (ay == bY) with
  | false => simp [Op.eqFields, n1, t1, o1, n2, t2, o2, part, rcL, i23, h1, h2]
  | true =>
  cases h3 : (ai == bi) with
  | false => simp [Op.eqFields, n1, t1, o1, n2, t2, o2, n3, t3, o3, part, rcL, i22, i23, h1, h2, h3]
  | true =>
  cases h4 : (ak == bk) with
  | false => simp [Op.eqFields, n1, t1, o1, n2, t2, o2, n3, t3, o3, n4, t4, o4, part, rcL, i22, i23, h1, h2, h3, h4]
  | true => simp [Op.eqFields, n1, t1, o1, n2, t2, o2, n3, t3, o3, n4, t4, o4, part, rcL, i22, i23, h1, h2, h3, h4]
theorem eql_rc (a b : Rc) (w : World) : (binOp .eql 50 (.agg (rcL a).toArray) (.agg (rcL b).toArray)).run Try.prog w = .ok (.bool (sameR a b)) w := by
  rw [run_eql_struct, equalIn_rc 9998]
  rfl
theorem neq_rc (a b : Rc) (w : World) : (binOp .neq 50 (.agg (rcL a).toArray) (.agg (rcL b).toArray)).run Try.prog w = .ok (.bool (!(sameR a b))) w := by
  rw [run_neq_struct, equalIn_rc 9998]
  rfl
theorem guard25 : Try.prog.eqGuardType Try.prog.depth 50 = false := by kernel_rfl
theorem guard51 : Try.prog.eqGuardType Try.prog.depth 64 = false := by kernel_rfl
theorem guard49 : Try.prog.eqGuardType Try.prog.depth 62 = false := by kernel_rfl
section
variable {op : Oper} {a : Act}
theorem exec_neq_im (u v : Operand) (ho : op.op = .binOp .neq 64 u v 64) (x y : Im) (w : World) (hu : a.eval u = .agg (imA x)) (hv : a.eval v = .agg (imA y)) : (execOp a.eval op).run Try.prog w = .ok (.value (.bool (!(sameI x y)))) w := by
  unfold execOp
  simp only [ho, hu, hv, Sem.run_bind, run_eqGuard_agg w .neq 64 u v _ _ guard51, Result.andThen_ok, neq_im, Sem.run_pure]
theorem exec_neq_pg (u v : Operand) (ho : op.op = .binOp .neq 62 u v 62) (x y : Pg) (w : World) (hu : a.eval u = .agg (pgA x)) (hv : a.eval v = .agg (pgA y)) : (execOp a.eval op).run Try.prog w = .ok (.value (.bool (!(x == y)))) w := by
  unfold execOp
  simp only [ho, hu, hv, Sem.run_bind, run_eqGuard_agg w .neq 62 u v _ _ guard49, Result.andThen_ok, neq_pg, Sem.run_pure]
theorem exec_load_im {w : World} (x : Operand) (ho : op.op = .load 64 x) (g o : Nat) (hx : a.eval x = .pointer (some ⟨g, o, none⟩)) (i : Im) (hc : w.rangeAt g o (imL i)) : (execOp a.eval op).run Try.prog w = .ok (.value (.agg (imA i))) w := by
  obtain ⟨ds, h1, h2, h3⟩ := str51
  unfold execOp
  simp only [ho, hx, Instr.loadAt, Instr.sureAddr, Sem.run_bind, Sem.run_pure, Result.andThen_ok, run_loadVar_mid w g o 64 (imL i) ds hc h1 h2 (by rw [imL_length]; exact h3)]
  rfl
theorem exec_load_pg {w : World} (x : Operand) (ho : op.op = .load 62 x) (g o : Nat) (hx : a.eval x = .pointer (some ⟨g, o, none⟩)) (i : Im) (q : Nat) (hq : o = q + 1) (hc : w.rangeAt g q (imL i)) : (execOp a.eval op).run Try.prog w = .ok (.value (.agg (pgA i.p))) w := by
  obtain ⟨ds, h1, h2, h3⟩ := str49
  subst hq
  have hr : w.rangeAt g (q + 1) (BC i.p.toList) := fun j v hv => by
    rw [Nat.add_assoc, Nat.add_comm 1 j]
    refine hc (j + 1) v ?_
    rw [imL, List.getElem?_cons_succ]
    exact hv
  unfold execOp
  simp only [ho, hx, Instr.loadAt, Instr.sureAddr, Sem.run_bind, Sem.run_pure, Result.andThen_ok, run_loadVar_mid w g (q + 1) 62 (BC i.p.toList) ds hr h1 h2 (by rw [BC_length, Vector.length_toList]; exact h3)]
  rfl
end
section
variable {P : Program} {ops : Array Oper} {Q : Exit → Act → World → Prop} {S : World → Prop}
/-- The region comes to its end, in no other way. -/
def Only (Q : Exit → Act → World → Prop) : Exit → Act → World → Prop
  | .normal, a, w => Q .normal a w
  | _, _, _ => False
theorem only_done {a : Act} {w : World} (h : Q .normal a w) : Only Q .normal a w := h
theorem only_up : ∀ (e : Exit) (a : Act) (w : World), Only Q e a w → Q e a w
  | .normal, _, _, h => h
theorem region_only {id : Nat} {a : Act} {w : World} (hm : P.follows .mixedOrders = true) (hS : S w.drew)
    (h : S w.drew → wpAnyH P .any ops (Only Q) S ops.size (Array.replicate ops.size false) a w.drew) : (Code.region id ops true).wp P Q a w :=
  wp_mono (wp_region_held_drew hm hS h) only_up
end
section
variable {op : Oper} {a : Act} {w : World} {K : Act → World → Prop} {Q : Exit → Act → World → Prop}
theorem wp_store_at (ty : Nat) (x y : Operand) (hop : op.dst = none) (ho : op.op = .store ty x y) (g : Nat) (hx : a.eval x = .pointer (some ⟨g, 0, none⟩)) (cs old : Array Value) (n : Nat) (hy : a.eval y = .agg cs)
    (hs : Str ty n) (hn : cs.size = n) (hn2 : old.size = n) (h1 : cs.all (·.oneCell') = true) (hc : At w g ty old)
    (h : ∀ w', At w' g ty cs → w.grownBy w' (some g) → K (a.put none undef) w') : op.wp Try.prog a w K Q := by
  obtain ⟨ds, _, _, h3⟩ := hs
  refine wp_store_row ty x y ho g cs hx hy ty old hc (by rw [hn]; exact h3) (by rw [hn, hn2]) h1 ?_
  rw [hop]
  exact h _ (setRow_heap w g old cs ty (0, 0) hc) (grown_setRow w g cs)
theorem exec_load_at (ty : Nat) (x : Operand) (ho : op.op = .load ty x) (g : Nat) (hx : a.eval x = .pointer (some ⟨g, 0, none⟩)) (cs : Array Value) (n : Nat) (hs : Str ty n) (hn : cs.size = n) (hc : At w g ty cs) :
    (execOp a.eval op).run Try.prog w = .ok (.value (.agg cs)) w := by
  obtain ⟨ds, h1, h2, h3⟩ := hs
  unfold execOp
  simp only [ho, hx, Instr.loadAt, Instr.sureAddr, Sem.run_bind, Sem.run_pure, Result.andThen_ok, run_loadVar_row w g ty ty cs (0, 0) ds hc h1 (by cases ds <;> first | rfl | cases h2) (by rw [hn]; exact h3)]
end
end Go.Proofs.Ytgjkbnplpioloaa
