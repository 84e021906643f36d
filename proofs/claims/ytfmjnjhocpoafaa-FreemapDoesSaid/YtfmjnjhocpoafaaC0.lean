/-
  Rows of cells in a block of their own; the pages that Take takes, one after the other.
  Conditions: none beyond those that each theorem names.
-/
import Derived.Test.YtfmjnjhocpoafaaB2
import Derived.Laws.MakeOwn
import Derived.Laws.Rows
namespace Go.Proofs.Ytfmjnjhocpoafaa
open Go.RowKit

/-- Block g holds just these cells. -/
def Row (w : World) (g : Nat) (t : TypeId) (cs : List Value) : Prop := w.heap[g]? = some (.cells cs.toArray t (0, 0))
section
variable {w w' : World} {g : Nat} {t : TypeId} {cs : List Value}
theorem Row.lt (h : Row w g t cs) : g < w.heap.size := (Array.getElem?_eq_some_iff.1 h).1
theorem Row.cell (h : Row w g t cs) (k : Nat) : w.cell? ⟨g, k, none⟩ = cs[k]? := by
  simp [World.cell?, show w.heap[g]? = _ from h]
theorem Row.frozen (h : Row w g t cs) (k : Nat) : w.frozen? ⟨g, k, none⟩ = false := by
  simp [World.frozen?, show w.heap[g]? = _ from h]
theorem Row.set (h : Row w g t cs) (k : Nat) (v : Value) : Row (w.setCell ⟨g, k, none⟩ v) g t (cs.set k v) := by
  rw [Row, heap_setCell_same w g k _ t v h]
  simp
theorem Row.other (h : Row w g t cs) {b : Nat} (hb : g ≠ b) (k : Nat) (v : Value) : Row (w.setCell ⟨b, k, none⟩ v) g t cs :=
  (Below.heap_setCell _ _ _ _ hb).trans h
theorem Row.below (h : Row w g t cs) (hb : Below w.heap.size w w') : Row w' g t cs := (hb.block g h.lt).trans h
theorem Row.under {B : Nat} (h : Row w g t cs) (hb : Below B w w') (hg : g < B) : Row w' g t cs := (hb.block g hg).trans h
theorem Row.alloc (h : Row w g t cs) (o : Obj) : Row (w.alloc o) g t cs := (Below.heap_alloc w o g h.lt).trans h
theorem Row.drew (h : Row w g t cs) : Row w.drew g t cs := h
theorem Row.new (w : World) (t : TypeId) (cs : List Value) : Row (w.alloc (.cells cs.toArray t)) w.heap.size t cs := World.alloc_heap_new w _
theorem Row.put (h : Row w g t cs) {l : Nat} {o : Obj} (o' : Obj) (hl : w.heap[l]? = some o) (ho : o.isCells = false) : Row (w.putObj l o') g t cs := by
  refine Eq.trans (World.putObj_heap_other ?_) h
  rintro rfl
  rw [show w.heap[g]? = _ from h] at hl
  cases hl
  cases ho
end

/-- The cells of a map. -/
def C3 (l : List Bool) : List Value := [.int .i64 (l.length : Nat), .int .u64 (lo l : Nat), .int .u64 (hi l : Nat)]
theorem Row.cells3 {w : World} {g : Nat} {l : List Bool} (h : Row w g 27 (C3 l)) :
    w.cell? ⟨g, 0, none⟩ = some (.int .i64 (l.length : Nat)) ∧ w.cell? ⟨g, 1, none⟩ = some (.int .u64 (lo l : Nat)) ∧ w.cell? ⟨g, 2, none⟩ = some (.int .u64 (hi l : Nat)) :=
  ⟨h.cell 0, h.cell 1, h.cell 2⟩
theorem Row.frozen3 {w : World} {g : Nat} {cs : List Value} (h : Row w g 27 cs) :
    w.frozen? ⟨g, 0, none⟩ = false ∧ w.frozen? ⟨g, 1, none⟩ = false ∧ w.frozen? ⟨g, 2, none⟩ = false :=
  ⟨h.frozen 0, h.frozen 1, h.frozen 2⟩
theorem Row.set3 {w : World} {g : Nat} {l : List Bool} (h : Row w g 27 (C3 l)) (l' : List Bool) :
    Row (((w.setCell ⟨g, 0, none⟩ (.int .i64 (l'.length : Nat))).setCell ⟨g, 1, none⟩ (.int .u64 (lo l' : Nat))).setCell ⟨g, 2, none⟩ (.int .u64 (hi l' : Nat))) g 27 (C3 l') :=
  ((h.set 0 _).set 1 _).set 2 _
theorem Row.other3 {w : World} {g b : Nat} {t : TypeId} {cs : List Value} (h : Row w g t cs) (hb : g ≠ b) (x y z : Value) :
    Row (((w.setCell ⟨b, 0, none⟩ x).setCell ⟨b, 1, none⟩ y).setCell ⟨b, 2, none⟩ z) g t cs :=
  ((h.other hb 0 _).other hb 1 _).other hb 2 _
theorem Row.new3 (w : World) (l : List Bool) : Row (w.alloc (.cells #[.int .i64 (l.length : Nat), .int .u64 (lo l : Nat), .int .u64 (hi l : Nat)] 27)) w.heap.size 27 (C3 l) := Row.new w 27 (C3 l)
/-- Numbers as cells, bools as cells. -/
def IN (L : List Nat) : List Value := L.map fun x : Nat => .int .i64 (x : Int)
theorem IN_length (L : List Nat) : (IN L).length = L.length := by simp [IN]
theorem IN_get (L : List Nat) (k : Nat) (h : k < L.length) : (IN L)[k]? = some (.int .i64 ((L[k] : Nat) : Int)) := by simp [IN, h]
theorem IN_take (L : List Nat) (k : Nat) : IN (L.take k) = (IN L).take k := by simp [IN]
theorem IN_set (L : List Nat) (k x : Nat) : (IN L).set k (.int .i64 (x : Int)) = IN (L.set k x) := by simp [IN]
theorem IN_one (L : List Nat) : ∀ u ∈ IN L, u.oneCell' = true := by
  intro u hu
  simp only [IN, List.mem_map] at hu
  obtain ⟨b, _, rfl⟩ := hu
  rfl
def BL (l : List Bool) : List Value := l.map .bool
theorem BL_length (l : List Bool) : (BL l).length = l.length := by simp [BL]
theorem BL_get (l : List Bool) (k : Nat) (h : k < l.length) : (BL l)[k]? = some (.bool (tk l (k : Int))) := by
  rw [tk_nat, List.getD_eq_getElem?_getD]
  simp [BL, h]
theorem BL_set (l : List Bool) (k : Nat) (b : Bool) : (BL l).set k (.bool b) = BL (l.set k b) := by simp [BL]
theorem BL_one (l : List Bool) : ∀ u ∈ BL l, u.oneCell' = true := by
  intro u hu
  simp only [BL, List.mem_map] at hu
  obtain ⟨b, _, rfl⟩ := hu
  rfl

/-- The free pages. -/
abbrev fr (l : List Bool) : List Nat := pg l false l.length
theorem tk_set (l : List Bool) (i j : Nat) (t : Bool) (h : i < l.length) : tk (l.set i t) (j : Int) = if i = j then t else tk l (j : Int) := by
  rw [tk_nat, tk_nat, getD_set l i j t h]
theorem pg_mem {l : List Bool} {t : Bool} {k x : Nat} : x ∈ pg l t k ↔ x < k ∧ tk l (x : Int) = t := by
  unfold pg
  simp [List.mem_filter]
theorem pg_nodup (l : List Bool) (t : Bool) (k : Nat) : (pg l t k).Nodup := List.Pairwise.filter _ List.nodup_range
theorem pg_set (l : List Bool) (i n : Nat) (h : i < l.length) : pg (l.set i true) false n = (pg l false n).filter (fun x => !(x == i)) := by
  unfold pg
  rw [List.filter_filter]
  refine List.filter_congr fun x _ => ?_
  rw [tk_set l i x true h]
  by_cases e : i = x
  · subst e; simp
  · have e' : ¬ x = i := fun h => e h.symm
    simp [e, e']
theorem fr_set {l : List Bool} {x : Nat} {r : List Nat} (h : fr l = x :: r) : fr (l.set x true) = r := by
  have hx : x ∈ fr l := by rw [h]; simp
  obtain ⟨hlt, _⟩ := pg_mem.1 hx
  have hn : (fr l).Nodup := pg_nodup l false l.length
  rw [h] at hn
  show pg (l.set x true) false (l.set x true).length = r
  rw [List.length_set, pg_set l x _ hlt, show pg l false l.length = x :: r from h, List.filter_cons_of_neg (by simp), List.filter_eq_self.2]
  intro y hy
  have := (List.nodup_cons.1 hn).1
  simp
  rintro rfl
  exact this hy
/-- The map in which the first k free pages are taken. -/
def takeL (l : List Bool) : Nat → List Bool
  | 0 => l
  | k + 1 => (takeL l k).set ((fr l).getD k 0) true
theorem takeL_length (l : List Bool) : ∀ k, (takeL l k).length = l.length
  | 0 => rfl
  | k + 1 => by rw [takeL, List.length_set, takeL_length l k]
theorem takeL_fr (l : List Bool) : ∀ k, k ≤ (fr l).length → fr (takeL l k) = (fr l).drop k
  | 0, _ => rfl
  | k + 1, h => by
    have ih := takeL_fr l k (by omega)
    rw [List.drop_eq_getElem_cons (by omega)] at ih
    have := fr_set ih
    rw [takeL, ← this, List.getD_eq_getElem?_getD, List.getElem?_eq_getElem (by omega)]
    rfl
theorem takeL_first (l : List Bool) (k : Nat) (h : k < (fr l).length) : firstI (fr (takeL l k)) = ((fr l)[k] : Nat) := by
  rw [takeL_fr l k (by omega), List.drop_eq_getElem_cons (by omega)]
  rfl
theorem fr_lt (l : List Bool) (k : Nat) (h : k < (fr l).length) : (fr l)[k] < l.length := (pg_mem.1 (List.getElem_mem h)).1
theorem takeL_free (l : List Bool) (k : Nat) (h : k < (fr l).length) : tk (takeL l k) (((fr l)[k] : Nat) : Int) = false := by
  have hm : (fr l)[k] ∈ fr (takeL l k) := by
    rw [takeL_fr l k (by omega), List.drop_eq_getElem_cons (by omega)]
    exact List.mem_cons_self
  exact (pg_mem.1 hm).2
theorem takeL_setL (l : List Bool) (k : Nat) (h : k < (fr l).length) : setL (takeL l k) (((fr l)[k] : Nat) : Int) true = takeL l (k + 1) ∧ setB (takeL l k) (((fr l)[k] : Nat) : Int) true = true := by
  have h1 := fr_lt l k h
  have hin : inB (takeL l k) (((fr l)[k] : Nat) : Int) = true := by
    unfold inB
    rw [takeL_length]
    simp
    exact h1
  unfold setL setB
  rw [hin, takeL_free l k h]
  refine ⟨?_, rfl⟩
  rw [takeL, List.getD_eq_getElem?_getD, List.getElem?_eq_getElem h]
  rfl

theorem info_parts {P : Program} {e : TypeId} {z : Value} {s b : Nat} (h : (P.info? e).map (fun i => (i.zero, i.size, i.bytes)) = some (some z, s, b)) : ∃ i, P.info? e = some i ∧ i.zero = some z ∧ i.size = s ∧ i.bytes = b := by
  cases hi : P.info? e with
  | none => rw [hi] at h; cases h
  | some i =>
    rw [hi] at h
    simp at h
    exact ⟨i, rfl, h.1, h.2.1, h.2.2⟩
theorem int_info : (Try.prog.info? 3).map (fun i => (i.zero, i.size, i.bytes)) = some (some (.int .i64 0), 1, 8) := by kernel_rfl
theorem bool_info : (Try.prog.info? 4).map (fun i => (i.zero, i.size, i.bytes)) = some (some (.bool false), 1, 1) := by kernel_rfl
theorem made_one (v : Value) (hv : v.cells = #[v]) (n : Nat) : madeCells v.cells (n * 1) = (List.replicate n v).toArray := by
  apply Array.ext_getElem?
  intro j
  rw [Nat.mul_one, hv]
  conv => rhs; rw [List.getElem?_toArray, List.getElem?_replicate]
  by_cases h : j < n
  · rw [if_pos h]
    simp only [madeCells, Array.getElem?_map]
    rw [Array.getElem?_range]
    simp [h, Nat.mod_one]
  · rw [if_neg h, Array.getElem?_eq_none (by rw [size_madeCells]; omega)]
theorem make_ints (n : Nat) (hn : n ≤ 100000) (w : World) : (Instr.makeSlice 38 (.int .i64 (n : Int)) (.int .i64 (n : Int))).run Try.prog w =
    .ok (.slice (some ⟨w.heap.size, 0, none⟩) n n) (w.alloc (.cells (IN (List.replicate n 0)).toArray 3)) := by
  obtain ⟨i0, hi0, hz0, hz1, hz2⟩ := info_parts int_info
  have := run_make (P := Try.prog) w 38 3 i0 _ Try.underlying38 hi0 hz0 .i64 .i64 n n (by omega) (by omega) (by rw [hz2]; omega) (by omega)
  simp only [Int.toNat_natCast] at this
  rw [this, hz1, made_one _ rfl]
  simp [IN]
theorem make_bools (n : Nat) (hn : n ≤ 100000) (w : World) : (Instr.makeSlice 31 (.int .i64 (n : Int)) (.int .i64 (n : Int))).run Try.prog w =
    .ok (.slice (some ⟨w.heap.size, 0, none⟩) n n) (w.alloc (.cells (BL (List.replicate n false)).toArray 4)) := by
  obtain ⟨i0, hi0, hz0, hz1, hz2⟩ := info_parts bool_info
  have := run_make (P := Try.prog) w 31 4 i0 _ Try.underlying31 hi0 hz0 .i64 .i64 n n (by omega) (by omega) (by rw [hz2]; omega) (by omega)
  simp only [Int.toNat_natCast] at this
  rw [this, hz1, made_one _ rfl]
  simp [BL]
end Go.Proofs.Ytfmjnjhocpoafaa
