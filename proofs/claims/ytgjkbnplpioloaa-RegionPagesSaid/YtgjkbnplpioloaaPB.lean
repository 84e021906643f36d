/-
  Laws of no program that the walks of this seat lean on: sectors as rows of cells; a slice that reads as a list of cells, in a block outside a set of blocks; a world in which only a set of blocks has turned; append onto a row of the call's pl_own; copy of elements of several cells; comparison of two rows of bytes.
  Conditions: none beyond those that each theorem names.
-/
import Derived.WalkKit
import Derived.Below
import Derived.Deep.Draws
import Derived.Laws.OwnMore
import Derived.Maps.AppendAt
import Derived.Lib.AppendStr
import Derived.Lib.AppendZeros
import Derived.Lib.Hide
import Derived.Deep.MidRow
import Derived.Deep.WholeRow
import Derived.ChangeKeysEq
import Derived.Laws.StructEq
import Derived.Laws.CopyOwn
namespace Go.Proofs.Ytgjkbnplpioloaa
open Go.RowKit

/-! ### Cells -/
abbrev Sect := Vector Int 64
def zsec : Sect := Vector.replicate 64 0
/-- Bytes as cells. -/
def CL (l : List Int) : List Value := l.map (.int .u8)
def sec (b : Sect) : List Value := CL b.toList
def secA (b : Sect) : Array Value := (sec b).toArray
def flat : List Sect → List Value
  | [] => []
  | b :: r => sec b ++ flat r
def BL (l : List Bool) : List Value := l.map .bool

theorem CL_length (l : List Int) : (CL l).length = l.length := by simp [CL]
theorem CL_get (l : List Int) (k : Nat) (h : k < l.length) : (CL l)[k]? = some (.int .u8 l[k]) := by simp [CL, h]
theorem CL_one (l : List Int) : ∀ u ∈ CL l, u.oneCell' = true := by
  intro u hu
  simp only [CL, List.mem_map] at hu
  obtain ⟨b, _, rfl⟩ := hu
  rfl
theorem CL_append (l m : List Int) : CL (l ++ m) = CL l ++ CL m := by simp [CL]
theorem CL_take (l : List Int) (k : Nat) : CL (l.take k) = (CL l).take k := by simp [CL]
theorem CL_drop (l : List Int) (k : Nat) : CL (l.drop k) = (CL l).drop k := by simp [CL]
theorem CL_zero (n : Nat) : CL (List.replicate n 0) = List.replicate n (.int .u8 0) := by simp [CL]
theorem sec_length (b : Sect) : (sec b).length = 64 := by rw [sec, CL_length, Vector.length_toList]
theorem secA_size (b : Sect) : (secA b).size = 64 := by rw [secA, List.size_toArray, sec_length]
theorem secA_toList (b : Sect) : (secA b).toList = sec b := rfl
theorem sec_get (b : Sect) (j : Nat) (h : j < 64) : (sec b)[j]? = some (.int .u8 b[j]) := by rw [sec, CL_get _ j (by rw [Vector.length_toList]; exact h)]; simp
theorem secA_get (b : Sect) (j : Nat) (h : j < 64) : (secA b)[j]? = some (.int .u8 b[j]) := by rw [secA, List.getElem?_toArray, sec_get b j h]
theorem sec_one (b : Sect) : ∀ u ∈ sec b, u.oneCell' = true := CL_one _
theorem secA_one (b : Sect) : (secA b).all (·.oneCell') = true := all_oneCell_toArray (sec_one b)
theorem sec_zero : sec zsec = List.replicate 64 (.int .u8 0) := by rw [sec, zsec, Vector.toList_replicate, CL_zero]
theorem flat_length : ∀ l : List Sect, (flat l).length = l.length * 64
  | [] => rfl
  | b :: r => by simp [flat, sec_length, flat_length r]; omega
theorem flat_append : ∀ l m : List Sect, flat (l ++ m) = flat l ++ flat m
  | [], _ => rfl
  | b :: r, m => by simp [flat, flat_append r m]
theorem flat_one : ∀ l : List Sect, ∀ u ∈ flat l, u.oneCell' = true
  | [], u, h => by simp [flat] at h
  | b :: r, u, h => by
    simp only [flat, List.mem_append] at h
    rcases h with h | h
    · exact sec_one b u h
    · exact flat_one r u h
theorem flat_single (b : Sect) : flat [b] = sec b := by simp [flat]
theorem flat_take : ∀ (l : List Sect) (k : Nat), (flat l).take (k * 64) = flat (l.take k)
  | [], k => by simp [flat]
  | b :: r, 0 => by simp [flat]
  | b :: r, k + 1 => by
    rw [List.take_succ_cons, flat, flat, List.take_append, sec_length, List.take_of_length_le (by rw [sec_length]; omega), show (k + 1) * 64 - 64 = k * 64 from by omega, flat_take r k]
theorem flat_drop : ∀ (l : List Sect) (k : Nat), (flat l).drop (k * 64) = flat (l.drop k)
  | [], k => by simp [flat]
  | b :: r, 0 => by simp
  | b :: r, k + 1 => by
    rw [List.drop_succ_cons, flat, List.drop_append, sec_length, List.drop_of_length_le (by rw [sec_length]; omega), show (k + 1) * 64 - 64 = k * 64 from by omega, flat_drop r k]
    rfl
theorem flat_zero (n : Nat) : flat (List.replicate n zsec) = List.replicate (n * 64) (.int .u8 0) := by
  induction n with
  | zero => rfl
  | succ n ih =>
    rw [List.replicate_succ, flat, ih, sec_zero, List.replicate_append_replicate]
    congr 1
    omega
theorem BL_length (l : List Bool) : (BL l).length = l.length := by simp [BL]
theorem BL_one (l : List Bool) : ∀ u ∈ BL l, u.oneCell' = true := by
  intro u hu
  simp only [BL, List.mem_map] at hu
  obtain ⟨b, _, rfl⟩ := hu
  rfl
theorem BL_get (l : List Bool) (k : Nat) (h : k < l.length) : (BL l)[k]? = some (.bool l[k]) := by simp [BL, h]
theorem BL_take (l : List Bool) (k : Nat) : BL (l.take k) = (BL l).take k := by simp [BL]

/-! ### Addresses -/
theorem pl_add_block (a : Addr) (n : Nat) : (a.add n).block = a.block := by
  unfold Addr.add; split <;> rfl
theorem add_plain (b o n : Nat) : (⟨b, o, none⟩ : Addr).add n = ⟨b, o + n, none⟩ := Addr.add_mid b o n

/-! ### Only the blocks of X have turned -/
structure Mod (X : Nat → Prop) (w w' : World) : Prop where
  os : w'.os = w.os
  tape : w'.tape = w.tape
  output : w'.output = w.output
  size : w.heap.size ≤ w'.heap.size
  block : ∀ k, k < w.heap.size → ¬ X k → w'.heap[k]? = w.heap[k]?

section
variable {X Y : Nat → Prop} {a w w' : World}
theorem Mod.refl (X : Nat → Prop) (w : World) : Mod X w w := ⟨rfl, rfl, rfl, Nat.le_refl _, fun _ _ _ => rfl⟩
theorem Mod.trans {b c : World} (h : Mod X a b) (k : Mod X b c) : Mod X a c :=
  ⟨k.os.trans h.os, k.tape.trans h.tape, k.output.trans h.output, Nat.le_trans h.size k.size, fun i hi hx => (k.block i (Nat.lt_of_lt_of_le hi h.size) hx).trans (h.block i hi hx)⟩
theorem Mod.mono (h : Mod X w w') (hXY : ∀ k, k < w.heap.size → X k → Y k) : Mod Y w w' :=
  ⟨h.os, h.tape, h.output, h.size, fun k hk hy => h.block k hk fun hx => hy (hXY k hk hx)⟩
theorem Mod.of_below (h : Below w.heap.size w w') (X : Nat → Prop) : Mod X w w' := ⟨h.os, h.tape, h.output, h.size, fun k hk _ => h.block k hk⟩
theorem Mod.below {B : Nat} {w0 : World} (hb : Below B w0 w) (h : Mod X w w') (hX : ∀ k, X k → B ≤ k) (hB : B ≤ w.heap.size) : Below B w0 w' :=
  hb.trans ⟨h.os, h.tape, h.output, h.size, fun k hk => h.block k (by omega) fun hx => by have := hX k hx; omega⟩
theorem Mod.alloc (h : Mod X a w) (o : Obj) : Mod X a (w.alloc o) :=
  ⟨h.os, h.tape, h.output, Nat.le_trans h.size (by simp), fun k hk hx => (Below.heap_alloc w o k (Nat.lt_of_lt_of_le hk h.size)).trans (h.block k hk hx)⟩
theorem Mod.setCell (h : Mod X a w) {p : Addr} (hp : X p.block ∨ a.heap.size ≤ p.block) (u : Value) : Mod X a (w.setCell p u) :=
  ⟨h.os, h.tape, h.output, by simpa [World.setCell] using h.size, fun k hk hx => (Below.heap_setCell w p u k (by
    rintro rfl
    rcases hp with hp | hp
    · exact hx hp
    · omega)).trans (h.block k hk hx)⟩
theorem Mod.drewN (h : Mod X a w) (n : Nat) : Mod X a (w.drewN n) := ⟨h.os, h.tape, h.output, h.size, h.block⟩
theorem Mod.drew (h : Mod X a w) : Mod X a w.drew := ⟨h.os, h.tape, h.output, h.size, h.block⟩
theorem Mod.grown {row : Option Nat} (h : Mod X a w) (hg : w.grownBy w' row) (hr : ∀ k, row = some k → X k ∨ a.heap.size ≤ k) : Mod X a w' :=
  ⟨hg.os.trans h.os, hg.tape.trans h.tape, hg.output.trans h.output, Nat.le_trans h.size hg.size, fun k hk hx => (hg.block k (Nat.lt_of_lt_of_le hk h.size) (fun e => by
    rcases hr k e.symm with hr | hr
    · exact hx hr
    · omega)).trans (h.block k hk hx)⟩
theorem Mod.setRow (h : Mod X a w) {g : Nat} (hp : X g ∨ a.heap.size ≤ g) (cs : Array Value) : Mod X a (w.setRow g cs) :=
  ⟨h.os, h.tape, h.output, by rw [size_setRow]; exact h.size, fun k hk hx => by
    rw [setRow_other w g k cs (by
      rintro rfl
      rcases hp with hp | hp
      · exact hx hp
      · omega)]
    exact h.block k hk hx⟩
theorem pl_setCells_heap (b : Nat) : ∀ (vs : List Value) (o : Nat) (w : World) (k : Nat), k ≠ b → (w.setCells b o vs).heap[k]? = w.heap[k]?
  | [], _, _, _, _ => rfl
  | v :: r, o, w, k, h => by
    rw [World.setCells, pl_setCells_heap b r (o + 1) _ k h, Below.heap_setCell _ _ _ _ h]
theorem pl_setCells_size (b : Nat) : ∀ (vs : List Value) (o : Nat) (w : World), (w.setCells b o vs).heap.size = w.heap.size
  | [], _, _ => rfl
  | v :: r, o, w => by rw [World.setCells, pl_setCells_size b r]; simp [World.setCell]
theorem pl_setCells_rest (b : Nat) : ∀ (vs : List Value) (o : Nat) (w : World), (w.setCells b o vs).os = w.os ∧ (w.setCells b o vs).tape = w.tape ∧ (w.setCells b o vs).output = w.output
  | [], _, _ => ⟨rfl, rfl, rfl⟩
  | v :: r, o, w => by rw [World.setCells]; exact pl_setCells_rest b r (o + 1) _
theorem Mod.setCells (h : Mod X a w) {b : Nat} (hp : X b ∨ a.heap.size ≤ b) (o : Nat) (vs : List Value) : Mod X a (w.setCells b o vs) := by
  obtain ⟨h1, h2, h3⟩ := pl_setCells_rest b vs o w
  refine ⟨h1.trans h.os, h2.trans h.tape, h3.trans h.output, by rw [pl_setCells_size]; exact h.size, fun k hk hx => ?_⟩
  rw [pl_setCells_heap b vs o w k (by
    rintro rfl
    rcases hp with hp | hp
    · exact hx hp
    · omega)]
  exact h.block k hk hx
end

/-! ### A slice that reads as a list of cells, in a block outside X -/
structure Lz (X : Nat → Prop) (w : World) (size : Nat) (A : Option Addr) (n : Nat) (xs : List Value) : Prop where
  len : xs.length = n * size
  spot : 0 < n → ∃ b o, A = some ⟨b, o, none⟩ ∧ ¬ X b ∧ b < w.heap.size ∧ w.rangeAt b o xs

section
variable {X Y : Nat → Prop} {w w' : World} {size n : Nat} {A : Option Addr} {xs : List Value}
theorem pl_rangeAt_block {b o : Nat} {cs : List Value} (h : w.rangeAt b o cs) (hb : w'.heap[b]? = w.heap[b]?) : w'.rangeAt b o cs := fun j v hv => by
  rw [World.cell?_of_block (w := w) (a := ⟨b, o + j, none⟩) hb]
  exact h j v hv
theorem Lz.empty : Lz X w size A 0 [] := ⟨by simp, fun h => absurd h (Nat.lt_irrefl 0)⟩
theorem Lz.kept (h : Lz X w size A n xs) (hm : Mod X w w') : Lz X w' size A n xs := by
  refine ⟨h.len, fun hn => ?_⟩
  obtain ⟨b, o, ha, hx, hb, hr⟩ := h.spot hn
  exact ⟨b, o, ha, hx, Nat.lt_of_lt_of_le hb hm.size, pl_rangeAt_block hr (hm.block b hb hx)⟩
theorem Lz.keptY (h : Lz X w size A n xs) (hm : Mod Y w w') (hY : ∀ k, k < w.heap.size → Y k → X k) : Lz X w' size A n xs := h.kept (hm.mono hY)
theorem Lz.mono (h : Lz X w size A n xs) (hY : ∀ k, k < w.heap.size → Y k → X k) : Lz Y w size A n xs := by
  refine ⟨h.len, fun hn => ?_⟩
  obtain ⟨b, o, ha, hx, hb, hr⟩ := h.spot hn
  exact ⟨b, o, ha, fun hy => hx (hY b hb hy), hb, hr⟩
theorem Lz.below (h : Lz X w size A n xs) (hm : Below w.heap.size w w') : Lz X w' size A n xs := h.kept (Mod.of_below hm X)
theorem Lz.alloc (h : Lz X w size A n xs) (o : Obj) : Lz X (w.alloc o) size A n xs := h.kept ((Mod.refl X w).alloc o)
theorem Lz.get {k : Nat} (h : Lz X w 1 A n xs) (hk : k < n) :
    ∃ b o u, A = some ⟨b, o, none⟩ ∧ ¬ X b ∧ b < w.heap.size ∧ xs[k]? = some u ∧ w.cell? ⟨b, o + k, none⟩ = some u := by
  obtain ⟨b, o, ha, hx, hb, hr⟩ := h.spot (by omega)
  have hl : k < xs.length := by have := h.len; omega
  exact ⟨b, o, xs[k], ha, hx, hb, List.getElem?_eq_getElem hl, hr k _ (List.getElem?_eq_getElem hl)⟩
theorem Lz.head (h : Lz X w size A n xs) {k : Nat} (hk : k ≤ n) : Lz X w size A k (xs.take (k * size)) := by
  refine ⟨by rw [List.length_take, h.len, Nat.min_eq_left (Nat.mul_le_mul_right _ hk)], fun hn => ?_⟩
  obtain ⟨b, o, ha, hx, hb, hr⟩ := h.spot (by omega)
  refine ⟨b, o, ha, hx, hb, fun j u hu => ?_⟩
  rw [List.getElem?_take] at hu
  split at hu
  · exact hr j u hu
  · cases hu
/-- x[k:..], whatever the model keeps as the address of an empty rest. -/
theorem Lz.tail (h : Lz X w size A n xs) {k : Nat} (hk : k ≤ n) (A' : Option Addr) (hA : k < n → A' = A.map (·.add (k * size))) :
    Lz X w size A' (n - k) (xs.drop (k * size)) := by
  refine ⟨by rw [List.length_drop, h.len, Nat.sub_mul], fun hn => ?_⟩
  obtain ⟨b, o, ha, hx, hb, hr⟩ := h.spot (by omega)
  refine ⟨b, o + k * size, by rw [hA (by omega), ha]; simp [add_plain], hx, hb, fun j u hu => ?_⟩
  rw [List.getElem?_drop] at hu
  rw [Nat.add_assoc]
  exact hr _ u hu
theorem Lz.of_own {base : Nat} {e : TypeId} {c : Nat} (h : w.ownsRow base e size (.slice A n c) n xs) (hX : ∀ k, X k → k < base) : Lz X w size A n xs := by
  refine ⟨h.1, fun hn => ?_⟩
  have hc := @World.ownsRow.cells w base e size (.slice A n c) n xs h
  rcases h.2 with ⟨_, h0⟩ | ⟨g, cap, cur, hv, hb, hg, _⟩
  · omega
  · injection hv with hA
    subst hA
    refine ⟨g, 0, rfl, fun hx => by have := hX g hx; omega, (Array.getElem?_eq_some_iff.1 hg).1, fun j u hu => ?_⟩
    have := hc rfl j u hu
    rwa [add_plain] at this
theorem Lz.nil_of_none (h : Lz X w size none n xs) : n = 0 ∧ xs = [] := by
  by_cases hn : n = 0
  · subst hn
    exact ⟨rfl, List.eq_nil_of_length_eq_zero (by rw [h.len]; simp)⟩
  · obtain ⟨b, o, ha, _⟩ := h.spot (by omega)
    cases ha
theorem pl_own_slice {base : Nat} {e : TypeId} {v : Value} (h : w.ownsRow base e size v n xs) :
    ∃ A c, v = .slice A n c ∧ n ≤ c ∧ c ≤ maxLen := by
  rcases h.2 with ⟨rfl, rfl⟩ | ⟨g, cap, cur, rfl, _, _, hc, hm, _⟩
  · exact ⟨none, 0, rfl, Nat.le_refl _, by simp [maxLen]⟩
  · exact ⟨_, cap, rfl, hc, hm⟩
theorem pl_own_under {B base : Nat} {e : TypeId} {v : Value} (h : w.ownsRow base e size v n xs) (hb : Below B w w') (hB : w.heap.size ≤ B) :
    w'.ownsRow base e size v n xs := by
  refine ⟨h.1, ?_⟩
  rcases h.2 with hn | ⟨g, cap, cur, hv, hbg, hg, rest⟩
  · exact .inl hn
  · have := (Array.getElem?_eq_some_iff.1 hg).1
    exact .inr ⟨g, cap, cur, hv, hbg, by rw [hb.block g (by omega)]; exact hg, rest⟩
theorem pl_own_base {base base' : Nat} {e : TypeId} {v : Value} (h : w.ownsRow base e size v n xs) (hb : base' ≤ base) :
    w.ownsRow base' e size v n xs := by
  refine ⟨h.1, ?_⟩
  rcases h.2 with hn | ⟨g, cap, cur, hv, hbg, rest⟩
  · exact .inl hn
  · exact .inr ⟨g, cap, cur, hv, by omega, rest⟩
end
theorem pl_below_own {B base : Nat} {a w w' : World} {e : TypeId} {size : Nat} {v : Value} {n : Nat} {xs : List Value} (h : Below B a w) (ho : w.ownsRow base e size v n xs) (hg : w.grownBy w' v.ownBlock)
    (hb : B ≤ base) (hB : B ≤ w.heap.size) : Below B a w' :=
  h.grown hg hB fun k hk => Nat.le_trans hb (ho.lt k hk).1

/-! ### append -/
section
variable {P : Program} (w : World)
theorem pl_wpList_app {ops : Array Oper} {rest : List Oper} {o : Oper} {a : Act} {Q : Exit → Act → World → Prop} (hgd : o.guard = none) (s x : Operand) (t : TypeId)
    (ho : o.op = .call { callee := .builtin .append, args := #[s, x], argTypes := #[t, t] })
    (base : Nat) (e : TypeId) (i : TypeInfo) (z : Value) (size bytes : Nat) (ht : P.underlying t = some (.slice e)) (hi : P.info? e = some i) (hz : i.zero = some z)
    (hsize : i.size = size) (hby : i.bytes = bytes) (hzs : z.cells.size = size) (hsz : 0 < size)
    (v : Value) (n : Nat) (xs : List Value) (hs : a.eval s = v) (hown : w.ownsRow base e size v n xs)
    (ad : Addr) (m c : Nat) (news : List Value) (hx : a.eval x = .slice (some ad) m c) (hl : news.length = m * size) (hr : ∀ j u, news[j]? = some u → w.cell? (ad.add j) = some u) (h1 : ∀ u ∈ news, u.oneCell' = true)
    (h63 : n + m ≤ maxLen) (hbytes : (n + m) * bytes ≤ 140737488355328) (hbase : base ≤ w.heap.size)
    (h : ∀ v' w', w'.ownsRow base e size v' (n + m) (xs ++ news) → w.grownBy w' v.ownBlock → wpList P ops Q rest (a.put o.dst v') w') : wpList P ops Q (o :: rest) a w := by
  obtain ⟨v', w', hrun, h2, h3, _⟩ := run_append_own_at (P := P) w base t o.type e i z size bytes ht hi hz hsize hby hzs hsz v n xs hown ad m c news hl hr h1 h63 hbytes hbase
  exact Lib.wpList_append_run w hgd s x t t ho v _ hs hx v' w' hrun (h v' w' h2 h3)
end
theorem Lz.cells {X : Nat → Prop} {w : World} {size n : Nat} {a : Addr} {xs : List Value} (h : Lz X w size (some a) n xs) : ∀ j u, xs[j]? = some u → w.cell? (a.add j) = some u := by
  intro j u hu
  by_cases hn : n = 0
  · subst hn
    have : xs = [] := List.eq_nil_of_length_eq_zero (by rw [h.len]; simp)
    subst this
    simp at hu
  · obtain ⟨b, o, ha, _, _, hr⟩ := h.spot (by omega)
    injection ha with ha
    subst ha
    rw [add_plain]
    exact hr j u hu

/-! ### copy, of elements of several cells -/
section
variable {P : Program}
theorem run_copy_many (w : World) (dT sT ty elem : TypeId) (size b o n dCap sCap : Nat) (a : Option Addr) (cs : List Value)
    (hu : P.underlying dT = some (.slice elem)) (hs : (P.info? elem).map (·.size) = some size) (hn : cs.length = n * size) (X : Nat → Prop)
    (hsrc : Lz X w size a n cs) (hth : w.there b o cs.length) (h1 : ∀ v ∈ cs, v.oneCell' = true) :
    (Builtin.copy_ #[dT, sT] ty #[.slice (some ⟨b, o, none⟩) n dCap, .slice a n sCap]).run P w = .ok (goInt n) (w.setCells b o cs) := by
  have hst := run_storeCells_cells (P := P) b o cs 0 w (by simpa using fun j hj => (hth j hj).1) (by simpa using fun j hj => (hth j hj).2) h1
  cases hq : P.info? elem with
  | none => simp [hq] at hs
  | some i =>
    have hi : i.size = size := by simpa [hq] using hs
    cases a with
    | none =>
      obtain ⟨rfl, rfl⟩ := hsrc.nil_of_none
      simp [Builtin.copy_, run_underlying hu, Builtin.lenOf, Builtin.firstCells, sizeOf, typeInfo, hq, storeCells, World.setCells]
    | some a =>
      have hl := run_loadCells_list (P := P) w a cs hsrc.cells
      rw [hn] at hl
      simp [Builtin.copy_, run_underlying hu, Builtin.lenOf, Builtin.firstCells, sizeOf, typeInfo, hq, hi, hl] at hst ⊢
      rw [hst]
      rfl
end

/-! ### Two rows of bytes compared -/
section
variable {P : Program}
theorem eqItems_row (d : Nat) {e : TypeId} (he : P.underlying e = some (.int .u8)) (a b : List Int) (w : World) : ∀ is : List Nat, (∀ i ∈ is, i < a.length ∧ i < b.length) →
    (Op.eqItems (d + 1) e 1 (CL a).toArray (CL b).toArray is).run P w = .ok (is.all fun i => a.getD i 0 == b.getD i 0) w
  | [], _ => by simp [Op.eqItems]
  | i :: is, h => by
    obtain ⟨hi1, hi2⟩ := h i (by simp)
    have hagg : (isAgg e).run P w = .ok false w := by
      unfold isAgg
      rw [Sem.run_bind, run_underlying he w]
      simp
    have p1 : ∀ x : List Int, i < x.length → (part e (CL x).toArray (i * 1)).run P w = .ok (.int .u8 (x.getD i 0)) w := fun x hx => by
      simp only [part, Sem.run_bind, hagg, Result.andThen_ok, Nat.mul_one, List.getElem?_toArray, CL_get x i hx]
      simp [List.getD, hx]
    simp only [Op.eqItems, Sem.run_bind, p1 a hi1, p1 b hi2, Result.andThen_ok, run_equalIn_int w d e .u8 .u8 _ _ he]
    have ih := eqItems_row d he a b w is (fun j hj => h j (by simp [hj]))
    rw [List.all_cons]
    cases hab : (a.getD i 0 == b.getD i 0) with
    | true => simpa using ih
    | false => simp
theorem pl_all_same (a b : List Int) (n : Nat) (ha : a.length = n) (hb : b.length = n) : ((List.range n).all fun i => a.getD i 0 == b.getD i 0) = (a == b) := by
  rw [Bool.eq_iff_iff, List.all_eq_true, beq_iff_eq]
  constructor
  · intro h
    apply List.ext_getElem (by omega)
    intro i h1 h2
    have := h i (by simp; omega)
    simpa [List.getD, h1, h2] using this
  · rintro rfl i _
    simp
theorem run_neq_row {t e : TypeId} {i : TypeInfo} (n : Nat) (ht : P.underlying t = some (.array n e)) (hi : P.info? e = some i) (hc : P.cellsOf e = 1) (he : P.underlying e = some (.int .u8)) (a b : List Int) (ha : a.length = n) (hb : b.length = n) (w : World) :
    (binOp .neq t (.agg (CL a).toArray) (.agg (CL b).toArray)).run P w = .ok (.bool (!(a == b))) w := by
  rw [run_neq_struct, run_equalIn_array w 9999 _ _ ht hi, hc, eqItems_row 9998 he a b w _ (fun i hi => by simp at hi; omega), pl_all_same a b n ha hb]
  rfl
theorem run_eql_row {t e : TypeId} {i : TypeInfo} (n : Nat) (ht : P.underlying t = some (.array n e)) (hi : P.info? e = some i) (hc : P.cellsOf e = 1) (he : P.underlying e = some (.int .u8)) (a b : List Int) (ha : a.length = n) (hb : b.length = n) (w : World) :
    (binOp .eql t (.agg (CL a).toArray) (.agg (CL b).toArray)).run P w = .ok (.bool (a == b)) w := by
  rw [run_eql_struct, run_equalIn_array w 9999 _ _ ht hi, hc, eqItems_row 9998 he a b w _ (fun i hi => by simp at hi; omega), pl_all_same a b n ha hb]
  rfl
end
end Go.Proofs.Ytgjkbnplpioloaa
