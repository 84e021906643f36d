/- Texts behind one another: PBZ BaseZ HDZ MPZ RWZ AZ LMZ BZ CZ. -/
import Derived.WalkKit
import Derived.Below
import Derived.Deep.Draws
import Derived.Laws.OwnMore
import Derived.Maps.AppendAt
import Derived.Lib.AppendStr
import Derived.Lib.AppendZeros
import Derived.Lib.Hide
import Derived.Deep.MidRow
import Derived.Deep.WholeRow
import Derived.ChangeKeysEq
import Derived.Laws.StructEq
import Derived.Laws.CopyOwn
import Derived.Deep.RegionHeld
import Derived.WalkLawsBesides
import Derived.WalkSpells
import Derived.Maps.RangeWalk
import Derived.DeepKeys4
import Derived.Test.YthbifccankfngaaGreatDoorRows
import Derived.BigQuiet
import Derived.Lib.LaidU8
import Derived.OpenShut
import Derived.LaidMore
import Derived.MakeChecks
import Derived.ChangeSame
import Derived.Deep.Cut
import Derived.Deep.CutRange
/-
  Laws of no program that the walks of this seat lean on: sectors as rows of cells; a slice that reads as a list of cells, in a block outside a set of blocks; a world in which only a set of blocks has turned; append onto a row of the call's pl_own; copy of elements of several cells; comparison of two rows of bytes.
  Conditions: none beyond those that each theorem names.
-/

namespace Go.Proofs.YthbifccankfngaaGreatDoor
open Go.RowKit

/-! ### Cells -/
abbrev Sect := Vector Int 64
def zsec : Sect := Vector.replicate 64 0
/-- Bytes as cells. -/
def CL (l : List Int) : List Value := l.map (.int .u8)
def sec (b : Sect) : List Value := CL b.toList
def secA (b : Sect) : Array Value := (sec b).toArray
def flat : List Sect → List Value
  | [] => []
  | b :: r => sec b ++ flat r
def BL (l : List Bool) : List Value := l.map .bool

theorem CL_length (l : List Int) : (CL l).length = l.length := by simp [CL]
theorem CL_get (l : List Int) (k : Nat) (h : k < l.length) : (CL l)[k]? = some (.int .u8 l[k]) := by simp [CL, h]
theorem CL_one (l : List Int) : ∀ u ∈ CL l, u.oneCell' = true := by
  intro u hu
  simp only [CL, List.mem_map] at hu
  obtain ⟨b, _, rfl⟩ := hu
  rfl
theorem CL_append (l m : List Int) : CL (l ++ m) = CL l ++ CL m := by simp [CL]
theorem CL_take (l : List Int) (k : Nat) : CL (l.take k) = (CL l).take k := by simp [CL]
theorem CL_drop (l : List Int) (k : Nat) : CL (l.drop k) = (CL l).drop k := by simp [CL]
theorem CL_zero (n : Nat) : CL (List.replicate n 0) = List.replicate n (.int .u8 0) := by simp [CL]
theorem sec_length (b : Sect) : (sec b).length = 64 := by rw [sec, CL_length, Vector.length_toList]
theorem secA_size (b : Sect) : (secA b).size = 64 := by rw [secA, List.size_toArray, sec_length]
theorem secA_toList (b : Sect) : (secA b).toList = sec b := rfl
theorem sec_get (b : Sect) (j : Nat) (h : j < 64) : (sec b)[j]? = some (.int .u8 b[j]) := by rw [sec, CL_get _ j (by rw [Vector.length_toList]; exact h)]; simp
theorem secA_get (b : Sect) (j : Nat) (h : j < 64) : (secA b)[j]? = some (.int .u8 b[j]) := by rw [secA, List.getElem?_toArray, sec_get b j h]
theorem sec_one (b : Sect) : ∀ u ∈ sec b, u.oneCell' = true := CL_one _
theorem secA_one (b : Sect) : (secA b).all (·.oneCell') = true := all_oneCell_toArray (sec_one b)
theorem sec_zero : sec zsec = List.replicate 64 (.int .u8 0) := by rw [sec, zsec, Vector.toList_replicate, CL_zero]
theorem flat_length : ∀ l : List Sect, (flat l).length = l.length * 64
  | [] => rfl
  | b :: r => by simp [flat, sec_length, flat_length r]; omega
theorem flat_append : ∀ l m : List Sect, flat (l ++ m) = flat l ++ flat m
  | [], _ => rfl
  | b :: r, m => by simp [flat, flat_append r m]
theorem flat_one : ∀ l : List Sect, ∀ u ∈ flat l, u.oneCell' = true
  | [], u, h => by simp [flat] at h
  | b :: r, u, h => by
    simp only [flat, List.mem_append] at h
    rcases h with h | h
    · exact sec_one b u h
    · exact flat_one r u h
theorem flat_single (b : Sect) : flat [b] = sec b := by simp [flat]
theorem flat_take : ∀ (l : List Sect) (k : Nat), (flat l).take (k * 64) = flat (l.take k)
  | [], k => by simp [flat]
  | b :: r, 0 => by simp [flat]
  | b :: r, k + 1 => by
    rw [List.take_succ_cons, flat, flat, List.take_append, sec_length, List.take_of_length_le (by rw [sec_length]; omega), show (k + 1) * 64 - 64 = k * 64 from by omega, flat_take r k]
theorem flat_drop : ∀ (l : List Sect) (k : Nat), (flat l).drop (k * 64) = flat (l.drop k)
  | [], k => by simp [flat]
  | b :: r, 0 => by simp
  | b :: r, k + 1 => by
    rw [List.drop_succ_cons, flat, List.drop_append, sec_length, List.drop_of_length_le (by rw [sec_length]; omega), show (k + 1) * 64 - 64 = k * 64 from by omega, flat_drop r k]
    rfl
theorem flat_zero (n : Nat) : flat (List.replicate n zsec) = List.replicate (n * 64) (.int .u8 0) := by
  induction n with
  | zero => rfl
  | succ n ih =>
    rw [List.replicate_succ, flat, ih, sec_zero, List.replicate_append_replicate]
    congr 1
    omega
theorem BL_length (l : List Bool) : (BL l).length = l.length := by simp [BL]
theorem BL_one (l : List Bool) : ∀ u ∈ BL l, u.oneCell' = true := by
  intro u hu
  simp only [BL, List.mem_map] at hu
  obtain ⟨b, _, rfl⟩ := hu
  rfl
theorem BL_get (l : List Bool) (k : Nat) (h : k < l.length) : (BL l)[k]? = some (.bool l[k]) := by simp [BL, h]
theorem BL_take (l : List Bool) (k : Nat) : BL (l.take k) = (BL l).take k := by simp [BL]

/-! ### Addresses -/
theorem pl_add_block (a : Addr) (n : Nat) : (a.add n).block = a.block := by
  unfold Addr.add; split <;> rfl
theorem add_plain (b o n : Nat) : (⟨b, o, none⟩ : Addr).add n = ⟨b, o + n, none⟩ := Addr.add_mid b o n

/-! ### Only the blocks of X have turned -/
structure Mod (X : Nat → Prop) (w w' : World) : Prop where
  os : w'.os = w.os
  tape : w'.tape = w.tape
  output : w'.output = w.output
  size : w.heap.size ≤ w'.heap.size
  block : ∀ k, k < w.heap.size → ¬ X k → w'.heap[k]? = w.heap[k]?

section
variable {X Y : Nat → Prop} {a w w' : World}
theorem Mod.refl (X : Nat → Prop) (w : World) : Mod X w w := ⟨rfl, rfl, rfl, Nat.le_refl _, fun _ _ _ => rfl⟩
theorem Mod.trans {b c : World} (h : Mod X a b) (k : Mod X b c) : Mod X a c :=
  ⟨k.os.trans h.os, k.tape.trans h.tape, k.output.trans h.output, Nat.le_trans h.size k.size, fun i hi hx => (k.block i (Nat.lt_of_lt_of_le hi h.size) hx).trans (h.block i hi hx)⟩
theorem Mod.mono (h : Mod X w w') (hXY : ∀ k, k < w.heap.size → X k → Y k) : Mod Y w w' :=
  ⟨h.os, h.tape, h.output, h.size, fun k hk hy => h.block k hk fun hx => hy (hXY k hk hx)⟩
theorem Mod.of_below (h : Below w.heap.size w w') (X : Nat → Prop) : Mod X w w' := ⟨h.os, h.tape, h.output, h.size, fun k hk _ => h.block k hk⟩
theorem Mod.below {B : Nat} {w0 : World} (hb : Below B w0 w) (h : Mod X w w') (hX : ∀ k, X k → B ≤ k) (hB : B ≤ w.heap.size) : Below B w0 w' :=
  hb.trans ⟨h.os, h.tape, h.output, h.size, fun k hk => h.block k (by omega) fun hx => by have := hX k hx; omega⟩
theorem Mod.alloc (h : Mod X a w) (o : Obj) : Mod X a (w.alloc o) :=
  ⟨h.os, h.tape, h.output, Nat.le_trans h.size (by simp), fun k hk hx => (Below.heap_alloc w o k (Nat.lt_of_lt_of_le hk h.size)).trans (h.block k hk hx)⟩
theorem Mod.setCell (h : Mod X a w) {p : Addr} (hp : X p.block ∨ a.heap.size ≤ p.block) (u : Value) : Mod X a (w.setCell p u) :=
  ⟨h.os, h.tape, h.output, by simpa [World.setCell] using h.size, fun k hk hx => (Below.heap_setCell w p u k (by
    rintro rfl
    rcases hp with hp | hp
    · exact hx hp
    · omega)).trans (h.block k hk hx)⟩
theorem Mod.drewN (h : Mod X a w) (n : Nat) : Mod X a (w.drewN n) := ⟨h.os, h.tape, h.output, h.size, h.block⟩
theorem Mod.drew (h : Mod X a w) : Mod X a w.drew := ⟨h.os, h.tape, h.output, h.size, h.block⟩
theorem Mod.grown {row : Option Nat} (h : Mod X a w) (hg : w.grownBy w' row) (hr : ∀ k, row = some k → X k ∨ a.heap.size ≤ k) : Mod X a w' :=
  ⟨hg.os.trans h.os, hg.tape.trans h.tape, hg.output.trans h.output, Nat.le_trans h.size hg.size, fun k hk hx => (hg.block k (Nat.lt_of_lt_of_le hk h.size) (fun e => by
    rcases hr k e.symm with hr | hr
    · exact hx hr
    · omega)).trans (h.block k hk hx)⟩
theorem Mod.setRow (h : Mod X a w) {g : Nat} (hp : X g ∨ a.heap.size ≤ g) (cs : Array Value) : Mod X a (w.setRow g cs) :=
  ⟨h.os, h.tape, h.output, by rw [size_setRow]; exact h.size, fun k hk hx => by
    rw [setRow_other w g k cs (by
      rintro rfl
      rcases hp with hp | hp
      · exact hx hp
      · omega)]
    exact h.block k hk hx⟩
theorem pl_setCells_heap (b : Nat) : ∀ (vs : List Value) (o : Nat) (w : World) (k : Nat), k ≠ b → (w.setCells b o vs).heap[k]? = w.heap[k]?
  | [], _, _, _, _ => rfl
  | v :: r, o, w, k, h => by
    rw [World.setCells, pl_setCells_heap b r (o + 1) _ k h, Below.heap_setCell _ _ _ _ h]
theorem pl_setCells_size (b : Nat) : ∀ (vs : List Value) (o : Nat) (w : World), (w.setCells b o vs).heap.size = w.heap.size
  | [], _, _ => rfl
  | v :: r, o, w => by rw [World.setCells, pl_setCells_size b r]; simp [World.setCell]
theorem pl_setCells_rest (b : Nat) : ∀ (vs : List Value) (o : Nat) (w : World), (w.setCells b o vs).os = w.os ∧ (w.setCells b o vs).tape = w.tape ∧ (w.setCells b o vs).output = w.output
  | [], _, _ => ⟨rfl, rfl, rfl⟩
  | v :: r, o, w => by rw [World.setCells]; exact pl_setCells_rest b r (o + 1) _
theorem Mod.setCells (h : Mod X a w) {b : Nat} (hp : X b ∨ a.heap.size ≤ b) (o : Nat) (vs : List Value) : Mod X a (w.setCells b o vs) := by
  obtain ⟨h1, h2, h3⟩ := pl_setCells_rest b vs o w
  refine ⟨h1.trans h.os, h2.trans h.tape, h3.trans h.output, by rw [pl_setCells_size]; exact h.size, fun k hk hx => ?_⟩
  rw [pl_setCells_heap b vs o w k (by
    rintro rfl
    rcases hp with hp | hp
    · exact hx hp
    · omega)]
  exact h.block k hk hx
end

/-! ### A slice that reads as a list of cells, in a block outside X -/
structure Lz (X : Nat → Prop) (w : World) (size : Nat) (A : Option Addr) (n : Nat) (xs : List Value) : Prop where
  len : xs.length = n * size
  spot : 0 < n → ∃ b o, A = some ⟨b, o, none⟩ ∧ ¬ X b ∧ b < w.heap.size ∧ w.rangeAt b o xs

section
variable {X Y : Nat → Prop} {w w' : World} {size n : Nat} {A : Option Addr} {xs : List Value}
theorem pl_rangeAt_block {b o : Nat} {cs : List Value} (h : w.rangeAt b o cs) (hb : w'.heap[b]? = w.heap[b]?) : w'.rangeAt b o cs := fun j v hv => by
  rw [World.cell?_of_block (w := w) (a := ⟨b, o + j, none⟩) hb]
  exact h j v hv
theorem Lz.empty : Lz X w size A 0 [] := ⟨by simp, fun h => absurd h (Nat.lt_irrefl 0)⟩
theorem Lz.kept (h : Lz X w size A n xs) (hm : Mod X w w') : Lz X w' size A n xs := by
  refine ⟨h.len, fun hn => ?_⟩
  obtain ⟨b, o, ha, hx, hb, hr⟩ := h.spot hn
  exact ⟨b, o, ha, hx, Nat.lt_of_lt_of_le hb hm.size, pl_rangeAt_block hr (hm.block b hb hx)⟩
theorem Lz.keptY (h : Lz X w size A n xs) (hm : Mod Y w w') (hY : ∀ k, k < w.heap.size → Y k → X k) : Lz X w' size A n xs := h.kept (hm.mono hY)
theorem Lz.mono (h : Lz X w size A n xs) (hY : ∀ k, k < w.heap.size → Y k → X k) : Lz Y w size A n xs := by
  refine ⟨h.len, fun hn => ?_⟩
  obtain ⟨b, o, ha, hx, hb, hr⟩ := h.spot hn
  exact ⟨b, o, ha, fun hy => hx (hY b hb hy), hb, hr⟩
theorem Lz.below (h : Lz X w size A n xs) (hm : Below w.heap.size w w') : Lz X w' size A n xs := h.kept (Mod.of_below hm X)
theorem Lz.alloc (h : Lz X w size A n xs) (o : Obj) : Lz X (w.alloc o) size A n xs := h.kept ((Mod.refl X w).alloc o)
theorem Lz.get {k : Nat} (h : Lz X w 1 A n xs) (hk : k < n) :
    ∃ b o u, A = some ⟨b, o, none⟩ ∧ ¬ X b ∧ b < w.heap.size ∧ xs[k]? = some u ∧ w.cell? ⟨b, o + k, none⟩ = some u := by
  obtain ⟨b, o, ha, hx, hb, hr⟩ := h.spot (by omega)
  have hl : k < xs.length := by have := h.len; omega
  exact ⟨b, o, xs[k], ha, hx, hb, List.getElem?_eq_getElem hl, hr k _ (List.getElem?_eq_getElem hl)⟩
theorem Lz.head (h : Lz X w size A n xs) {k : Nat} (hk : k ≤ n) : Lz X w size A k (xs.take (k * size)) := by
  refine ⟨by rw [List.length_take, h.len, Nat.min_eq_left (Nat.mul_le_mul_right _ hk)], fun hn => ?_⟩
  obtain ⟨b, o, ha, hx, hb, hr⟩ := h.spot (by omega)
  refine ⟨b, o, ha, hx, hb, fun j u hu => ?_⟩
  rw [List.getElem?_take] at hu
  split at hu
  · exact hr j u hu
  · cases hu
/-- x[k:..], whatever the model keeps as the address of an empty rest. -/
theorem Lz.tail (h : Lz X w size A n xs) {k : Nat} (hk : k ≤ n) (A' : Option Addr) (hA : k < n → A' = A.map (·.add (k * size))) :
    Lz X w size A' (n - k) (xs.drop (k * size)) := by
  refine ⟨by rw [List.length_drop, h.len, Nat.sub_mul], fun hn => ?_⟩
  obtain ⟨b, o, ha, hx, hb, hr⟩ := h.spot (by omega)
  refine ⟨b, o + k * size, by rw [hA (by omega), ha]; simp [add_plain], hx, hb, fun j u hu => ?_⟩
  rw [List.getElem?_drop] at hu
  rw [Nat.add_assoc]
  exact hr _ u hu
theorem Lz.of_own {base : Nat} {e : TypeId} {c : Nat} (h : w.ownsRow base e size (.slice A n c) n xs) (hX : ∀ k, X k → k < base) : Lz X w size A n xs := by
  refine ⟨h.1, fun hn => ?_⟩
  have hc := @World.ownsRow.cells w base e size (.slice A n c) n xs h
  rcases h.2 with ⟨_, h0⟩ | ⟨g, cap, cur, hv, hb, hg, _⟩
  · omega
  · injection hv with hA
    subst hA
    refine ⟨g, 0, rfl, fun hx => by have := hX g hx; omega, (Array.getElem?_eq_some_iff.1 hg).1, fun j u hu => ?_⟩
    have := hc rfl j u hu
    rwa [add_plain] at this
theorem Lz.nil_of_none (h : Lz X w size none n xs) : n = 0 ∧ xs = [] := by
  by_cases hn : n = 0
  · subst hn
    exact ⟨rfl, List.eq_nil_of_length_eq_zero (by rw [h.len]; simp)⟩
  · obtain ⟨b, o, ha, _⟩ := h.spot (by omega)
    cases ha
theorem pl_own_slice {base : Nat} {e : TypeId} {v : Value} (h : w.ownsRow base e size v n xs) :
    ∃ A c, v = .slice A n c ∧ n ≤ c ∧ c ≤ maxLen := by
  rcases h.2 with ⟨rfl, rfl⟩ | ⟨g, cap, cur, rfl, _, _, hc, hm, _⟩
  · exact ⟨none, 0, rfl, Nat.le_refl _, by simp [maxLen]⟩
  · exact ⟨_, cap, rfl, hc, hm⟩
theorem pl_own_under {B base : Nat} {e : TypeId} {v : Value} (h : w.ownsRow base e size v n xs) (hb : Below B w w') (hB : w.heap.size ≤ B) :
    w'.ownsRow base e size v n xs := by
  refine ⟨h.1, ?_⟩
  rcases h.2 with hn | ⟨g, cap, cur, hv, hbg, hg, rest⟩
  · exact .inl hn
  · have := (Array.getElem?_eq_some_iff.1 hg).1
    exact .inr ⟨g, cap, cur, hv, hbg, by rw [hb.block g (by omega)]; exact hg, rest⟩
theorem pl_own_base {base base' : Nat} {e : TypeId} {v : Value} (h : w.ownsRow base e size v n xs) (hb : base' ≤ base) :
    w.ownsRow base' e size v n xs := by
  refine ⟨h.1, ?_⟩
  rcases h.2 with hn | ⟨g, cap, cur, hv, hbg, rest⟩
  · exact .inl hn
  · exact .inr ⟨g, cap, cur, hv, by omega, rest⟩
end
theorem pl_below_own {B base : Nat} {a w w' : World} {e : TypeId} {size : Nat} {v : Value} {n : Nat} {xs : List Value} (h : Below B a w) (ho : w.ownsRow base e size v n xs) (hg : w.grownBy w' v.ownBlock)
    (hb : B ≤ base) (hB : B ≤ w.heap.size) : Below B a w' :=
  h.grown hg hB fun k hk => Nat.le_trans hb (ho.lt k hk).1

/-! ### append -/
section
variable {P : Program} (w : World)
theorem pl_wpList_app {ops : Array Oper} {rest : List Oper} {o : Oper} {a : Act} {Q : Exit → Act → World → Prop} (hgd : o.guard = none) (s x : Operand) (t : TypeId)
    (ho : o.op = .call { callee := .builtin .append, args := #[s, x], argTypes := #[t, t] })
    (base : Nat) (e : TypeId) (i : TypeInfo) (z : Value) (size bytes : Nat) (ht : P.underlying t = some (.slice e)) (hi : P.info? e = some i) (hz : i.zero = some z)
    (hsize : i.size = size) (hby : i.bytes = bytes) (hzs : z.cells.size = size) (hsz : 0 < size)
    (v : Value) (n : Nat) (xs : List Value) (hs : a.eval s = v) (hown : w.ownsRow base e size v n xs)
    (ad : Addr) (m c : Nat) (news : List Value) (hx : a.eval x = .slice (some ad) m c) (hl : news.length = m * size) (hr : ∀ j u, news[j]? = some u → w.cell? (ad.add j) = some u) (h1 : ∀ u ∈ news, u.oneCell' = true)
    (h63 : n + m ≤ maxLen) (hbytes : (n + m) * bytes ≤ 140737488355328) (hbase : base ≤ w.heap.size)
    (h : ∀ v' w', w'.ownsRow base e size v' (n + m) (xs ++ news) → w.grownBy w' v.ownBlock → wpList P ops Q rest (a.put o.dst v') w') : wpList P ops Q (o :: rest) a w := by
  obtain ⟨v', w', hrun, h2, h3, _⟩ := run_append_own_at (P := P) w base t o.type e i z size bytes ht hi hz hsize hby hzs hsz v n xs hown ad m c news hl hr h1 h63 hbytes hbase
  exact Lib.wpList_append_run w hgd s x t t ho v _ hs hx v' w' hrun (h v' w' h2 h3)
end
theorem Lz.cells {X : Nat → Prop} {w : World} {size n : Nat} {a : Addr} {xs : List Value} (h : Lz X w size (some a) n xs) : ∀ j u, xs[j]? = some u → w.cell? (a.add j) = some u := by
  intro j u hu
  by_cases hn : n = 0
  · subst hn
    have : xs = [] := List.eq_nil_of_length_eq_zero (by rw [h.len]; simp)
    subst this
    simp at hu
  · obtain ⟨b, o, ha, _, _, hr⟩ := h.spot (by omega)
    injection ha with ha
    subst ha
    rw [add_plain]
    exact hr j u hu

/-! ### copy, of elements of several cells -/
section
variable {P : Program}
theorem run_copy_many (w : World) (dT sT ty elem : TypeId) (size b o n dCap sCap : Nat) (a : Option Addr) (cs : List Value)
    (hu : P.underlying dT = some (.slice elem)) (hs : (P.info? elem).map (·.size) = some size) (hn : cs.length = n * size) (X : Nat → Prop)
    (hsrc : Lz X w size a n cs) (hth : w.there b o cs.length) (h1 : ∀ v ∈ cs, v.oneCell' = true) :
    (Builtin.copy_ #[dT, sT] ty #[.slice (some ⟨b, o, none⟩) n dCap, .slice a n sCap]).run P w = .ok (goInt n) (w.setCells b o cs) := by
  have hst := run_storeCells_cells (P := P) b o cs 0 w (by simpa using fun j hj => (hth j hj).1) (by simpa using fun j hj => (hth j hj).2) h1
  cases hq : P.info? elem with
  | none => simp [hq] at hs
  | some i =>
    have hi : i.size = size := by simpa [hq] using hs
    cases a with
    | none =>
      obtain ⟨rfl, rfl⟩ := hsrc.nil_of_none
      simp [Builtin.copy_, run_underlying hu, Builtin.lenOf, Builtin.firstCells, sizeOf, typeInfo, hq, storeCells, World.setCells]
    | some a =>
      have hl := run_loadCells_list (P := P) w a cs hsrc.cells
      rw [hn] at hl
      simp [Builtin.copy_, run_underlying hu, Builtin.lenOf, Builtin.firstCells, sizeOf, typeInfo, hq, hi, hl] at hst ⊢
      rw [hst]
      rfl
end

/-! ### Two rows of bytes compared -/
section
variable {P : Program}
theorem eqItems_row (d : Nat) {e : TypeId} (he : P.underlying e = some (.int .u8)) (a b : List Int) (w : World) : ∀ is : List Nat, (∀ i ∈ is, i < a.length ∧ i < b.length) →
    (Op.eqItems (d + 1) e 1 (CL a).toArray (CL b).toArray is).run P w = .ok (is.all fun i => a.getD i 0 == b.getD i 0) w
  | [], _ => by simp [Op.eqItems]
  | i :: is, h => by
    obtain ⟨hi1, hi2⟩ := h i (by simp)
    have hagg : (isAgg e).run P w = .ok false w := by
      unfold isAgg
      rw [Sem.run_bind, run_underlying he w]
      simp
    have p1 : ∀ x : List Int, i < x.length → (part e (CL x).toArray (i * 1)).run P w = .ok (.int .u8 (x.getD i 0)) w := fun x hx => by
      simp only [part, Sem.run_bind, hagg, Result.andThen_ok, Nat.mul_one, List.getElem?_toArray, CL_get x i hx]
      simp [List.getD, hx]
    simp only [Op.eqItems, Sem.run_bind, p1 a hi1, p1 b hi2, Result.andThen_ok, run_equalIn_int w d e .u8 .u8 _ _ he]
    have ih := eqItems_row d he a b w is (fun j hj => h j (by simp [hj]))
    rw [List.all_cons]
    cases hab : (a.getD i 0 == b.getD i 0) with
    | true => simpa using ih
    | false => simp
theorem pl_all_same (a b : List Int) (n : Nat) (ha : a.length = n) (hb : b.length = n) : ((List.range n).all fun i => a.getD i 0 == b.getD i 0) = (a == b) := by
  rw [Bool.eq_iff_iff, List.all_eq_true, beq_iff_eq]
  constructor
  · intro h
    apply List.ext_getElem (by omega)
    intro i h1 h2
    have := h i (by simp; omega)
    simpa [List.getD, h1, h2] using this
  · rintro rfl i _
    simp
theorem run_neq_row {t e : TypeId} {i : TypeInfo} (n : Nat) (ht : P.underlying t = some (.array n e)) (hi : P.info? e = some i) (hc : P.cellsOf e = 1) (he : P.underlying e = some (.int .u8)) (a b : List Int) (ha : a.length = n) (hb : b.length = n) (w : World) :
    (binOp .neq t (.agg (CL a).toArray) (.agg (CL b).toArray)).run P w = .ok (.bool (!(a == b))) w := by
  rw [run_neq_struct, run_equalIn_array w 9999 _ _ ht hi, hc, eqItems_row 9998 he a b w _ (fun i hi => by simp at hi; omega), pl_all_same a b n ha hb]
  rfl
theorem run_eql_row {t e : TypeId} {i : TypeInfo} (n : Nat) (ht : P.underlying t = some (.array n e)) (hi : P.info? e = some i) (hc : P.cellsOf e = 1) (he : P.underlying e = some (.int .u8)) (a b : List Int) (ha : a.length = n) (hb : b.length = n) (w : World) :
    (binOp .eql t (.agg (CL a).toArray) (.agg (CL b).toArray)).run P w = .ok (.bool (a == b)) w := by
  rw [run_eql_struct, run_equalIn_array w 9999 _ _ ht hi, hc, eqItems_row 9998 he a b w _ (fun i hi => by simp at hi; omega), pl_all_same a b n ha hb]
  rfl
end
end Go.Proofs.YthbifccankfngaaGreatDoor

/-
  Laws of no program that the walks of this seat lean on: a slice that reads as a list of values (nil let in), and append onto a row of the call's own from a slice, from a string and from so many zeros.
  Conditions: none beyond those that each theorem names.
-/

namespace Go.Proofs.YthbifccankfngaaGreatDoor
open Go.RowKit

theorem add_block (a : Addr) (n : Nat) : (a.add n).block = a.block := by
  unfold Addr.add; split <;> rfl
theorem add_add (a : Addr) (i j : Nat) : (a.add i).add j = a.add (i + j) := by
  unfold Addr.add
  by_cases hi : i = 0 <;> by_cases hj : j = 0 <;> simp [hi, hj, Nat.add_assoc]

/-- The slice value with address A and length n holds the cells xs, 'size' cells an element, in a block below B. -/
structure Lies (w : World) (B size : Nat) (A : Option Addr) (n : Nat) (xs : List Value) : Prop where
  len : xs.length = n * size
  spot : 0 < n → ∃ a, A = some a ∧ a.block < B ∧ ∀ j u, xs[j]? = some u → w.cell? (a.add j) = some u

section
variable {w w' : World} {B B' size n : Nat} {A : Option Addr} {xs : List Value}

theorem Lies.empty : Lies w B size A 0 [] := ⟨by simp, fun h => absurd h (Nat.lt_irrefl 0)⟩

theorem Lies.get {k : Nat} (h : Lies w B 1 A n xs) (hk : k < n) :
    ∃ a u, A = some a ∧ a.block < B ∧ xs[k]? = some u ∧ w.cell? (a.add k) = some u := by
  obtain ⟨a, ha, hb, hc⟩ := h.spot (by omega)
  have hl : k < xs.length := by have := h.len; omega
  exact ⟨a, xs[k], ha, hb, List.getElem?_eq_getElem hl, hc k _ (List.getElem?_eq_getElem hl)⟩

theorem Lies.of_cells (h : Lies w B size A n xs) (hc : ∀ p : Addr, p.block < B → w'.cell? p = w.cell? p) : Lies w' B size A n xs := by
  refine ⟨h.len, fun hn => ?_⟩
  obtain ⟨a, ha, hb, hx⟩ := h.spot hn
  refine ⟨a, ha, hb, fun j u hu => ?_⟩
  rw [hc _ (by rw [add_block]; exact hb)]
  exact hx j u hu

theorem Lies.up (h : Lies w B size A n xs) (hB : B ≤ B') : Lies w B' size A n xs := by
  refine ⟨h.len, fun hn => ?_⟩
  obtain ⟨a, ha, hb, hx⟩ := h.spot hn
  exact ⟨a, ha, Nat.lt_of_lt_of_le hb hB, hx⟩

theorem Lies.under (h : Lies w B size A n xs) (hb : Below B w w') : Lies w' B size A n xs :=
  h.of_cells fun _ hp => hb.cell hp

theorem Lies.alloc (h : Lies w B size A n xs) (hB : B ≤ w.heap.size) (o : Obj) : Lies (w.alloc o) B size A n xs :=
  h.under ((Below.refl B w).alloc hB o)

theorem Lies.setCell (h : Lies w B size A n xs) {p : Addr} (hp : B ≤ p.block) (u : Value) : Lies (w.setCell p u) B size A n xs :=
  h.under ((Below.refl B w).setCell hp u)

/-- x[k:], whatever the model keeps as the address of an empty rest. -/
theorem Lies.tail (h : Lies w B 1 A n xs) {k : Nat} (hk : k ≤ n) (A' : Option Addr) (hA : k < n → A' = A.map (·.add k)) :
    Lies w B 1 A' (n - k) (xs.drop k) := by
  refine ⟨by rw [List.length_drop, h.len]; omega, fun hn => ?_⟩
  obtain ⟨a, ha, hb, hx⟩ := h.spot (by omega)
  refine ⟨a.add k, by rw [hA (by omega), ha]; rfl, by rw [add_block]; exact hb, fun j u hu => ?_⟩
  rw [add_add]
  rw [List.getElem?_drop] at hu
  exact hx _ u hu

/-- x[:k]. -/
theorem Lies.head (h : Lies w B 1 A n xs) {k : Nat} (hk : k ≤ n) : Lies w B 1 A k (xs.take k) := by
  refine ⟨by rw [List.length_take, h.len]; omega, fun hn => ?_⟩
  obtain ⟨a, ha, hb, hx⟩ := h.spot (by omega)
  refine ⟨a, ha, hb, fun j u hu => ?_⟩
  rw [List.getElem?_take] at hu
  split at hu
  · exact hx j u hu
  · cases hu

theorem Lies.of_own {base : Nat} {e : TypeId} {c : Nat} (h : w.ownsRow base e size (.slice A n c) n xs) : Lies w w.heap.size size A n xs := by
  refine ⟨h.1, fun hn => ?_⟩
  have hc := @World.ownsRow.cells w base e size (.slice A n c) n xs h
  rcases h.2 with ⟨_, h0⟩ | ⟨g, cap, cur, hv, hb, hg, _⟩
  · omega
  · injection hv with hA
    subst hA
    exact ⟨⟨g, 0, none⟩, rfl, (Array.getElem?_eq_some_iff.1 hg).1, hc rfl⟩
end

/-- The one element of append(s, x), laid in a block of its own. -/
theorem lies_new (w : World) (u : Value) (t : TypeId) : Lies (w.alloc (.cells #[u] t)) (w.heap.size + 1) 1 (some ⟨w.heap.size, 0, none⟩) 1 [u] :=
  ⟨rfl, fun _ => ⟨_, rfl, Nat.lt_succ_self _, cell_one_new w u t⟩⟩

theorem own_new1 (w : World) (u : Value) (t : TypeId) : (w.alloc (.cells #[u] t)).ownsRow w.heap.size t 1 (.slice (some ⟨w.heap.size, 0, none⟩) 1 1) 1 [u] :=
  ⟨rfl, .inr ⟨w.heap.size, 1, #[u], rfl, Nat.le_refl _, heap_alloc_new w _, Nat.le_refl _, by simp [maxLen], rfl, rfl⟩⟩

theorem own_slice {w : World} {base : Nat} {e : TypeId} {size : Nat} {v : Value} {n : Nat} {xs : List Value} (h : w.ownsRow base e size v n xs) :
    ∃ A c, v = .slice A n c ∧ n ≤ c ∧ c ≤ maxLen := by
  rcases h.2 with ⟨rfl, rfl⟩ | ⟨g, cap, cur, rfl, _, _, hc, hm, _⟩
  · exact ⟨none, 0, rfl, Nat.le_refl _, by simp [maxLen]⟩
  · exact ⟨_, cap, rfl, hc, hm⟩

theorem own_under {w w' : World} {B base : Nat} {e : TypeId} {size : Nat} {v : Value} {n : Nat} {xs : List Value} (h : w.ownsRow base e size v n xs) (hb : Below B w w') (hB : w.heap.size ≤ B) :
    w'.ownsRow base e size v n xs := by
  refine ⟨h.1, ?_⟩
  rcases h.2 with hn | ⟨g, cap, cur, hv, hbg, hg, rest⟩
  · exact .inl hn
  · have := (Array.getElem?_eq_some_iff.1 hg).1
    exact .inr ⟨g, cap, cur, hv, hbg, by rw [hb.block g (by omega)]; exact hg, rest⟩

theorem own_base {w : World} {base base' : Nat} {e : TypeId} {size : Nat} {v : Value} {n : Nat} {xs : List Value} (h : w.ownsRow base e size v n xs) (hb : base' ≤ base) :
    w.ownsRow base' e size v n xs := by
  refine ⟨h.1, ?_⟩
  rcases h.2 with hn | ⟨g, cap, cur, hv, hbg, rest⟩
  · exact .inl hn
  · exact .inr ⟨g, cap, cur, hv, by omega, rest⟩

theorem own_len {w : World} {base : Nat} {e : TypeId} {size : Nat} {v : Value} {n : Nat} {xs ys : List Value} (h : w.ownsRow base e size v n xs) (e1 : xs = ys) :
    w.ownsRow base e size v n ys := by subst e1; exact h

/-- Behind an append onto a row of the call's own nothing below has turned. -/
theorem below_own {B base : Nat} {a w w' : World} {e : TypeId} {size : Nat} {v : Value} {n : Nat} {xs : List Value} (h : Below B a w) (ho : w.ownsRow base e size v n xs) (hg : w.grownBy w' v.ownBlock)
    (hb : B ≤ base) (hB : B ≤ w.heap.size) : Below B a w' :=
  h.grown hg hB fun k hk => Nat.le_trans hb (ho.lt k hk).1

section
variable {P : Program} (w : World)

/-- append(v, x...), x a slice, nil or not. -/
theorem run_append_lies' (base : Nat) (t ty e : TypeId) (i : TypeInfo) (z : Value) (size bytes : Nat) (ht : P.underlying t = some (.slice e)) (hi : P.info? e = some i) (hz : i.zero = some z)
    (hsize : i.size = size) (hby : i.bytes = bytes) (hzs : z.cells.size = size) (hsz : 0 < size)
    (v : Value) (n : Nat) (xs : List Value) (hown : w.ownsRow base e size v n xs)
    (B : Nat) (A : Option Addr) (m c : Nat) (news : List Value) (hr : Lies w B size A m news) (h1 : ∀ u ∈ news, u.oneCell' = true)
    (h63 : n + m ≤ maxLen) (hbytes : (n + m) * bytes ≤ 140737488355328) (hbase : base ≤ w.heap.size) :
    ∃ v' w', (Builtin.append_ #[t, t] ty #[v, .slice A m c]).run P w = .ok v' w' ∧ w'.ownsRow base e size v' (n + m) (xs ++ news) ∧ w.grownBy w' v.ownBlock := by
  cases A with
  | some a =>
    have hcells : ∀ j u, news[j]? = some u → w.cell? (a.add j) = some u := by
      intro j u hu
      by_cases hm : m = 0
      · have : news = [] := List.eq_nil_of_length_eq_zero (by rw [hr.len, hm]; simp)
        subst this
        simp at hu
      · obtain ⟨a', ha, _, hx⟩ := hr.spot (by omega)
        cases ha
        exact hx j u hu
    obtain ⟨v', w', h2, h3, h4, _⟩ := run_append_own_at (P := P) w base t ty e i z size bytes ht hi hz hsize hby hzs hsz v n xs hown a m c news hr.len hcells h1 h63 hbytes hbase
    exact ⟨v', w', h2, h3, h4⟩
  | none =>
    have hm : m = 0 := by
      by_cases hm : m = 0
      · exact hm
      · obtain ⟨a', ha, _⟩ := hr.spot (by omega)
        cases ha
    subst hm
    have : news = [] := List.eq_nil_of_length_eq_zero (by rw [hr.len]; simp)
    subst this
    refine ⟨v, w, ?_, by simpa using hown, ⟨rfl, rfl, rfl, Nat.le_refl _, fun _ _ _ => rfl⟩⟩
    rcases hown.2 with ⟨rfl, rfl⟩ | ⟨g, cap, cur, rfl, _, _, hnc, _⟩
    · simp [Builtin.append_, run_underlying ht, sizeOf, typeInfo, hi, Builtin.lenOf, Builtin.firstCells]
    · simp [Builtin.append_, run_underlying ht, sizeOf, typeInfo, hi, Builtin.lenOf, Builtin.firstCells, hnc, storeCells]

theorem wpList_app {ops : Array Oper} {rest : List Oper} {o : Oper} {a : Act} {Q : Exit → Act → World → Prop} (hgd : o.guard = none) (s x : Operand) (t : TypeId)
    (ho : o.op = .call { callee := .builtin .append, args := #[s, x], argTypes := #[t, t] })
    (base : Nat) (e : TypeId) (i : TypeInfo) (z : Value) (size bytes : Nat) (ht : P.underlying t = some (.slice e)) (hi : P.info? e = some i) (hz : i.zero = some z)
    (hsize : i.size = size) (hby : i.bytes = bytes) (hzs : z.cells.size = size) (hsz : 0 < size)
    (v : Value) (n : Nat) (xs : List Value) (hs : a.eval s = v) (hown : w.ownsRow base e size v n xs)
    (B : Nat) (A : Option Addr) (m c : Nat) (news : List Value) (hx : a.eval x = .slice A m c) (hr : Lies w B size A m news) (h1 : ∀ u ∈ news, u.oneCell' = true)
    (h63 : n + m ≤ maxLen) (hbytes : (n + m) * bytes ≤ 140737488355328) (hbase : base ≤ w.heap.size)
    (h : ∀ v' w', w'.ownsRow base e size v' (n + m) (xs ++ news) → w.grownBy w' v.ownBlock → wpList P ops Q rest (a.put o.dst v') w') : wpList P ops Q (o :: rest) a w := by
  obtain ⟨v', w', hrun, h2, h3⟩ := run_append_lies' (P := P) w base t o.type e i z size bytes ht hi hz hsize hby hzs hsz v n xs hown B A m c news hr h1 h63 hbytes hbase
  exact Lib.wpList_append_run w hgd s x t t ho v _ hs hx v' w' hrun (h v' w' h2 h3)

/-- append(v, make([]T, m)...): so many zeros. -/
theorem run_append_zeros (base : Nat) (t tn ty e : TypeId) (i : TypeInfo) (z : Value) (k kn : IntKind) (ht : P.underlying t = some (.slice e)) (htn : P.underlying tn = some (.int kn)) (hi : P.info? e = some i) (hz : i.zero = some z)
    (hz1 : z.cells = #[z]) (hone : z.oneCell' = true) (hsize : i.size = 1) (hby : i.bytes = 1)
    (v : Value) (n : Nat) (xs : List Value) (hown : w.ownsRow base e 1 v n xs) (m : Nat)
    (h63 : n + m ≤ maxLen) (hbytes : n + m ≤ 140737488355328) (hbase : base ≤ w.heap.size) :
    ∃ v' w', (Builtin.append_ #[t, tn] ty #[v, .int k m]).run P w = .ok v' w' ∧ w'.ownsRow base e 1 v' (n + m) (xs ++ List.replicate m z) ∧ w.grownBy w' v.ownBlock := by
  have hsmall : n + m ≤ 9223372036854775807 := by simp only [maxLen] at h63; omega
  have hw : IntKind.i64.wrap (m : Int) = m := by rw [IntKind.wrap_i64]; omega
  have hneg : ¬ ((m : Int) < 0) := by omega
  have h48i : ¬ (281474976710656 < (m : Int)) := by omega
  have hxl : xs.length = n := by simpa using hown.1
  have hlen : (xs ++ List.replicate m z).length = (n + m) * 1 := by simp [hxl]
  have hzc : (Builtin.zeroCells z.cells m).toList = List.replicate m z := by
    apply List.ext_getElem
    · simp [Builtin.zeroCells, hz1]
    · intro j h1 h2
      simp [Builtin.zeroCells, hz1, Nat.mod_one]
  have hza : Builtin.zeroCells z.cells m = (List.replicate m z).toArray := by
    apply Array.ext'; simp [hzc]
  have grown : ∀ (old : Nat), old < n + m → ∀ (row : Option Nat),
      (w.drew.alloc (.cells (xs.toArray ++ (List.replicate m z).toArray ++ Builtin.zeroCells z.cells (grownCap w (n + m) old e - (n + m))) e)).ownsRow base e 1
        (.slice (some ⟨w.heap.size, 0, none⟩) (n + m) (grownCap w (n + m) old e)) (n + m) (xs ++ List.replicate m z) ∧
      w.grownBy (w.drew.alloc (.cells (xs.toArray ++ (List.replicate m z).toArray ++ Builtin.zeroCells z.cells (grownCap w (n + m) old e - (n + m))) e)) row := by
    intro old ho row
    have hge := grownCap_ge w (n + m) old e
    have hcm : grownCap w (n + m) old e ≤ maxLen := grownCap_le_maxLen w (n + m) old e h63
    refine ⟨⟨hlen, .inr ⟨w.heap.size, _, _, rfl, hbase, heap_alloc_new w.drew _, hge, hcm, ?_, ?_⟩⟩, ⟨rfl, rfl, rfl, by simp, fun q hq _ => Below.heap_alloc w.drew _ q hq⟩⟩
    · simp only [Array.size_append, List.size_toArray, size_zeroCells, hxl, List.length_replicate, hz1]
      simp
      omega
    · simp only [Array.toList_append, List.append_assoc]
      rw [← List.append_assoc, ← hlen]
      exact List.take_left
  rcases hown.2 with ⟨rfl, rfl⟩ | ⟨g, cap, cur, rfl, hbg, hg, hnc, hcm, hcs, htake⟩
  · have hx : xs = [] := List.eq_nil_of_length_eq_zero hxl
    subst hx
    by_cases hm : m = 0
    · subst hm
      refine ⟨.slice none 0 0, w, ?_, by simpa using World.ownsRow_nil w base e 1, ⟨rfl, rfl, rfl, Nat.le_refl _, fun _ _ _ => rfl⟩⟩
      have hw0 : IntKind.i64.wrap (0 : Int) = 0 := by simpa using hw
      simp [Builtin.append_, run_underlying ht, run_underlying htn, sizeOf, typeInfo, hi, asInt, asIntOf, hw0]
    · have hr := Lib.run_append_nil_zeros (P := P) w t tn ty e i z k kn ht htn hi hz m (by omega) (by omega) (by omega) (by rw [hby]; omega)
      have hgr := grown 0 (by omega) (Value.ownBlock (.slice none 0 0))
      simp only [Nat.zero_add, List.nil_append, Array.empty_append] at hgr ⊢
      rw [hza] at hr
      exact ⟨_, _, hr, hgr.1, hgr.2⟩
  · have hcs' : cur.size = cap := by simpa using hcs
    have ht' : cur.toList.take n = xs := by simpa using htake
    by_cases hroom : n + m ≤ cap
    · have hst := run_storeCells_at P g n e (List.replicate m z) 0 cur w hg (by simp; omega) (by intro u hu; rw [List.eq_of_mem_replicate hu]; exact hone)
      simp only [Nat.add_zero, List.length_replicate] at hst
      by_cases hm : m = 0
      · subst hm
        refine ⟨.slice (some ⟨g, 0, none⟩) n cap, w, ?_, by simpa using hown, ⟨rfl, rfl, rfl, Nat.le_refl _, fun _ _ _ => rfl⟩⟩
        have hw0 : IntKind.i64.wrap (0 : Int) = 0 := by simpa using hw
        simp [Builtin.append_, run_underlying ht, run_underlying htn, sizeOf, typeInfo, hi, asInt, asIntOf, hw0, hnc, storeCells]
      · refine ⟨.slice (some ⟨g, 0, none⟩) (n + m) cap, w.setRow g (cur.toList.take n ++ List.replicate m z ++ cur.toList.drop (n + m)).toArray, ?_, ⟨hlen, .inr ⟨g, cap, _, rfl, hbg, setRow_heap w g cur _ e _ hg, hroom, hcm, ?_, ?_⟩⟩,
          ⟨rfl, rfl, rfl, by simp, fun q _ hq => setRow_other w g q _ (fun e => hq (by simp [Value.ownBlock, e]))⟩⟩
        · simp [Builtin.append_, run_underlying ht, run_underlying htn, sizeOf, typeInfo, zeroValue, hi, hz, hsize, hby, asInt, asIntOf, hw, hneg, h48i, hm, hroom, hza, Addr.add_lit, hst]
        · simp only [List.size_toArray, List.length_append, List.length_take, List.length_drop, Array.length_toList, List.length_replicate]
          omega
        · rw [ht', ← hlen]
          exact List.take_left
    · have holds : ∀ j u, xs[j]? = some u → w.cell? ((⟨g, 0, none⟩ : Addr).add j) = some u := hown.cells (g := g) rfl
      have hfo := run_firstCells_some (P := P) w.drew 1 n ⟨g, 0, none⟩ n cap xs (by simpa using hxl) (by simpa using holds)
      have hfit : ¬ (281474976710656 < Builtin.nextslicecap (n + m) cap * 1) := by
        have := @growslice_fits (n + m) cap 1 (by omega) (by omega)
        omega
      have h63' : ¬ (9223372036854775807 < ((n : Int) + (m : Int))) := by omega
      have hm : m ≠ 0 := by omega
      have hgr := grown cap (by omega) (Value.ownBlock (.slice (some ⟨g, 0, none⟩) n cap))
      refine ⟨_, _, ?_, hgr.1, hgr.2⟩
      have hfit' : ¬ (281474976710656 < Builtin.nextslicecap (n + m) cap) := by simpa using hfit
      simp [Builtin.append_, run_underlying ht, run_underlying htn, sizeOf, typeInfo, zeroValue, hi, hz, hsize, hby, asInt, asIntOf, hw, hneg, h48i, hm, hroom, hza, h63', hfit', Question.forced, hfo, newRow, grownCap]

theorem wpList_app_zeros {ops : Array Oper} {rest : List Oper} {o : Oper} {a : Act} {Q : Exit → Act → World → Prop} (hgd : o.guard = none) (s x : Operand) (t tn : TypeId)
    (ho : o.op = .call { callee := .builtin .append, args := #[s, x], argTypes := #[t, tn] })
    (base : Nat) (e : TypeId) (i : TypeInfo) (z : Value) (k kn : IntKind) (ht : P.underlying t = some (.slice e)) (htn : P.underlying tn = some (.int kn)) (hi : P.info? e = some i) (hz : i.zero = some z)
    (hz1 : z.cells = #[z]) (hone : z.oneCell' = true) (hsize : i.size = 1) (hby : i.bytes = 1)
    (v : Value) (n : Nat) (xs : List Value) (hs : a.eval s = v) (hown : w.ownsRow base e 1 v n xs) (y : Int) (m : Nat) (hx : a.eval x = .int k y) (hm : y = (m : Int))
    (h63 : n + m ≤ maxLen) (hbytes : n + m ≤ 140737488355328) (hbase : base ≤ w.heap.size)
    (h : ∀ v' w', w'.ownsRow base e 1 v' (n + m) (xs ++ List.replicate m z) → w.grownBy w' v.ownBlock → wpList P ops Q rest (a.put o.dst v') w') : wpList P ops Q (o :: rest) a w := by
  subst hm
  obtain ⟨v', w', hrun, h2, h3⟩ := run_append_zeros (P := P) w base t tn o.type e i z k kn ht htn hi hz hz1 hone hsize hby v n xs hown m h63 hbytes hbase
  exact Lib.wpList_append_run w hgd s x t tn ho v _ hs hx v' w' hrun (h v' w' h2 h3)
end
end Go.Proofs.YthbifccankfngaaGreatDoor

/-
  Laws of no program: the steps of a region that draws its order, and the slices x[k:], x[:k].
  Conditions: none beyond those that each theorem names.
-/

namespace Go.Proofs.YthbifccankfngaaGreatDoor
open Go.RowKit
set_option maxRecDepth 8000

section
variable {P : Program} {ops : Array Oper} {Q : Exit → Act → World → Prop} {md : Region.Mode} {S : World → Prop}
/-- An operation that is carried out, taken first: its slot written out. -/
theorem takeH {i d : Nat} {oi : Oper} {v : Value} {fuel : Nat} {listed : Array Bool} {ts : Array Value} {ds : List Deferred} {w : World} (hi : ops[i]? = some oi)
    (hs : Region.noSelect ops = true) (hf : Region.free md ops listed i = true) (hr : (Region.ready md ops listed).contains i = true)
    (hQ : ∀ c a w, Q (.panic c) (a.put oi.dst v) w → Q (.panic c) a w) (hd : oi.dst = some d) (hw : Region.wanted oi (yielded ops ts) = true)
    (hy : ∀ w, S w → (execOp (Act.eval ⟨ts, ds⟩) oi).run P w = .ok (.value v) w) (hS : S w)
    (h : wpAnyH P md ops Q S fuel (listed.setIfInBounds i true) ⟨ts.setIfInBounds d v, ds⟩ w) : wpAnyH P md ops Q S (fuel + 1) listed ⟨ts, ds⟩ w := by
  refine wpAnyH_take hi hs hf hr hQ (Or.inl ⟨hw, hy⟩) hS ?_
  rw [hd]
  exact h
/-- An operation whose guard says no. -/
theorem skipH {i d : Nat} {oi : Oper} {fuel : Nat} {listed : Array Bool} {ts : Array Value} {ds : List Deferred} {w : World} (hi : ops[i]? = some oi)
    (hs : Region.noSelect ops = true) (hf : Region.free md ops listed i = true) (hr : (Region.ready md ops listed).contains i = true)
    (hQ : ∀ c a w, Q (.panic c) (a.put oi.dst undef) w → Q (.panic c) a w) (hd : oi.dst = some d) (hw : Region.wanted oi (yielded ops ts) = false) (hS : S w)
    (h : wpAnyH P md ops Q S fuel (listed.setIfInBounds i true) ⟨ts.setIfInBounds d undef, ds⟩ w) : wpAnyH P md ops Q S (fuel + 1) listed ⟨ts, ds⟩ w := by
  refine wpAnyH_take hi hs hf hr hQ (Or.inr ⟨hw, rfl⟩) hS ?_
  rw [hd]
  exact h
end

section
variable {P : Program} {ops : Array Oper} {Q : Exit → Act → World → Prop} {md : Region.Mode} {S : World → Prop}
/-- The same, what is asked paid at once. -/
theorem tk {d : Nat} {oi : Oper} {v : Value} {fuel : Nat} {listed : Array Bool} {ts ts' : Array Value} {ds : List Deferred} {w : World} (i : Nat) (hS : S w)
    (h : wpAnyH P md ops Q S fuel (listed.setIfInBounds i true) ⟨ts', ds⟩ w)
    (hi : ops[i]? = some oi := by exact rfl) (hs : Region.noSelect ops = true := by kernel_rfl) (hf : Region.free md ops listed i = true := by kernel_rfl) (hr : (Region.ready md ops listed).contains i = true := by kernel_rfl)
    (hQ : ∀ c a w, Q (.panic c) (a.put oi.dst v) w → Q (.panic c) a w := by exact fun _ _ _ h => h) (hd : oi.dst = some d := by exact rfl) (hw : Region.wanted oi (yielded ops ts) = true := by rfl)
    (hy : ∀ w, S w → (execOp (Act.eval ⟨ts, ds⟩) oi).run P w = .ok (.value v) w := by intro wz hz; go_simp <;> with_reducible rfl)
    (ht : ts.setIfInBounds d v = ts' := by simp only [List.setIfInBounds_toArray, List.set_cons_zero, List.set_cons_succ] <;> rfl) : wpAnyH P md ops Q S (fuel + 1) listed ⟨ts, ds⟩ w :=
  takeH hi hs hf hr hQ hd hw hy hS (ht ▸ h)
theorem sk {d : Nat} {oi : Oper} {fuel : Nat} {listed : Array Bool} {ts ts' : Array Value} {ds : List Deferred} {w : World} (i : Nat) (hS : S w)
    (h : wpAnyH P md ops Q S fuel (listed.setIfInBounds i true) ⟨ts', ds⟩ w)
    (hi : ops[i]? = some oi := by exact rfl) (hs : Region.noSelect ops = true := by kernel_rfl) (hf : Region.free md ops listed i = true := by kernel_rfl) (hr : (Region.ready md ops listed).contains i = true := by kernel_rfl)
    (hQ : ∀ c a w, Q (.panic c) (a.put oi.dst undef) w → Q (.panic c) a w := by exact fun _ _ _ h => h) (hd : oi.dst = some d := by exact rfl) (hw : Region.wanted oi (yielded ops ts) = false := by rfl)
    (ht : ts.setIfInBounds d undef = ts' := by simp only [List.setIfInBounds_toArray, List.set_cons_zero, List.set_cons_succ] <;> rfl) : wpAnyH P md ops Q S (fuel + 1) listed ⟨ts, ds⟩ w :=
  skipH hi hs hf hr hQ hd hw hS (ht ▸ h)
end

/-- The address that the model keeps of x[k:]. -/
def tailA (A : Option Addr) (c k : Nat) : Option Addr := if c = k then A else A.map (·.add k)
theorem Lies.tailA {w : World} {B n c k : Nat} {A : Option Addr} {xs : List Value} (h : Lies w B 1 A n xs) (hk : k ≤ n) (hc : n ≤ c) : Lies w B 1 (tailA A c k) (n - k) (xs.drop k) :=
  h.tail hk _ fun hlt => by unfold YthbifccankfngaaGreatDoor.tailA; rw [if_neg (by omega)]

theorem run_tail {P : Program} (t e : TypeId) (ht : P.underlying t = some (.slice e)) (hi : (P.info? e).map (·.size) = some 1) (A : Option Addr) (n c k : Nat) (hk : k ≤ n) (w : World) :
    (Instr.slice t (.slice A n c) (some (.int .i64 (k : Int))) none none).run P w = .ok (.slice (tailA A c k) (n - k) (c - k)) w := by
  cases hq : P.info? e with
  | none => simp [hq] at hi
  | some i =>
    have hs : i.size = 1 := by simpa [hq] using hi
    have h0 : (0 : Int) ≤ k := by omega
    have h1 : (k : Int) ≤ n := by omega
    simp [Instr.slice, Instr.sliceBounds, Instr.sliceBound, asIntOf, run_underlying ht, sizeOf, typeInfo, hq, hs, hk, tailA]
theorem run_head {P : Program} (t e : TypeId) (ht : P.underlying t = some (.slice e)) (hi : (P.info? e).map (·.size) = some 1) (A : Option Addr) (n c k : Nat) (hk : k ≤ c) (w : World) :
    (Instr.slice t (.slice A n c) none (some (.int .i64 (k : Int))) none).run P w = .ok (.slice A k c) w := by
  cases hq : P.info? e with
  | none => simp [hq] at hi
  | some i =>
    have hz : ∀ a : Addr, a.add 0 = a := fun a => by simp [Addr.add]
    simp [Instr.slice, Instr.sliceBounds, Instr.sliceBound, asIntOf, run_underlying ht, sizeOf, typeInfo, hq, hk, hz]
end Go.Proofs.YthbifccankfngaaGreatDoor

/-
  A map in memory by its keys: what a look-up, a store and a delete make of it.
  Conditions: none beyond those that each theorem names.
-/

namespace Go.Proofs.YthbifccankfngaaGreatDoor
open Go.RowKit Go.MapKept
open Go.ChangeMaps (setBlock heap_setBlock_same heap_setBlock_other)
open Go.Maps (Keyed)

/-- A key's type, and the plain keys that it is read by. -/
structure KeyT (P : Program) (k : TypeId) {α : Type} (key : α → Value) (ok : α → Prop) : Prop where
  K : Keyed P k
  inj : ∀ a b, key a = key b → a = b
  lit : ∀ a, ok a → ∃ l, keyOf P k (key a) = some l
/-- What the entries give, each by its place. -/
structure Ents {α : Type} (key : α → Value) (ok : α → Prop) (es : Array MapEntry) (f : α → Option Value) : Prop where
  back : ∀ (i : Nat) e, es[i]? = some e → ∃ a, ok a ∧ e.key = key a ∧ f a = some e.val
  there : ∀ a v, f a = some v → ∃ (i : Nat) (e : MapEntry), es[i]? = some e ∧ e.key = key a
  once : ∀ (i j : Nat) (x y : MapEntry), es[i]? = some x → es[j]? = some y → x.key = y.key → i = j
/-- Block b holds a map that gives f. -/
def MapAt {α : Type} (key : α → Value) (ok : α → Prop) (w : World) (b : Nat) (f : α → Option Value) : Prop :=
  ∃ (es : Array MapEntry) (clock : Nat), w.heap[b]? = some (.map es clock) ∧ Stamped es clock ∧ Ents key ok es f
def updF {α β : Type} [DecidableEq α] (f : α → Option β) (a : α) (b : Option β) : α → Option β := fun x => if x = a then b else f x
def lookV (z : Value) : Option Value → Bool → Value
  | some v, c => if c then .tuple #[v, .bool true] else v
  | none, c => if c then .tuple #[z, .bool false] else z
section
variable {P : Program} {k t e : TypeId} {α : Type} {key : α → Value} {ok : α → Prop} {w w' : World} {b : Nat} {f : α → Option Value}
theorem MapAt.lt (h : MapAt key ok w b f) : b < w.heap.size := by
  obtain ⟨es, clock, hb, _⟩ := h
  exact (Array.getElem?_eq_some_iff.1 hb).1
theorem MapAt.move (h : MapAt key ok w b f) (hb : w'.heap[b]? = w.heap[b]?) : MapAt key ok w' b f := by
  obtain ⟨es, clock, h1, h2⟩ := h
  exact ⟨es, clock, hb.trans h1, h2⟩
theorem MapAt.kept {row : Option Nat} (h : MapAt key ok w b f) (hg : w.grownBy w' row) (hne : some b ≠ row) : MapAt key ok w' b f := h.move (hg.block b h.lt hne)
theorem MapAt.made (w : World) : MapAt key ok (w.alloc (.map #[] 0)) w.heap.size fun _ => none :=
  ⟨#[], 0, heap_alloc_new w _, stamped_empty 0, ⟨fun i e h => (by simp at h), fun a v h => (by cases h), fun i j x y h => (by simp at h)⟩⟩
theorem MapAt.ext {g : α → Option Value} (h : MapAt key ok w b f) (hg : ∀ a, f a = g a) : MapAt key ok w b g := by rwa [← funext hg]
theorem mem_at {es : Array MapEntry} {x : MapEntry} (hx : x ∈ es.toList) : ∃ i : Nat, es[i]? = some x := by
  obtain ⟨i, hi, rfl⟩ := List.getElem_of_mem hx
  exact ⟨i, by simp at hi; simp [hi]⟩
/-- A key is found where it is, and nowhere else. -/
theorem Ents.find (T : KeyT P k key ok) {es : Array MapEntry} (h : Ents key ok es f) (w : World) {a : α} (ha : ok a) :
    ((Instr.findKey k (key a) es.toList).run P w = .ok none w ∧ f a = none ∧ ∀ (i : Nat) e, es[i]? = some e → e.key ≠ key a) ∨
    ∃ j e0, (Instr.findKey k (key a) es.toList).run P w = .ok (some (j, e0.val)) w ∧ es[j]? = some e0 ∧ e0.key = key a ∧ f a = some e0.val := by
  obtain ⟨l, hl⟩ := T.lit a ha
  have hkeys : ∀ e ∈ es.toList, ∃ l, keyOf P k e.key = some l := fun x hx => by
    obtain ⟨i, hi⟩ := mem_at hx
    obtain ⟨a', h1, h2, _⟩ := h.back i x hi
    rw [h2]
    exact T.lit a' h1
  rcases T.K.find w hl es.toList hkeys with ⟨r1, r2⟩ | ⟨j, e0, r1, r2, r3⟩
  · refine .inl ⟨r1, ?_, fun i e hi => r2 e (by simpa using Array.mem_of_getElem? hi)⟩
    cases hf : f a with
    | none => rfl
    | some v =>
      obtain ⟨i, e, hi, hk⟩ := h.there a v hf
      exact absurd hk (r2 e (by simpa using Array.mem_of_getElem? hi))
  · have hj : es[j]? = some e0 := by simpa using r2
    obtain ⟨a', _, h2, h3⟩ := h.back j e0 hj
    have : a' = a := T.inj _ _ (by rw [← h2, r3])
    rw [this] at h3
    exact .inr ⟨j, e0, r1, hj, r3, h3⟩
theorem MapAt.look (T : KeyT P k key ok) (ht : P.underlying t = some (.map k e)) {z : Value} (hz : (zeroValue e).run P w = .ok z w) (h : MapAt key ok w b f) (c : Bool) {a : α} (ha : ok a) :
    (Instr.lookup t (.map (some b)) (key a) c).run P w = .ok (lookV z (f a) c) w := by
  obtain ⟨es, clock, hb, _, h1⟩ := h
  obtain ⟨l, hl⟩ := T.lit a ha
  rcases h1.find T w ha with ⟨r1, r2, _⟩ | ⟨j, e0, r1, _, _, r2⟩
  · rw [r2]
    cases c <;> simp [Instr.lookup, run_underlying ht, MapKept.run_getObj_map hb, T.K.check w _ hl, r1, hz, Result.andThen, lookV]
  · rw [r2]
    cases c <;> simp [Instr.lookup, run_underlying ht, MapKept.run_getObj_map hb, T.K.check w _ hl, r1, Result.andThen, lookV]
theorem set_grown (w : World) {b : Nat} {es : Array MapEntry} {clock : Nat} (hb : w.heap[b]? = some (.map es clock)) (o : Obj) : w.grownBy (setBlock w b o) (some b) :=
  ⟨rfl, rfl, rfl, Nat.le_of_eq (by simp [setBlock]), fun i _ hi => heap_setBlock_other hb _ fun e => hi (congrArg some e)⟩
variable [DecidableEq α]
theorem Ents.push {es : Array MapEntry} (h : Ents key ok es f) {a : α} (ha : ok a) (hn : ∀ (i : Nat) e, es[i]? = some e → e.key ≠ key a) (v : Value) (n : Nat) : Ents key ok (es.push ⟨key a, v, n⟩) (updF f a (some v)) := by
  have at_ : ∀ (i : Nat) x, (es.push ⟨key a, v, n⟩)[i]? = some x → es[i]? = some x ∨ (i = es.size ∧ x = ⟨key a, v, n⟩) := fun i x hx => by
    rw [Array.getElem?_push] at hx
    split at hx
    · next e => exact .inr ⟨e, (Option.some.inj hx).symm⟩
    · exact .inl hx
  have on : ∀ (i : Nat) x, es[i]? = some x → (es.push ⟨key a, v, n⟩)[i]? = some x := fun i x hx => by
    have := (Array.getElem?_eq_some_iff.1 hx).1
    rw [Array.getElem?_push, if_neg (by omega), hx]
  refine ⟨fun i x hx => ?_, fun a' u hu => ?_, fun i j x y hx hy he => ?_⟩
  · rcases at_ i x hx with hx | ⟨_, rfl⟩
    · obtain ⟨a', q1, q2, q3⟩ := h.back i x hx
      exact ⟨a', q1, q2, by unfold updF; rw [if_neg fun e => hn i x hx (by rw [q2, e])]; exact q3⟩
    · exact ⟨a, ha, rfl, by simp [updF]⟩
  · by_cases e : a' = a
    · exact ⟨es.size, ⟨key a, v, n⟩, by simp, by rw [e]⟩
    · unfold updF at hu
      rw [if_neg e] at hu
      obtain ⟨i, x, hx, hk⟩ := h.there a' u hu
      exact ⟨i, x, on i x hx, hk⟩
  · rcases at_ i x hx with hx | ⟨rfl, rfl⟩ <;> rcases at_ j y hy with hy | ⟨rfl, rfl⟩
    · exact h.once i j x y hx hy he
    · exact absurd he (hn i x hx)
    · exact absurd he.symm (hn j y hy)
    · rfl
theorem Ents.put (T : KeyT P k key ok) {es : Array MapEntry} (h : Ents key ok es f) {a : α} (ha : ok a) {j : Nat} {e0 : MapEntry} (hj : es[j]? = some e0) (hk : e0.key = key a) (v : Value) (g : MapEntry → MapEntry) (hg : g e0 = { e0 with key := key a, val := v }) : Ents key ok (es.modify j g) (updF f a (some v)) := by
  have at_ : ∀ (i : Nat) x, (es.modify j g)[i]? = some x → (i = j ∧ x = g e0) ∨ (i ≠ j ∧ es[i]? = some x) := fun i x hx => by
    rw [Array.getElem?_modify] at hx
    by_cases e : j = i
    · subst e
      rw [if_pos rfl, hj] at hx
      exact .inl ⟨rfl, (Option.some.inj hx).symm⟩
    · rw [if_neg e] at hx
      exact .inr ⟨Ne.symm e, hx⟩
  have off : ∀ (i : Nat) x, i ≠ j → es[i]? = some x → x.key ≠ key a := fun i x hi hx e => hi (h.once i j x e0 hx hj (by rw [e, hk]))
  refine ⟨fun i x hx => ?_, fun a' u hu => ?_, fun i i' x y hx hy he => ?_⟩
  · rcases at_ i x hx with ⟨rfl, rfl⟩ | ⟨hi, hx⟩
    · exact ⟨a, ha, by rw [hg], by rw [hg]; simp [updF]⟩
    · obtain ⟨a', q1, q2, q3⟩ := h.back i x hx
      exact ⟨a', q1, q2, by unfold updF; rw [if_neg fun e => off i x hi hx (by rw [q2, e])]; exact q3⟩
  · by_cases e : a' = a
    · exact ⟨j, g e0, by rw [Array.getElem?_modify, if_pos rfl, hj]; rfl, by rw [hg, e]⟩
    · unfold updF at hu
      rw [if_neg e] at hu
      obtain ⟨i, x, hx, hk'⟩ := h.there a' u hu
      refine ⟨i, x, ?_, hk'⟩
      rw [Array.getElem?_modify, if_neg, hx]
      rintro rfl
      rw [hj] at hx
      cases hx
      exact e (T.inj _ _ (by rw [← hk', hk]))
  · rcases at_ i x hx with ⟨rfl, rfl⟩ | ⟨hi, hx2⟩ <;> rcases at_ i' y hy with ⟨rfl, rfl⟩ | ⟨hi', hy2⟩
    · rfl
    · rw [hg] at he
      exact absurd he.symm (off i' y hi' hy2)
    · rw [hg] at he
      exact absurd he (off i x hi hx2)
    · exact h.once i i' x y hx2 hy2 he
theorem Ents.del (T : KeyT P k key ok) {es : Array MapEntry} (h : Ents key ok es f) {a : α} {j : Nat} {e0 : MapEntry} (hj : es[j]? = some e0) (hk : e0.key = key a) : Ents key ok (es.eraseIdxIfInBounds j) (updF f a none) := by
  have hjs := (Array.getElem?_eq_some_iff.1 hj).1
  have get : ∀ i : Nat, (es.eraseIdxIfInBounds j)[i]? = if i < j then es[i]? else es[i + 1]? := fun i => by
    unfold Array.eraseIdxIfInBounds
    rw [dif_pos hjs, Array.getElem?_eraseIdx]
  have at_ : ∀ (i : Nat) x, (es.eraseIdxIfInBounds j)[i]? = some x → ∃ i', i' ≠ j ∧ es[i']? = some x ∧ i' = if i < j then i else i + 1 := fun i x hx => by
    rw [get] at hx
    by_cases e : i < j
    · rw [if_pos e] at hx
      exact ⟨i, by omega, hx, by rw [if_pos e]⟩
    · rw [if_neg e] at hx
      exact ⟨i + 1, by omega, hx, by rw [if_neg e]⟩
  have off : ∀ (i : Nat) x, i ≠ j → es[i]? = some x → x.key ≠ key a := fun i x hi hx e => hi (h.once i j x e0 hx hj (by rw [e, hk]))
  refine ⟨fun i x hx => ?_, fun a' u hu => ?_, fun i i' x y hx hy he => ?_⟩
  · obtain ⟨i', hi', hx', _⟩ := at_ i x hx
    obtain ⟨a', q1, q2, q3⟩ := h.back i' x hx'
    exact ⟨a', q1, q2, by unfold updF; rw [if_neg fun e => off i' x hi' hx' (by rw [q2, e])]; exact q3⟩
  · by_cases e : a' = a
    · unfold updF at hu
      rw [if_pos e] at hu
      cases hu
    · unfold updF at hu
      rw [if_neg e] at hu
      obtain ⟨i, x, hx, hk'⟩ := h.there a' u hu
      have hij : i ≠ j := by
        rintro rfl
        rw [hj] at hx
        cases hx
        exact e (T.inj _ _ (by rw [← hk', hk]))
      by_cases hl : i < j
      · exact ⟨i, x, by rw [get, if_pos hl, hx], hk'⟩
      · refine ⟨i - 1, x, ?_, hk'⟩
        rw [get, if_neg (by omega), show i - 1 + 1 = i by omega, hx]
  · obtain ⟨p, _, hp, ep⟩ := at_ i x hx
    obtain ⟨q, _, hq, eq⟩ := at_ i' y hy
    have := h.once p q x y hp hq he
    split at ep <;> split at eq <;> omega
theorem MapAt.store (T : KeyT P k key ok) (ht : P.underlying t = some (.map k e)) (h : MapAt key ok w b f) {a : α} (ha : ok a) (v : Value) :
    ∃ w', (Instr.mapUpdate t (.map (some b)) (key a) v).run P w = .ok () w' ∧ MapAt key ok w' b (updF f a (some v)) ∧ w.grownBy w' (some b) := by
  obtain ⟨es, clock, hb, hst, h1⟩ := h
  obtain ⟨l, hl⟩ := T.lit a ha
  rcases h1.find T w ha with ⟨r1, _, r2⟩ | ⟨j, e0, r1, hj, r3, _⟩
  · refine ⟨setBlock w b (.map (es.push ⟨key a, v, clock⟩) (clock + 1)), ?_, ⟨_, _, heap_setBlock_same hb _, stamped_push hst fun x hx => ?_, h1.push ha r2 v clock⟩, set_grown w hb _⟩
    · simp [Instr.mapUpdate, run_underlying ht, MapKept.run_getObj_map hb, T.K.check w false hl, r1, MapKept.run_setObj_map _ hb, Result.andThen, setBlock]
    · obtain ⟨i, hi⟩ := mem_at hx
      exact r2 i x hi
  · refine ⟨setBlock w b (.map (es.modify j fun x => { x with key := key a, val := v }) clock), ?_, ⟨_, _, heap_setBlock_same hb _, stamped_modify hst _ _ (fun _ _ => rfl) (fun x _ hx => ?_), h1.put T ha hj r3 v _ rfl⟩, set_grown w hb _⟩
    · simp [Instr.mapUpdate, run_underlying ht, MapKept.run_getObj_map hb, T.K.check w false hl, r1, hj, r3, T.K.stays w hl, MapKept.run_setObj_map _ hb, Result.andThen, setBlock]
    · rw [hj] at hx
      cases hx
      exact r3.symm
theorem MapAt.drop (T : KeyT P k key ok) (ht : P.underlying t = some (.map k e)) (h : MapAt key ok w b f) {a : α} (ha : ok a) (ty : TypeId) :
    ∃ w', (Builtin.delete_ #[t, k] ty #[.map (some b), key a]).run P w = .ok (.tuple #[]) w' ∧ MapAt key ok w' b (updF f a none) ∧ w.grownBy w' (some b) := by
  obtain ⟨es, clock, hb, hst, h1⟩ := h
  obtain ⟨l, hl⟩ := T.lit a ha
  rcases h1.find T w ha with ⟨r1, r0, _⟩ | ⟨j, e0, r1, hj, r3, _⟩
  · refine ⟨setBlock w b (.map es clock), ?_, ⟨_, _, heap_setBlock_same hb _, hst, ?_⟩, set_grown w hb _⟩
    · simp [Builtin.delete_, run_underlying ht, MapKept.run_getObj_map hb, T.K.check w _ hl, r1, MapKept.run_setObj_map _ hb, Result.andThen, setBlock]
    · have : updF f a none = f := by
        funext x
        unfold updF
        split
        · next e => rw [e, r0]
        · rfl
      rw [this]
      exact h1
  · refine ⟨setBlock w b (.map (es.eraseIdxIfInBounds j) clock), ?_, ⟨_, _, heap_setBlock_same hb _, stamped_erase hst j, h1.del T hj r3⟩, set_grown w hb _⟩
    simp [Builtin.delete_, run_underlying ht, MapKept.run_getObj_map hb, T.K.check w _ hl, r1, MapKept.run_setObj_map _ hb, Result.andThen, setBlock]
end
section
variable {P : Program} {k t e : TypeId} {α : Type} {key : α → Value} {ok : α → Prop} {w : World} {b : Nat} {f : α → Option Value}
variable {ops : Array Oper} {rest : List Oper} {o : Oper} {a : Act} {Q : Exit → Act → World → Prop}
theorem wpList_look (hg : o.guard = none) (d : Nat) (hd : o.dst = some d) (m x : Operand) (c : Bool) (hop : o.op = Op.lookup t m x c) (T : KeyT P k key ok) (ht : P.underlying t = some (.map k e)) (z : Value) (hz : (zeroValue e).run P w = .ok z w)
    (hm : a.eval m = .map (some b)) (h : MapAt key ok w b f) (i : α) (hx : a.eval x = key i) (hi : ok i) (v : Value) (hv : lookV z (f i) c = v)
    (hK : wpList P ops Q rest (a.put (some d) v) w) : wpList P ops Q (o :: rest) a w := by
  refine wpList_plain hg fun K' hK' => ?_
  have hrun := h.look T ht hz c hi
  rw [hv] at hrun
  unfold Oper.wp
  simp [execOp, hop, hm, hx, hrun, Result.andThen]
  exact hK' _ _ (by rw [hd]; exact hK)
variable [DecidableEq α]
theorem wpList_mapStore (hg : o.guard = none) (m x y : Operand) (hop : o.op = Op.mapUpdate t m x y) (T : KeyT P k key ok) (ht : P.underlying t = some (.map k e))
    (hm : a.eval m = .map (some b)) (h : MapAt key ok w b f) (i : α) (hx : a.eval x = key i) (hi : ok i) (v : Value) (hv : a.eval y = v)
    (hK : ∀ w', MapAt key ok w' b (updF f i (some v)) → w.grownBy w' (some b) → wpList P ops Q rest (a.put o.dst undef) w') : wpList P ops Q (o :: rest) a w := by
  refine wpList_plain hg fun K' hK' => ?_
  obtain ⟨w', hrun, r1, r2⟩ := h.store T ht hi v
  unfold Oper.wp
  simp [execOp, hop, hm, hx, hv, hrun, Result.andThen]
  exact hK' _ _ (hK w' r1 r2)
theorem wpList_mapDrop (hg : o.guard = none) (m x : Operand) (hop : o.op = Op.call { callee := Callee.builtin Builtin.delete, args := #[m, x], argTypes := #[t, k] }) (T : KeyT P k key ok) (ht : P.underlying t = some (.map k e))
    (hm : a.eval m = .map (some b)) (h : MapAt key ok w b f) (i : α) (hx : a.eval x = key i) (hi : ok i)
    (hK : ∀ w', MapAt key ok w' b (updF f i none) → w.grownBy w' (some b) → wpList P ops Q rest (a.put o.dst (.tuple #[])) w') : wpList P ops Q (o :: rest) a w := by
  refine wpList_plain hg fun K' hK' => ?_
  obtain ⟨w', hrun, r1, r2⟩ := h.drop T ht hi o.type
  unfold Oper.wp
  simp [execOp, hop, resolve, invoke, builtin, hm, hx, hrun, Result.andThen]
  exact hK' _ _ (hK w' r1 r2)
end
end Go.Proofs.YthbifccankfngaaGreatDoor

/-
  Rows of a call's own by their names, their blocks apart: what a change of one leaves of the others.
  Conditions: none beyond those that each theorem names.
-/

namespace Go.Proofs.YthbifccankfngaaGreatDoor
open Go.RowKit

def flat2 (l : List (Value × Value)) : List Value := l.flatMap fun p => [p.1, p.2]
theorem flat2_length (l : List (Value × Value)) : (flat2 l).length = l.length * 2 := by
  induction l with
  | nil => rfl
  | cons a l ih => show ([a.1, a.2] ++ flat2 l).length = _; rw [List.length_append, ih]; simp; omega
theorem flat2_append (a b : List (Value × Value)) : flat2 (a ++ b) = flat2 a ++ flat2 b := by simp [flat2]
theorem flat2_get (l : List (Value × Value)) (k : Nat) (h : k < l.length) : (flat2 l)[k * 2]? = some l[k].1 ∧ (flat2 l)[k * 2 + 1]? = some l[k].2 := by
  induction l generalizing k with
  | nil => simp at h
  | cons a l ih =>
    show ([a.1, a.2] ++ flat2 l)[k * 2]? = _ ∧ ([a.1, a.2] ++ flat2 l)[k * 2 + 1]? = _
    cases k with
    | zero => exact ⟨rfl, rfl⟩
    | succ k =>
      have := ih k (by simpa using h)
      rw [show (k + 1) * 2 = k * 2 + 1 + 1 by omega]
      exact this
/-- The rows: V i is the slice of row i, L i what it holds. -/
structure RowsF {I : Type} (B : Nat) (z : World) (ty : I → TypeId) (V : I → Value) (L : I → List (Value × Value)) : Prop where
  own : ∀ i, z.ownsRow B (ty i) 2 (V i) (L i).length (flat2 (L i))
  apart : ∀ i j, i ≠ j → ∀ k, (V i).ownBlock = some k → (V j).ownBlock ≠ some k
def setF {I β : Type} [DecidableEq I] (f : I → β) (i : I) (b : β) : I → β := fun x => if x = i then b else f x
theorem setF_same {I β : Type} [DecidableEq I] (f : I → β) (i : I) (b : β) : setF f i b i = b := by simp [setF]
theorem setF_ne {I β : Type} [DecidableEq I] (f : I → β) {i x : I} (b : β) (h : x ≠ i) : setF f i b x = f x := by simp [setF, h]
section
variable {I : Type} [DecidableEq I] {B : Nat} {z z' : World} {ty : I → TypeId} {V : I → Value} {L : I → List (Value × Value)}
omit [DecidableEq I] in
theorem RowsF.move (h : RowsF B z ty V L) {row : Option Nat} (hg : z.grownBy z' row) (hn : ∀ i k, (V i).ownBlock = some k → row ≠ some k) : RowsF B z' ty V L :=
  ⟨fun i => (h.own i).kept hg (by
    cases hv : (V i).ownBlock with
    | none => exact .inl rfl
    | some k => exact .inr (Ne.symm (hn i k hv))), h.apart⟩
/-- Row i is written anew. -/
theorem RowsF.set (h : RowsF B z ty V L) (i : I) (hg : z.grownBy z' (V i).ownBlock) {v : Value} {l : List (Value × Value)} (ho : z'.ownsRow B (ty i) 2 v l.length (flat2 l))
    (hv : ∀ k, v.ownBlock = some k → (V i).ownBlock = some k ∨ z.heap.size ≤ k) : RowsF B z' ty (setF V i v) (setF L i l) := by
  have hlt : ∀ j k, (V j).ownBlock = some k → k < z.heap.size := fun j k hk => ((h.own j).lt k hk).2
  refine ⟨fun j => ?_, fun j j' hne k hk => ?_⟩
  · by_cases hj : j = i
    · subst hj
      rw [setF_same, setF_same]
      exact ho
    · rw [setF_ne _ _ hj, setF_ne _ _ hj]
      refine (h.own j).kept hg ?_
      cases hv : (V j).ownBlock with
      | none => exact .inl rfl
      | some k => exact .inr (Ne.symm (h.apart j i hj k hv))
  · by_cases hj : j = i
    · subst hj
      rw [setF_same] at hk
      rw [setF_ne _ _ (Ne.symm hne)]
      intro hk'
      rcases hv k hk with h1 | h1
      · exact h.apart j j' hne k h1 hk'
      · have := hlt j' k hk'
        omega
    · rw [setF_ne _ _ hj] at hk
      by_cases hj' : j' = i
      · subst hj'
        rw [setF_same]
        intro hk'
        rcases hv k hk' with h1 | h1
        · exact h.apart j j' hne k hk h1
        · have := hlt j k hk
          omega
      · rw [setF_ne _ _ hj']
        exact h.apart j j' hne k hk
end
end Go.Proofs.YthbifccankfngaaGreatDoor

/-
  What the modes' tables hold, and the plain functions of layer 10: right, tog, cov, jn, abv, nm, with the laws of a lattice over the six modes.
  Conditions: none beyond those that each theorem names.
-/

namespace Go.Proofs.YthbifccankfngaaGreatDoor
open Go.RowKit

def cmpT : List (List Bool) := [[true, true, true, true, true, true], [true, true, true, true, true, false], [true, true, true, false, false, false], [true, true, false, true, false, false], [true, true, false, false, false, false], [true, false, false, false, false, false]]
def rdT : List Int := [0, 1, 1, 2, 2, 2]
def wrT : List Int := [0, 0, 1, 0, 1, 2]
def nmT : List (List UInt8) := [[110, 111, 110, 101], [105, 115], [105, 120], [115], [115, 105, 120], [120]]
def cmp (i j : Nat) : Bool := (cmpT.getD i []).getD j false
def rdN (i : Nat) : Int := rdT.getD i 0
def wrN (i : Nat) : Int := wrT.getD i 0
def nmN (i : Nat) : List UInt8 := nmT.getD i []

/-- Is it a mode? -/
def right (m : Int) : Bool := decide (0 ≤ m) && decide (m ≤ 5)
def tog (a b : Int) : Bool := right a && right b && cmp a.toNat b.toNat
def cov (a b : Int) : Bool := right a && right b && decide (rdN b.toNat ≤ rdN a.toNat) && decide (wrN b.toNat ≤ wrN a.toNat)
def jnF (a b : Int) : Nat → Nat → Int
  | 0, _ => 5
  | n + 1, k => if cov (k : Int) a = true ∧ cov (k : Int) b = true then (k : Int) else jnF a b n (k + 1)
def jn (a b : Int) : Int := jnF a b 6 0
def abv (m : Int) : Int := if m = 0 then 0 else if m = 1 ∨ m = 3 then 1 else 2
def nmS (m : Int) : ByteArray := if right m = true then ⟨(nmN m.toNat).toArray⟩ else ⟨#[]⟩

theorem right_iff (m : Int) : right m = true ↔ 0 ≤ m ∧ m ≤ 5 := by simp [right]
theorem six {m : Int} (h : right m = true) : m = 0 ∨ m = 1 ∨ m = 2 ∨ m = 3 ∨ m = 4 ∨ m = 5 := by
  rw [right_iff] at h; omega
theorem as_fin {m : Int} (h : right m = true) : ∃ u : Fin 6, m = (u.val : Int) := by
  rw [right_iff] at h; exact ⟨⟨m.toNat, by omega⟩, by simp; omega⟩
theorem notRight {m : Int} (h : right m = false) : m < 0 ∨ 5 < m := by
  have : ¬ (0 ≤ m ∧ m ≤ 5) := by rw [← right_iff, h]; simp
  omega

/-! ### the lattice -/
theorem f_sym : ∀ u v : Fin 6, tog (u.val : Int) (v.val : Int) = tog (v.val : Int) (u.val : Int) := by decide +kernel
theorem f_refl : ∀ u : Fin 6, cov (u.val : Int) (u.val : Int) = true := by decide +kernel
theorem f_up : ∀ u v : Fin 6, cov (jn (u.val : Int) (v.val : Int)) (u.val : Int) = true ∧ cov (jn (u.val : Int) (v.val : Int)) (v.val : Int) = true ∧ jn (u.val : Int) (v.val : Int) = jn (v.val : Int) (u.val : Int) ∧ right (jn (u.val : Int) (v.val : Int)) = true := by decide +kernel
theorem f_assoc : ∀ u v x : Fin 6, jn (jn (u.val : Int) (v.val : Int)) (x.val : Int) = jn (u.val : Int) (jn (v.val : Int) (x.val : Int)) := by decide +kernel
theorem f_anti : ∀ u v : Fin 6, cov (u.val : Int) (v.val : Int) = true → cov (v.val : Int) (u.val : Int) = true → u = v := by decide +kernel
theorem f_trans : ∀ u v x : Fin 6, cov (u.val : Int) (v.val : Int) = true → cov (v.val : Int) (x.val : Int) = true → cov (u.val : Int) (x.val : Int) = true := by decide +kernel
theorem f_less : ∀ u v x : Fin 6, cov (u.val : Int) (v.val : Int) = true → tog (u.val : Int) (x.val : Int) = true → tog (v.val : Int) (x.val : Int) = true := by decide +kernel
theorem f_least : ∀ u v x : Fin 6, cov (x.val : Int) (u.val : Int) = true → cov (x.val : Int) (v.val : Int) = true → cov (x.val : Int) (jn (u.val : Int) (v.val : Int)) = true := by decide +kernel
theorem f_above : ∀ u v : Fin 6, cov (u.val : Int) (v.val : Int) = true → cov (abv (u.val : Int)) (abv (v.val : Int)) = true := by decide +kernel

/-! ### the tables -/
structure Tab (w : World) : Prop where
  size : 1 < w.heap.size
  comp : ∀ i j, i < 6 → j < 6 → w.cell? ⟨0, i * 6 + j, none⟩ = some (.bool (cmp i j))
  rd : ∀ i, i < 6 → w.cell? ⟨1, i * 2, none⟩ = some (.int .i64 (rdN i))
  wr : ∀ i, i < 6 → w.cell? ⟨1, i * 2 + 1, none⟩ = some (.int .i64 (wrN i))
theorem Tab.drewN {w : World} (h : Tab w) (n : Nat) : Tab (w.drewN n) := ⟨h.size, h.comp, h.rd, h.wr⟩

abbrev laid3 : List (String × DataW Unit) := [("counterpane/mode.compatible", Rows.laid_counterpane_mode_compatible), ("counterpane/mode.permits", Rows.laid_counterpane_mode_permits)]
theorem own : ownKnob Tryz.prog.godebug = none := by kernel_rfl
theorem laidOut : laidOutB Tryz.prog = true := by kernel_rfl
theorem g0 : Tryz.prog.globalNamed "counterpane/mode.compatible" = some 0 := by kernel_rfl
theorem g1 : Tryz.prog.globalNamed "counterpane/mode.permits" = some 1 := by kernel_rfl
theorem y0 : (Tryz.prog.globals[0]?).map (·.type) = some 118 := by kernel_rfl
theorem y1 : (Tryz.prog.globals[1]?).map (·.type) = some 132 := by kernel_rfl
theorem cB : Tryz.prog.cellsOf 4 = 1 := by kernel_rfl
theorem cI : Tryz.prog.cellsOf 3 = 1 := by kernel_rfl
theorem c6B : Tryz.prog.cellsOf 117 = 6 := by kernel_rfl
theorem cR : Tryz.prog.cellsOf 131 = 2 := by kernel_rfl

def comD : DataW Unit := .agg ((List.range 6).map fun i => .agg ((List.range 6).map fun j => .lit (.bool (cmp i j))))
def perD : DataW Unit := .agg ((List.range 6).map fun i => .agg [.lit (.int .i64 (rdN i)), .lit (.int .i64 (wrN i))])
theorem com_is : (Rows.laid_counterpane_mode_compatible : DataW Unit) = comD := rfl
theorem per_is : (Rows.laid_counterpane_mode_permits : DataW Unit) = perD := rfl

section
variable {H : Type} {enc : TypeId × Value → H} {P : Program} {w : World} {base : Nat} {sp : Nat → Bool} {held : Bool}
/-- An array that reads as a row of data: each element reads as its own. -/
theorem arr_at {t e : TypeId} {n fuel : Nat} {cs : List Value} {ds : List (DataW H)} {p : List MemPlace} (ht : P.underlying t = some (.array n e)) (h : DataW.trod enc P w base sp held fuel t cs = some (.agg ds, p)) (i : Nat) (hi : i < n) (d : DataW H) (hd : ds[i]? = some d) :
    ∃ m q, DataW.trod enc P w base sp held m e ((cs.drop (i * P.cellsOf e)).take (P.cellsOf e)) = some (d, q) := by
  obtain ⟨xs, m, rfl, hx, hl, hn, hall⟩ := DataW.trod_array ht h
  have h1 := hall i hi
  obtain ⟨b, hb⟩ : ∃ b, xs[i]? = some b := ⟨xs[i]'(by omega), List.getElem?_eq_getElem (by omega)⟩
  have h2 : ds = xs.map (·.1) := by have := congrArg Prod.fst hx; simpa using this
  rw [h2, List.getElem?_map, hb] at hd
  have h3 : b.1 = d := by simpa using hd
  exact ⟨m, b.2, by rw [h1, hb, ← h3]⟩
theorem drop_take_at {cs : List Value} {k n j : Nat} {v : Value} (h : ((cs.drop k).take n)[j]? = some v) : cs[k + j]? = some v := by
  rw [List.getElem?_take] at h
  split at h
  · rwa [List.getElem?_drop] at h
  · cases h
theorem lit_bool {t : TypeId} {fuel : Nat} {cs : List Value} {b : Bool} {p : List MemPlace} (ht : P.underlying t = some .bool) (h : DataW.trod enc P w base sp held fuel t cs = some (.lit (.bool b), p)) : cs[0]? = some (.bool b) := by
  obtain ⟨b', rfl, hx⟩ := DataW.trod_bool ht h
  simp at hx
  rw [hx.1]; rfl
theorem lit_int {t : TypeId} {k : IntKind} {fuel : Nat} {cs : List Value} {z : Int} {p : List MemPlace} (ht : P.underlying t = some (.int k)) (h : DataW.trod enc P w base sp held fuel t cs = some (.lit (.int k z), p)) : cs[0]? = some (.int k z) := by
  obtain ⟨z', rfl, hx, _⟩ := DataW.trod_int ht h
  simp at hx
  rw [hx.1]; rfl
theorem lit_str {t : TypeId} {fuel : Nat} {cs : List Value} {l : List UInt8} {p : List MemPlace} (ht : P.underlying t = some .string) (h : DataW.trod enc P w base sp held fuel t cs = some (.lit (.string l), p)) : cs[0]? = some (.string ⟨l.toArray⟩) := by
  obtain ⟨s, rfl, hx, _⟩ := DataW.trod_string ht h
  simp at hx
  obtain ⟨h1, -⟩ := hx
  subst h1
  rfl
end
theorem range_at {α : Type} (f : Nat → α) (i : Nat) (hi : i < 6) : ((List.range 6).map f)[i]? = some (f i) := by
  simp [hi]

theorem tab_of_laid {W : World} (h : laidMetH Tryz.prog laid3 W) : Tab W := by
  rw [MakeChecks.laidMetH_plain _ _ _ (by kernel_rfl)] at h
  have h0 := Lib.laidMet.reads h (n := "counterpane/mode.compatible") (d := comD) (by rw [← com_is]; simp)
  have h1 := Lib.laidMet.reads h (n := "counterpane/mode.permits") (d := perD) (by rw [← per_is]; simp)
  clear h
  obtain ⟨g, t, cs, fuel, p, hg, ht, hv, hd⟩ := h0
  obtain rfl := Option.some.inj (g0.symm.trans hg)
  obtain rfl := Option.some.inj (y0.symm.trans ht)
  have A0 := World.var?_cell g0 hv
  have B0 : ∀ i j, i < 6 → j < 6 → W.cell? ⟨0, i * 6 + j, none⟩ = some (.bool (cmp i j)) := by
    intro i j hi hj
    rw [A0, ← Array.getElem?_toList]
    obtain ⟨m, q, h1⟩ := arr_at Tryz.underlying118 hd i hi _ (range_at _ i hi)
    obtain ⟨m, q, h2⟩ := arr_at Tryz.underlying117 h1 j hj _ (range_at _ j hj)
    rw [cB, c6B] at h2
    have h3 := drop_take_at (drop_take_at (lit_bool Tryz.underlying4 h2))
    simpa using h3
  clear hd hv hg ht
  obtain ⟨g, t, cs1, fuel, p, hg, ht, hv, hd⟩ := h1
  obtain rfl := Option.some.inj (g1.symm.trans hg)
  obtain rfl := Option.some.inj (y1.symm.trans ht)
  have A1 := World.var?_cell g1 hv
  have B1 : ∀ i, i < 6 → W.cell? ⟨1, i * 2, none⟩ = some (.int .i64 (rdN i)) ∧ W.cell? ⟨1, i * 2 + 1, none⟩ = some (.int .i64 (wrN i)) := by
    intro i hi
    rw [A1, A1, ← Array.getElem?_toList, ← Array.getElem?_toList]
    obtain ⟨m, q, h1⟩ := arr_at Tryz.underlying132 hd i hi _ (range_at _ i hi)
    obtain ⟨xs, n, rfl, hx, hl, hn, hall⟩ := DataW.trod_struct Tryz.underlying131 h1
    have e0 := hall 0 _ rfl
    have e1 := hall 1 _ rfl
    obtain ⟨x0, x1, rfl⟩ : ∃ x0 x1, xs = [x0, x1] := by
      match xs, hn with
      | [a, b], _ => exact ⟨a, b, rfl⟩
    simp at hx
    obtain ⟨⟨hx0, hx1⟩, -⟩ := hx
    rw [List.getElem?_cons_zero] at e0
    rw [List.getElem?_cons_succ, List.getElem?_cons_zero] at e1
    obtain ⟨d0, q0⟩ := x0
    obtain ⟨d1, q1⟩ := x1
    simp only at hx0 hx1
    subst hx0 hx1
    rw [cR] at e0 e1
    have f0 := drop_take_at (drop_take_at (lit_int Tryz.underlying3 e0))
    have f1 := drop_take_at (drop_take_at (lit_int Tryz.underlying3 e1))
    exact ⟨by simpa using f0, by simpa using f1⟩
  exact ⟨World.block_lt_of_cell? W ⟨1, 0, none⟩ (B1 0 (by decide)).1, B0, fun i hi => (B1 i hi).1, fun i hi => (B1 i hi).2⟩

end Go.Proofs.YthbifccankfngaaGreatDoor

/-
  The lock table over plain lists and functions: what the document's tables become, what the program's maps become, and that each act turns the one as it turns the other.
  Conditions: none beyond those that each theorem names.
-/

namespace Go.Proofs.YthbifccankfngaaGreatDoor

abbrev Rs := Int × Nat
abbrev Cm := Nat × Int
abbrev Cl := Rs × Cm

/-! ### the document's table -/
structure TR where
  held : List Cl
  queue : List Cl
def ofR (l : List Cl) (r : Rs) : List Cl := l.filter fun c => c.1 == r
def byT (l : List Cl) (t : Nat) : List Cl := l.filter fun c => c.2.1 == t
def isC (t : Nat) (r : Rs) (c : Cl) : Bool := c.2.1 == t && c.1 == r
def modeR (l : List Cl) (t : Nat) (r : Rs) : Int := ((l.find? (isC t r)).map (·.2.2)).getD 0
def freeR (l : List Cl) (t : Nat) (r : Rs) (m : Int) : Bool := l.all fun c => !(c.1 == r && c.2.1 != t && !tog c.2.2 m)
def grantR (l : List Cl) (c : Cl) : List Cl := if l.any (isC c.2.1 c.1) then l.map (fun d => if isC c.2.1 c.1 d then c else d) else l ++ [c]
def insR (held : List Cl) (c : Cl) : List Cl → List Cl
  | [] => [c]
  | d :: q => if d.1 == c.1 && modeR held d.2.1 c.1 == 0 then c :: d :: q else d :: insR held c q
def waitR (q : List Cl) (t : Nat) : Option Cl := q.find? fun c => c.2.1 == t
def lockR (u : TR) (t : Nat) (r : Rs) (m : Int) : TR × Int :=
  if m < 1 ∨ 5 < m then (u, 14) else if (waitR u.queue t).isSome then (u, 10) else
  if modeR u.held t r = jn (modeR u.held t r) m then (u, 0) else
  if (freeR u.held t r (jn (modeR u.held t r) m) && (decide (0 < modeR u.held t r) || (ofR u.queue r).isEmpty)) then (⟨grantR u.held (r, t, jn (modeR u.held t r) m), u.queue⟩, 0)
  else (⟨u.held, if 0 < modeR u.held t r then insR u.held (r, t, jn (modeR u.held t r) m) u.queue else u.queue ++ [(r, t, jn (modeR u.held t r) m)]⟩, 12)
def withoutR (l : List Cl) (t : Nat) : List Cl := l.filter fun c => c.2.1 != t
def dropR (r : Rs) : List Cl → List Cl
  | [] => []
  | c :: l => if c.1 == r then l else c :: dropR r l
def wakeL (r : Rs) : List Cl → TR → TR × List Nat
  | [], u => (u, [])
  | c :: q, u => if freeR u.held c.2.1 r c.2.2 then ((wakeL r q ⟨grantR u.held c, dropR r u.queue⟩).1, c.2.1 :: (wakeL r q ⟨grantR u.held c, dropR r u.queue⟩).2) else (u, [])
def wakeR (u : TR) (r : Rs) : TR × List Nat := wakeL r (ofR u.queue r) u
def ltR (a b : Rs) : Bool := decide (a.1 < b.1) || (a.1 == b.1 && decide (a.2 < b.2))
def putF (r : Rs) : Bool → List Rs → List Rs
  | d, [] => if d then [] else [r]
  | d, x :: l => if !(d || x == r) && ltR r x then r :: x :: putF r true l else x :: putF r (d || x == r) l
def putR (l : List Rs) (r : Rs) : List Rs := putF r false l
def thingsR (u : TR) : List Rs := (u.held ++ u.queue).foldl (fun o c => putR o c.1) []
def wakes : List Rs → TR → TR × List Nat
  | [], u => (u, [])
  | r :: l, u => ((wakes l (wakeR u r).1).1, (wakeR u r).2 ++ (wakes l (wakeR u r).1).2)
def releaseR (u : TR) (t : Nat) : TR × List Nat := wakes (thingsR ⟨byT u.held t, byT u.queue t⟩) ⟨withoutR u.held t, withoutR u.queue t⟩
def cancelR (u : TR) (t : Nat) : TR × List Nat := match waitR u.queue t with
  | none => (u, [])
  | some c => wakeR ⟨u.held, withoutR u.queue t⟩ c.1

/-! ### the program's maps -/
structure TS where
  th : Rs → Option (List Cm × List Cm)
  ow : Nat → Option (List Rs)
  wt : Nat → Option Rs
def upd {α β : Type} [DecidableEq α] (f : α → Option β) (a : α) (b : Option β) : α → Option β := fun x => if x = a then b else f x
def TS.at (s : TS) (r : Rs) : List Cm × List Cm := (s.th r).getD ([], [])
def heldI (h : List Cm) (t : Nat) : Int := ((h.find? fun c => c.1 == t).map (·.2)).getD 0
def hind (c d : Cm) : Bool := c.1 != d.1 && !tog c.2 d.2
def admI (h : List Cm) (c : Cm) : Bool := !h.any fun x => hind x c
def placeI (h q : List Cm) (t : Nat) : Nat := if heldI h t = 0 then q.length else (q.takeWhile fun c => heldI h c.1 != 0).length
def replI (c : Cm) : List Cm → List Cm
  | [] => []
  | d :: l => if d.1 == c.1 then c :: l else d :: replI c l
def hasT (h : List Cm) (t : Nat) : Bool := h.any fun d => d.1 == t
def holdI (s : TS) (r : Rs) (c : Cm) : TS :=
  if hasT (s.at r).1 c.1 then { s with th := upd s.th r (some (replI c (s.at r).1, (s.at r).2)) }
  else { s with th := upd s.th r (some ((s.at r).1 ++ [c], (s.at r).2)), ow := upd s.ow c.1 (some ((s.ow c.1).getD [] ++ [r])) }
def lockI (s : TS) (t : Nat) (r : Rs) (m : Int) : TS × Int :=
  if m < 1 ∨ 5 < m then (s, 14) else if (s.wt t).isSome then (s, 10) else
  if jn (heldI (s.at r).1 t) m = heldI (s.at r).1 t then (s, 0) else
  if admI (s.at r).1 (t, jn (heldI (s.at r).1 t) m) && (heldI (s.at r).1 t != 0 || (s.at r).2.isEmpty) then (holdI s r (t, jn (heldI (s.at r).1 t) m), 0)
  else ({ s with th := upd s.th r (some ((s.at r).1, (s.at r).2.insertIdx (placeI (s.at r).1 (s.at r).2 t) (t, jn (heldI (s.at r).1 t) m))), wt := upd s.wt t (some r) }, 12)
def notT (t : Nat) (l : List Cm) : List Cm := l.filter fun c => c.1 != t
def endI (s : TS) (r : Rs) : TS := if (s.at r).1.isEmpty then { s with th := upd s.th r none } else s
def stepI (s : TS) (r : Rs) (c : Cm) : TS :=
  { holdI { s with th := upd s.th r (some ((s.at r).1, notT c.1 (s.at r).2)) } r c with wt := upd s.wt c.1 none }
def grantI : Nat → TS → Rs → TS × List Nat
  | 0, s, r => (endI s r, [])
  | n + 1, s, r => match (s.at r).2 with
    | [] => (endI s r, [])
    | c :: _ => if admI (s.at r).1 c then ((grantI n (stepI s r c) r).1, c.1 :: (grantI n (stepI s r c) r).2) else (endI s r, [])
def dropI (s : TS) (r : Rs) (t : Nat) : TS := { s with th := upd s.th r (some (notT t (s.at r).1, notT t (s.at r).2)) }
def grantA (s : TS) (r : Rs) : TS × List Nat := grantI (s.at r).2.length s r
def freeI (t : Nat) : List Rs → TS → TS × List Nat
  | [], s => (s, [])
  | r :: l, s => ((freeI t l (grantA (dropI s r t) r).1).1, (grantA (dropI s r t) r).2 ++ (freeI t l (grantA (dropI s r t) r).1).2)
def cancelI (s : TS) (t : Nat) : TS × List Nat := match s.wt t with
  | none => (s, [])
  | some r => grantA { s with wt := upd s.wt t none, th := upd s.th r (some ((s.at r).1, notT t (s.at r).2)) } r
def mineI (s : TS) (t : Nat) : List Rs := (s.ow t).getD [] ++ match s.wt t with
  | none => []
  | some r => if heldI (s.at r).1 t = 0 then [r] else []

/-! ### what holds between the two -/
def cms (l : List Cl) : List Cm := l.map (·.2)
structure Inv0 (u : TR) : Prop where
  uh : u.held.Pairwise fun a b => ¬ (a.1 = b.1 ∧ a.2.1 = b.2.1)
  uq : u.queue.Pairwise fun a b => a.2.1 ≠ b.2.1
  mh : ∀ c ∈ u.held, 1 ≤ c.2.2 ∧ c.2.2 ≤ 5
  mq : ∀ c ∈ u.queue, 1 ≤ c.2.2 ∧ c.2.2 ≤ 5
  tg : ∀ a ∈ u.held, ∀ b ∈ u.held, a.1 = b.1 → a.2.1 ≠ b.2.1 → tog a.2.2 b.2.2 = true
def Blk (u : TR) (r : Rs) : Prop := ∀ c, (cms (ofR u.queue r)).head? = some c → admI (cms (ofR u.held r)) c = false
structure Rel0 (s : TS) (u : TR) : Prop where
  ow : ∀ t, ((s.ow t).getD []).Perm ((byT u.held t).map (·.1))
  wt : ∀ t, s.wt t = (waitR u.queue t).map (·.1)
def AtR (s : TS) (u : TR) (r : Rs) : Prop := s.at r = (cms (ofR u.held r), cms (ofR u.queue r))
def DomR (s : TS) (u : TR) (r : Rs) : Prop := (s.th r).isSome = !(ofR u.held r).isEmpty
structure Rel (s : TS) (u : TR) : Prop where
  r0 : Rel0 s u
  i0 : Inv0 u
  at_ : ∀ r, AtR s u r
  dom : ∀ r, DomR s u r
  blk : ∀ r, Blk u r
theorem upd_same {α β : Type} [DecidableEq α] (f : α → Option β) (a : α) (b : Option β) : upd f a b a = b := by simp [upd]
theorem upd_ne {α β : Type} [DecidableEq α] (f : α → Option β) {a x : α} (b : Option β) (h : x ≠ a) : upd f a b x = f x := by simp [upd, h]

/-! ### what both look up -/
theorem held_mode (l : List Cl) (t : Nat) (r : Rs) : heldI (cms (ofR l r)) t = modeR l t r := by
  unfold heldI modeR cms ofR
  rw [List.find?_map, List.find?_filter]
  congr 1
  rw [Option.map_map]
  have : (fun a : Cl => decide ((a.1 == r) = true ∧ ((fun c : Cm => c.1 == t) ∘ fun x : Cl => x.2) a = true)) = isC t r := by
    funext c
    by_cases h1 : c.1 = r <;> by_cases h2 : c.2.1 = t <;> simp [isC, h1, h2]
  rw [this]
  rfl
theorem adm_free (l : List Cl) (t : Nat) (r : Rs) (m : Int) : admI (cms (ofR l r)) (t, m) = freeR l t r m := by
  unfold admI freeR cms ofR
  rw [List.any_map, List.any_filter, List.not_any_eq_all_not]
  congr 1
  funext c
  simp [hind, Bool.or_assoc]
theorem mem_ofR {l : List Cl} {r : Rs} {c : Cl} : c ∈ ofR l r ↔ c ∈ l ∧ c.1 = r := by simp [ofR]
theorem mode_pos {l : List Cl} (h : ∀ c ∈ l, 1 ≤ c.2.2 ∧ c.2.2 ≤ 5) (t : Nat) (r : Rs) : (modeR l t r = 0 ∧ l.any (isC t r) = false) ∨ (1 ≤ modeR l t r ∧ modeR l t r ≤ 5 ∧ l.any (isC t r) = true) := by
  unfold modeR
  cases hf : l.find? (isC t r) with
  | none =>
    left
    refine ⟨rfl, ?_⟩
    rw [List.find?_eq_none] at hf
    simpa using hf
  | some c =>
    right
    have h1 := List.mem_of_find?_eq_some hf
    have h2 := List.find?_some hf
    refine ⟨(h c h1).1, (h c h1).2, ?_⟩
    rw [List.any_eq_true]
    exact ⟨c, h1, h2⟩
theorem has_any (l : List Cl) (t : Nat) (r : Rs) : hasT (cms (ofR l r)) t = l.any (isC t r) := by
  unfold hasT cms ofR
  rw [List.any_map, List.any_filter]
  congr 1
  funext c
  simp [isC, Bool.and_comm]

/-! ### a hold more, or a stronger one -/
theorem cms_append (a b : List Cl) : cms (a ++ b) = cms a ++ cms b := by simp [cms]
theorem ofR_append (a b : List Cl) (r : Rs) : ofR (a ++ b) r = ofR a r ++ ofR b r := by simp [ofR]
def subC (c d : Cl) : Cl := if isC c.2.1 c.1 d then c else d
theorem subC_1 (c d : Cl) : (subC c d).1 = d.1 := by
  unfold subC
  split
  · next h => simp [isC] at h; exact h.2.symm
  · rfl
theorem subC_t (c d : Cl) : (subC c d).2.1 = d.2.1 := by
  unfold subC
  split
  · next h => simp [isC] at h; exact h.1.symm
  · rfl
theorem ofR_sub (c : Cl) (l : List Cl) (r : Rs) : ofR (l.map (subC c)) r = (ofR l r).map (subC c) := by
  unfold ofR
  rw [List.filter_map]
  congr 1
  congr 1
  funext d
  simp [subC_1]
theorem sub_other {c : Cl} {l : List Cl} {r : Rs} (h : r ≠ c.1) : (ofR l r).map (subC c) = ofR l r := by
  have : ∀ d ∈ ofR l r, subC c d = d := fun d hd => by
    have := (mem_ofR.1 hd).2
    unfold subC
    rw [if_neg]
    simp [isC]
    intro _ h2
    exact h (this.symm.trans h2)
  rw [List.map_congr_left this]
  simp
theorem repl_none {c : Cm} {l : List Cm} (h : ∀ d ∈ l, d.1 ≠ c.1) : replI c l = l := by
  induction l with
  | nil => rfl
  | cons d l ih =>
    rw [replI, if_neg (by simpa using h d (by simp)), ih fun e he => h e (by simp [he])]
theorem sub_repl (c : Cl) : ∀ L : List Cl, (∀ d ∈ L, d.1 = c.1) → (L.Pairwise fun a b => a.2.1 ≠ b.2.1) → cms (L.map (subC c)) = replI c.2 (cms L)
  | [], _, _ => rfl
  | d :: L, hr, hp => by
    rw [List.pairwise_cons] at hp
    have ih := sub_repl c L (fun e he => hr e (by simp [he])) hp.2
    show (subC c d).2 :: cms (L.map (subC c)) = replI c.2 (d.2 :: cms L)
    by_cases h : d.2.1 = c.2.1
    · have hs : subC c d = c := by unfold subC; rw [if_pos]; simp [isC, h, hr d (by simp)]
      rw [hs, ih, replI, if_pos (by simpa using h), repl_none]
      intro e he
      obtain ⟨x, hx, rfl⟩ := List.mem_map.1 he
      exact fun h2 => hp.1 x hx (h.trans h2.symm)
    · have hs : subC c d = d := by unfold subC; rw [if_neg]; simp [isC, h]
      rw [hs, ih, replI, if_neg (by simpa using h)]
theorem pw_ofR {u : List Cl} (h : u.Pairwise fun a b => ¬ (a.1 = b.1 ∧ a.2.1 = b.2.1)) (r : Rs) : (ofR u r).Pairwise fun a b => a.2.1 ≠ b.2.1 := by
  unfold ofR
  have h1 : (u.filter fun c => c.1 == r).Pairwise fun a b => ¬ (a.1 = b.1 ∧ a.2.1 = b.2.1) := h.sublist List.filter_sublist
  refine h1.imp_of_mem fun {a b} ha hb hab e => hab ⟨?_, e⟩
  have h2 := (List.mem_filter.1 ha).2
  have h3 := (List.mem_filter.1 hb).2
  simp at h2 h3
  rw [h2, h3]
theorem grant_of {l : List Cl} (h : l.Pairwise fun a b => ¬ (a.1 = b.1 ∧ a.2.1 = b.2.1)) (c : Cl) : cms (ofR (grantR l c) c.1) = if hasT (cms (ofR l c.1)) c.2.1 then replI c.2 (cms (ofR l c.1)) else cms (ofR l c.1) ++ [c.2] := by
  unfold grantR
  rw [has_any]
  by_cases hh : l.any (isC c.2.1 c.1) = true
  · rw [if_pos hh, if_pos hh]
    show cms (ofR (l.map (subC c)) c.1) = _
    rw [ofR_sub, sub_repl c _ (fun d hd => (mem_ofR.1 hd).2) (pw_ofR h c.1)]
  · rw [if_neg hh, if_neg hh, ofR_append, cms_append]
    simp [ofR, cms]
theorem grant_other (l : List Cl) {c : Cl} {r : Rs} (hr : r ≠ c.1) : ofR (grantR l c) r = ofR l r := by
  unfold grantR
  split
  · show ofR (l.map (subC c)) r = _
    rw [ofR_sub, sub_other hr]
  · rw [ofR_append]
    simp [ofR, Ne.symm hr]
theorem grant_byT (l : List Cl) (c : Cl) (t : Nat) : (byT (grantR l c) t).map (·.1) = if t = c.2.1 ∧ l.any (isC c.2.1 c.1) = false then (byT l t).map (·.1) ++ [c.1] else (byT l t).map (·.1) := by
  unfold grantR
  by_cases hh : l.any (isC c.2.1 c.1) = true
  · rw [if_pos hh, if_neg (by simp [hh])]
    show (byT (l.map (subC c)) t).map (·.1) = _
    unfold byT
    rw [List.filter_map]
    have e : ((fun d : Cl => d.2.1 == t) ∘ subC c) = fun d : Cl => d.2.1 == t := by
      funext d
      simp [subC_t]
    rw [e, List.map_map]
    congr 1
    funext d
    exact subC_1 c d
  · rw [if_neg hh]
    simp at hh
    unfold byT
    rw [List.filter_append, List.map_append]
    by_cases ht : t = c.2.1
    · subst ht
      have h1 : l.any (isC c.2.1 c.1) = false := by simpa using hh
      simp [h1]
    · rw [if_neg (by simp [ht])]
      simp [Ne.symm ht]
theorem mem_grant {l : List Cl} {c d : Cl} (h : d ∈ grantR l c) : d = c ∨ (d ∈ l ∧ ¬ (d.1 = c.1 ∧ d.2.1 = c.2.1)) := by
  unfold grantR at h
  split at h
  · obtain ⟨e, he, rfl⟩ := List.mem_map.1 h
    by_cases hi : isC c.2.1 c.1 e = true
    · rw [if_pos hi]; exact .inl rfl
    · rw [if_neg hi]
      refine .inr ⟨he, fun h2 => hi ?_⟩
      simp [isC, h2.1, h2.2]
  · next hh =>
    rcases List.mem_append.1 h with h | h
    · refine .inr ⟨h, fun h2 => hh ?_⟩
      rw [List.any_eq_true]
      exact ⟨d, h, by simp [isC, h2.1, h2.2]⟩
    · exact .inl (by simpa using h)
theorem grant_pw {l : List Cl} (h : l.Pairwise fun a b => ¬ (a.1 = b.1 ∧ a.2.1 = b.2.1)) (c : Cl) : (grantR l c).Pairwise fun a b => ¬ (a.1 = b.1 ∧ a.2.1 = b.2.1) := by
  unfold grantR
  split
  · show (l.map (subC c)).Pairwise _
    rw [List.pairwise_map]
    exact h.imp fun {a b} hab => by rw [subC_1, subC_1, subC_t, subC_t]; exact hab
  · next hh =>
    rw [List.pairwise_append]
    refine ⟨h, by simp, fun a ha b hb => ?_⟩
    simp at hb
    subst hb
    intro h2
    exact hh (List.any_eq_true.2 ⟨a, ha, by simp [isC, h2.1, h2.2]⟩)

/-! ### a wish more -/
def insW (P : Cm → Bool) (c : Cm) : List Cm → List Cm
  | [] => [c]
  | d :: q => if P d then d :: insW P c q else c :: d :: q
theorem insW_idx (P : Cm → Bool) (c : Cm) : ∀ q : List Cm, q.insertIdx (q.takeWhile P).length c = insW P c q
  | [] => rfl
  | d :: q => by
    rw [List.takeWhile_cons, insW]
    by_cases h : P d = true
    · rw [if_pos h, if_pos h, List.length_cons, List.insertIdx_succ_cons, insW_idx P c q]
    · rw [if_neg h, if_neg h]
      rfl
theorem ins_of (held : List Cl) (c : Cl) : ∀ q : List Cl, cms (ofR (insR held c q) c.1) = insW (fun d => heldI (cms (ofR held c.1)) d.1 != 0) c.2 (cms (ofR q c.1))
  | [] => by simp [insR, ofR, cms, insW]
  | d :: q => by
    rw [insR]
    have ih := ins_of held c q
    by_cases hr : d.1 = c.1
    · have e2 : ofR (d :: q) c.1 = d :: ofR q c.1 := by simp [ofR, hr]
      rw [e2]
      show _ = insW _ c.2 (d.2 :: cms (ofR q c.1))
      rw [insW, held_mode]
      by_cases hm : modeR held d.2.1 c.1 = 0
      · rw [if_pos (by simp [hr, hm]), if_neg (by simp [hm])]
        simp [ofR, cms, hr]
      · rw [if_neg (by simp [hm]), if_pos (by simpa using hm), ← ih]
        simp [ofR, cms, hr]
    · rw [if_neg (by simp [hr])]
      have e2 : ofR (d :: q) c.1 = ofR q c.1 := by simp [ofR, hr]
      have e3 : ofR (d :: insR held c q) c.1 = ofR (insR held c q) c.1 := by simp [ofR, hr]
      rw [e2, e3, ih]
theorem ins_other (held : List Cl) {c : Cl} {r : Rs} (h : r ≠ c.1) : ∀ q : List Cl, ofR (insR held c q) r = ofR q r
  | [] => by simp [insR, ofR, Ne.symm h]
  | d :: q => by
    rw [insR]
    split
    · simp [ofR, Ne.symm h]
    · have ih := ins_other held h q
      unfold ofR at ih ⊢
      rw [List.filter_cons, List.filter_cons, ih]
theorem ins_mem (held : List Cl) (c : Cl) : ∀ q : List Cl, (insR held c q).Perm (c :: q)
  | [] => .refl _
  | d :: q => by
    rw [insR]
    split
    · exact .refl _
    · exact ((ins_mem held c q).cons d).trans (.swap _ _ _)
theorem wait_ins (held : List Cl) (c : Cl) (t : Nat) : ∀ q : List Cl, waitR q c.2.1 = none → waitR (insR held c q) t = if t = c.2.1 then some c else waitR q t
  | [], _ => by
    by_cases h : t = c.2.1
    · simp [waitR, insR, h]
    · simp [waitR, insR, h, Ne.symm h]
  | d :: q, hq => by
    have hd : d.2.1 ≠ c.2.1 := by
      intro e
      simp [waitR, e] at hq
    have hq' : waitR q c.2.1 = none := by
      unfold waitR at hq ⊢
      rw [List.find?_cons] at hq
      split at hq
      · cases hq
      · exact hq
    have ih := wait_ins held c t q hq'
    rw [insR]
    split
    · unfold waitR
      rw [List.find?_cons]
      by_cases h : t = c.2.1
      · simp [h]
      · have : (c.2.1 == t) = false := by simp [Ne.symm h]
        rw [this, if_neg h]
    · unfold waitR at ih ⊢
      rw [List.find?_cons, List.find?_cons, ih]
      by_cases h : t = c.2.1
      · have e : (d.2.1 == c.2.1) = false := by simp [hd]
        simp [h, e]
      · rw [if_neg h, if_neg h]
theorem wait_app (c : Cl) (t : Nat) (q : List Cl) (hq : waitR q c.2.1 = none) : waitR (q ++ [c]) t = if t = c.2.1 then some c else waitR q t := by
  unfold waitR at hq ⊢
  rw [List.find?_append]
  by_cases h : t = c.2.1
  · subst h
    rw [hq]
    simp
  · rw [if_neg h]
    have : ([c] : List Cl).find? (fun x => x.2.1 == t) = none := by simp [Ne.symm h]
    rw [this]
    simp
theorem wait_none {q : List Cl} {t : Nat} (h : waitR q t = none) : ∀ c ∈ q, c.2.1 ≠ t := by
  unfold waitR at h
  rw [List.find?_eq_none] at h
  intro c hc
  simpa using h c hc
/-! ### the modes -/
theorem jn_range {a m : Int} (ha : 0 ≤ a ∧ a ≤ 5) (hm : 1 ≤ m ∧ m ≤ 5) : 1 ≤ jn a m ∧ jn a m ≤ 5 := by
  obtain ⟨x, rfl⟩ := as_fin ((right_iff a).2 ha)
  obtain ⟨y, rfl⟩ := as_fin ((right_iff m).2 ⟨by omega, hm.2⟩)
  have : ∀ x y : Fin 6, 1 ≤ (y.val : Int) → 1 ≤ jn (x.val : Int) (y.val : Int) ∧ jn (x.val : Int) (y.val : Int) ≤ 5 := by decide +kernel
  exact this x y hm.1
theorem tog_sym (a b : Int) (ha : 0 ≤ a ∧ a ≤ 5) (hb : 0 ≤ b ∧ b ≤ 5) : tog a b = tog b a := by
  obtain ⟨x, rfl⟩ := as_fin ((right_iff a).2 ha)
  obtain ⟨y, rfl⟩ := as_fin ((right_iff b).2 hb)
  exact f_sym x y
/-- A stronger mode goes with no more than a weaker one. -/
theorem tog_jn {a m x : Int} (ha : 0 ≤ a ∧ a ≤ 5) (hm : 1 ≤ m ∧ m ≤ 5) (hx : 0 ≤ x ∧ x ≤ 5) (h : tog a x = false) : tog (jn a m) x = false := by
  obtain ⟨u, rfl⟩ := as_fin ((right_iff a).2 ha)
  obtain ⟨y, rfl⟩ := as_fin ((right_iff m).2 ⟨by omega, hm.2⟩)
  obtain ⟨v, rfl⟩ := as_fin ((right_iff x).2 hx)
  have : ∀ u y v : Fin 6, tog (u.val : Int) (v.val : Int) = false → tog (jn (u.val : Int) (y.val : Int)) (v.val : Int) = false := by decide +kernel
  exact this u y v h

/-! ### holding -/
theorem at_upd (s : TS) (r : Rs) (v : List Cm × List Cm) : ({ s with th := upd s.th r (some v) } : TS).at r = v := by simp [TS.at, upd_same]
section
variable {s : TS} {u : TR} {r : Rs}
theorem hold_th (s : TS) (r : Rs) (c : Cm) : (holdI s r c).at r = (if hasT (s.at r).1 c.1 then replI c (s.at r).1 else (s.at r).1 ++ [c], (s.at r).2) ∧ ((holdI s r c).th r).isSome = true ∧ (∀ r', r' ≠ r → (holdI s r c).th r' = s.th r') ∧ (holdI s r c).wt = s.wt := by
  unfold holdI
  split
  · next h => exact ⟨by rw [at_upd], by simp [upd_same], fun r' hr => by simp [upd_ne _ _ hr], rfl⟩
  · next h => exact ⟨by simp [TS.at, upd_same], by simp [upd_same], fun r' hr => by simp [upd_ne _ _ hr], rfl⟩
theorem hold_ow (ha : (s.at r).1 = cms (ofR u.held r)) (how : ∀ t, ((s.ow t).getD []).Perm ((byT u.held t).map (·.1))) (c : Cm) (t : Nat) : (((holdI s r c).ow t).getD []).Perm ((byT (grantR u.held (r, c)) t).map (·.1)) := by
  rw [grant_byT]
  have hh : hasT (s.at r).1 c.1 = u.held.any (isC c.1 r) := by rw [ha, has_any]
  unfold holdI
  rw [hh]
  by_cases h : u.held.any (isC c.1 r) = true
  · rw [if_pos h, if_neg (by simp only [h]; simp)]
    exact how t
  · rw [if_neg h]
    have h' : u.held.any (isC c.1 r) = false := by simpa using h
    by_cases ht : t = c.1
    · subst ht
      rw [if_pos ⟨rfl, h'⟩]
      show ((upd s.ow c.1 _ c.1).getD []).Perm _
      rw [upd_same]
      exact (how c.1).append_right [r]
    · rw [if_neg (fun h2 => ht h2.1)]
      show ((upd s.ow c.1 _ t).getD []).Perm _
      rw [upd_ne _ _ ht]
      exact how t
theorem hold_inv (hi : Inv0 u) {c : Cm} (hf : freeR u.held c.1 r c.2 = true) (hm : 1 ≤ c.2 ∧ c.2 ≤ 5) {q : List Cl} (hq : q.Pairwise fun a b => a.2.1 ≠ b.2.1) (hqm : ∀ c ∈ q, 1 ≤ c.2.2 ∧ c.2.2 ≤ 5) : Inv0 ⟨grantR u.held (r, c), q⟩ := by
  have key : ∀ b ∈ u.held, b.1 = r → b.2.1 ≠ c.1 → tog b.2.2 c.2 = true := fun b hb hr ht => by
    have := List.all_eq_true.1 hf b hb
    simpa [hr, ht] using this
  refine ⟨grant_pw hi.uh _, hq, fun d hd => ?_, hqm, fun a ha b hb hr ht => ?_⟩
  · rcases mem_grant hd with rfl | ⟨h, _⟩
    · exact hm
    · exact hi.mh d h
  · rcases mem_grant ha with rfl | ⟨h1, n1⟩ <;> rcases mem_grant hb with rfl | ⟨h2, n2⟩
    · exact absurd rfl ht
    · have hb2 := hi.mh b h2
      rw [tog_sym _ _ (show 0 ≤ c.2 ∧ c.2 ≤ 5 by omega) (by omega)]
      exact key b h2 hr.symm (Ne.symm ht)
    · exact key a h1 hr ht
    · exact hi.tg a h1 b h2 hr ht
theorem grant_at (hi : Inv0 u) (ha : AtR s u r) (c : Cm) : (holdI s r c).at r = (cms (ofR (grantR u.held (r, c)) r), cms (ofR u.queue r)) := by
  rw [(hold_th s r c).1, grant_of hi.uh (r, c), ha]
theorem Rel.queueless (h : Rel s u) (r : Rs) (he : ofR u.held r = []) : ofR u.queue r = [] := by
  cases hq : ofR u.queue r with
  | nil => rfl
  | cons c q =>
    have := h.blk r c.2 (by rw [hq]; rfl)
    rw [he] at this
    simp [admI, cms] at this
theorem head_insW (P : Cm → Bool) (c : Cm) (q : List Cm) : (insW P c q).head? = some c ∨ (insW P c q).head? = q.head? := by
  cases q with
  | nil => exact .inl rfl
  | cons d q =>
    rw [insW]
    split
    · exact .inr rfl
    · exact .inl rfl
theorem hold_ne_nil (l : List Cl) (c : Cl) : (ofR (grantR l c) c.1).isEmpty = false := by
  have : ∃ d, d ∈ ofR (grantR l c) c.1 := by
    unfold grantR
    split
    · next h =>
      obtain ⟨d, hd, hi⟩ := List.any_eq_true.1 h
      exact ⟨c, mem_ofR.2 ⟨List.mem_map.2 ⟨d, hd, by rw [if_pos hi]⟩, rfl⟩⟩
    · exact ⟨c, mem_ofR.2 ⟨by simp, rfl⟩⟩
  obtain ⟨d, hd⟩ := this
  cases hx : ofR (grantR l c) c.1 with
  | nil => rw [hx] at hd; cases hd
  | cons a b => rfl
theorem adm_cons (x : Cm) (h : List Cm) (d : Cm) : admI (x :: h) d = (!hind x d && admI h d) := by simp [admI]
theorem adm_append (a b : List Cm) (d : Cm) : admI (a ++ b) d = (admI a d && admI b d) := by simp [admI]
/-- A stronger hold blocks whom the weaker one blocked. -/
theorem adm_repl {h : List Cm} {c d : Cm} (hu : h.Pairwise fun a b => a.1 ≠ b.1) (hm : ∀ x ∈ h, x.1 = c.1 → tog x.2 d.2 = false → tog c.2 d.2 = false) (hb : admI h d = false) : admI (replI c h) d = false := by
  induction h with
  | nil => exact hb
  | cons x h ih =>
    rw [List.pairwise_cons] at hu
    rw [adm_cons] at hb
    have hb' : hind x d = true ∨ admI h d = false := by
      cases hx : hind x d with
      | true => exact .inl rfl
      | false => rw [hx] at hb; exact .inr (by simpa using hb)
    rw [replI]
    by_cases hc : x.1 = c.1
    · rw [if_pos (by simpa using hc), adm_cons]
      rcases hb' with h1 | h1
      · have : hind c d = true := by
          unfold hind at h1 ⊢
          simp at h1 ⊢
          exact ⟨by rw [← hc]; exact h1.1, hm x (by simp) hc h1.2⟩
        simp [this]
      · simp [h1]
    · rw [if_neg (by simpa using hc), adm_cons]
      rcases hb' with h1 | h1
      · simp [h1]
      · rw [ih hu.2 (fun y hy => hm y (by simp [hy])) h1]
        simp
theorem pw_cms {l : List Cl} (h : l.Pairwise fun a b => a.2.1 ≠ b.2.1) : (cms l).Pairwise fun a b => a.1 ≠ b.1 := by
  unfold cms
  rw [List.pairwise_map]
  exact h
theorem held_of_mem {h : List Cm} (hu : h.Pairwise fun a b => a.1 ≠ b.1) {x : Cm} (hx : x ∈ h) : heldI h x.1 = x.2 := by
  unfold heldI
  induction h with
  | nil => cases hx
  | cons y h ih =>
    rw [List.pairwise_cons] at hu
    rcases List.mem_cons.1 hx with rfl | hx
    · simp
    · have : (y.1 == x.1) = false := by simp [hu.1 x hx]
      rw [List.find?_cons, this]
      exact ih hu.2 hx
theorem lock_rel (h : Rel s u) (t : Nat) (r : Rs) (m : Int) : (lockI s t r m).2 = (lockR u t r m).2 ∧ Rel (lockI s t r m).1 (lockR u t r m).1 := by
  have hat := h.at_ r
  have hH : (s.at r).1 = cms (ofR u.held r) := by rw [hat]
  have hQ : (s.at r).2 = cms (ofR u.queue r) := by rw [hat]
  have hmo : heldI (s.at r).1 t = modeR u.held t r := by rw [hH, held_mode]
  unfold lockI lockR
  by_cases hm : m < 1 ∨ 5 < m
  · rw [if_pos hm, if_pos hm]
    exact ⟨rfl, h⟩
  rw [if_neg hm, if_neg hm]
  by_cases hw : (waitR u.queue t).isSome = true
  · have hw' : (s.wt t).isSome = true := by rw [h.r0.wt]; simpa using hw
    rw [if_pos hw, if_pos hw']
    exact ⟨rfl, h⟩
  have hw' : ¬ (s.wt t).isSome = true := by rw [h.r0.wt]; simpa using hw
  have hwn : waitR u.queue t = none := by simpa using hw
  rw [if_neg hw, if_neg hw', hmo]
  have hmp := mode_pos h.i0.mh t r
  obtain ⟨a, ha⟩ : ∃ a, modeR u.held t r = a := ⟨_, rfl⟩
  rw [ha] at hmo hmp ⊢
  by_cases he : jn a m = a
  · rw [if_pos he, if_pos he.symm]
    exact ⟨rfl, h⟩
  rw [if_neg he, if_neg (show ¬ a = jn a m from fun e => he e.symm)]
  have hj : 1 ≤ jn a m ∧ jn a m ≤ 5 := jn_range (by omega) (by omega)
  obtain ⟨j, hjj⟩ : ∃ j, jn a m = j := ⟨_, rfl⟩
  have hcond : (admI (s.at r).1 (t, jn a m) && (a != 0 || (s.at r).2.isEmpty)) = (freeR u.held t r (jn a m) && (decide (0 < a) || (ofR u.queue r).isEmpty)) := by
    have e1 : (a != 0) = decide (0 < a) := by
      rcases hmp with ⟨h1, _⟩ | ⟨h1, _⟩
      · simp [h1]
      · have h2 : a ≠ 0 := by omega
        have h3 : 0 < a := by omega
        simp [h2, h3]
    have e2 : (cms (ofR u.queue r)).isEmpty = (ofR u.queue r).isEmpty := by
      cases ofR u.queue r <;> rfl
    rw [hH, hQ, adm_free, e1, e2]
  rw [hcond]
  have hpwH := pw_cms (pw_ofR h.i0.uh r)
  by_cases hc : (freeR u.held t r (jn a m) && (decide (0 < a) || (ofR u.queue r).isEmpty)) = true
  · rw [if_pos hc, if_pos hc]
    simp only [Bool.and_eq_true] at hc
    obtain ⟨q1, q2, q3, q4⟩ := hold_th s r (t, jn a m)
    refine ⟨rfl, ⟨⟨hold_ow hH h.r0.ow (t, jn a m), fun t' => by rw [q4]; exact h.r0.wt t'⟩, hold_inv h.i0 hc.1 hj h.i0.uq h.i0.mq, fun r' => ?_, fun r' => ?_, fun r' => ?_⟩⟩
    · by_cases hr : r' = r
      · subst hr
        exact grant_at h.i0 hat (t, jn a m)
      · show TS.at _ r' = _
        unfold TS.at
        rw [q3 r' hr, show ofR (grantR u.held (r, t, jn a m)) r' = ofR u.held r' from grant_other _ hr]
        exact h.at_ r'
    · by_cases hr : r' = r
      · subst hr
        unfold DomR
        rw [q2, show (ofR (grantR u.held (r', t, jn a m)) r').isEmpty = false from hold_ne_nil _ _]
        rfl
      · unfold DomR
        rw [q3 r' hr, show ofR (grantR u.held (r, t, jn a m)) r' = ofR u.held r' from grant_other _ hr]
        exact h.dom r'
    · by_cases hr : r' = r
      · subst hr
        intro c0 h0
        have hb := h.blk r' c0 h0
        show admI (cms (ofR (grantR u.held (r', t, jn a m)) r')) c0 = false
        rw [show cms (ofR (grantR u.held (r', t, jn a m)) r') = _ from grant_of h.i0.uh (r', t, jn a m)]
        have hc0 : 0 ≤ c0.2 ∧ c0.2 ≤ 5 := by
          have := List.mem_of_mem_head? (by rw [h0]; rfl : c0 ∈ (cms (ofR u.queue r')).head?)
          obtain ⟨x, hx, rfl⟩ := List.mem_map.1 this
          have := h.i0.mq x (mem_ofR.1 hx).1
          omega
        split
        · refine adm_repl hpwH (fun x hx hxt htg => ?_) hb
          have hxa : x.2 = a := by
            have h3 := held_of_mem hpwH hx
            simp at hxt
            rw [hxt, ← hH, hmo] at h3
            exact h3.symm
          rw [hxa] at htg
          exact tog_jn (by omega) (by omega) hc0 htg
        · rw [adm_append, hb]
          rfl
      · unfold Blk
        show ∀ c, (cms (ofR u.queue r')).head? = some c → admI (cms (ofR (grantR u.held (r, t, jn a m)) r')) c = false
        rw [show ofR (grantR u.held (r, t, jn a m)) r' = ofR u.held r' from grant_other _ hr]
        exact h.blk r'
  · rw [if_neg hc, if_neg hc]
    have hne : ofR u.held r ≠ [] := fun he0 => by
      have hq0 := h.queueless r he0
      apply hc
      rw [hq0, ← adm_free, he0]
      simp [admI, cms]
    -- the queue behind it
    obtain ⟨q', hq'⟩ : ∃ q', (if 0 < a then insR u.held (r, t, jn a m) u.queue else u.queue ++ [(r, t, jn a m)]) = q' := ⟨_, rfl⟩
    rw [hq']
    have k1 : cms (ofR q' r) = (s.at r).2.insertIdx (placeI (s.at r).1 (s.at r).2 t) (t, jn a m) := by
      rw [← hq', hH, hQ]
      unfold placeI
      rw [held_mode, ha]
      rcases hmp with ⟨h1, _⟩ | ⟨h1, _⟩
      · rw [if_pos h1, if_neg (show ¬ 0 < a by omega), ofR_append, cms_append, List.insertIdx_length_self]
        simp [ofR, cms]
      · rw [if_neg (show ¬ a = 0 by omega), if_pos (show 0 < a by omega), insW_idx]
        exact ins_of u.held (r, t, jn a m) u.queue
    have k2 : ∀ r', r' ≠ r → ofR q' r' = ofR u.queue r' := fun r' hr => by
      rw [← hq']
      split
      · exact ins_other u.held (c := (r, t, jn a m)) hr _
      · rw [ofR_append]
        simp [ofR, Ne.symm hr]
    have k3 : ∀ t', waitR q' t' = if t' = t then some (r, t, jn a m) else waitR u.queue t' := fun t' => by
      rw [← hq']
      split
      · exact wait_ins u.held (r, t, jn a m) t' _ hwn
      · exact wait_app (r, t, jn a m) t' _ hwn
    have k4 : q'.Perm ((r, t, jn a m) :: u.queue) := by
      rw [← hq']
      split
      · exact ins_mem _ _ _
      · exact List.perm_append_comm
    have k5 : ∀ c, (cms (ofR q' r)).head? = some c → admI (cms (ofR u.held r)) c = false := by
      intro c0 h0
      have hor : c0 = (t, jn a m) ∧ (0 < a ∨ ofR u.queue r = []) ∨ (cms (ofR u.queue r)).head? = some c0 := by
        rw [← hq'] at h0
        split at h0
        · next hp =>
          rw [show cms (ofR (insR u.held (r, t, jn a m) u.queue) r) = _ from ins_of u.held (r, t, jn a m) u.queue] at h0
          rcases head_insW (fun d => heldI (cms (ofR u.held r)) d.1 != 0) (t, jn a m) (cms (ofR u.queue r)) with h1 | h1
          · rw [h1] at h0
            exact .inl ⟨(Option.some.inj h0).symm, .inl hp⟩
          · rw [h1] at h0
            exact .inr h0
        · cases hq0 : ofR u.queue r with
          | nil =>
            rw [ofR_append, hq0] at h0
            simp [ofR, cms] at h0
            exact .inl ⟨h0.symm, .inr rfl⟩
          | cons d q =>
            rw [ofR_append, hq0] at h0
            exact .inr (by simpa [cms] using h0)
      rcases hor with ⟨rfl, h1⟩ | h1
      · rw [adm_free]
        cases hf : freeR u.held t r (jn a m) with
        | false => rfl
        | true =>
          exfalso
          apply hc
          rw [hf]
          rcases h1 with h1 | h1
          · simp [h1]
          · simp [h1]
      · exact h.blk r c0 h1
    refine ⟨rfl, ⟨⟨fun t' => h.r0.ow t', fun t' => ?_⟩, ⟨h.i0.uh, ?_, h.i0.mh, ?_, h.i0.tg⟩, fun r' => ?_, fun r' => ?_, fun r' => ?_⟩⟩
    · show upd s.wt t (some r) t' = _
      rw [k3]
      by_cases ht : t' = t
      · subst ht
        rw [upd_same, if_pos rfl]
        rfl
      · rw [upd_ne _ _ ht, if_neg ht]
        exact h.r0.wt t'
    · refine (k4.pairwise_iff (fun {a b} hab => Ne.symm hab)).2 ?_
      rw [List.pairwise_cons]
      exact ⟨fun x hx e => wait_none hwn x hx e.symm, h.i0.uq⟩
    · intro x hx
      rcases List.mem_cons.1 (k4.mem_iff.1 hx) with rfl | hx
      · exact hj
      · exact h.i0.mq x hx
    · by_cases hr : r' = r
      · subst hr
        show (upd s.th r' (some ((s.at r').1, (s.at r').2.insertIdx (placeI (s.at r').1 (s.at r').2 t) (t, jn a m))) r').getD ([], []) = (cms (ofR u.held r'), cms (ofR q' r'))
        rw [upd_same, k1, ← hH]
        rfl
      · unfold AtR TS.at
        simp only [upd_ne _ _ hr]
        rw [k2 r' hr]
        exact h.at_ r'
    · by_cases hr : r' = r
      · subst hr
        unfold DomR
        simp only [upd_same, Option.isSome_some]
        cases hx : ofR u.held r' with
        | nil => exact absurd hx hne
        | cons a b => rfl
      · unfold DomR
        simp only [upd_ne _ _ hr]
        exact h.dom r'
    · by_cases hr : r' = r
      · subst hr
        exact k5
      · unfold Blk
        show ∀ c, (cms (ofR q' r')).head? = some c → _
        rw [k2 r' hr]
        exact h.blk r'
end
/-! ### waking -/
theorem drop_split (r : Rs) : ∀ (q : List Cl) (c : Cl) (q2 : List Cl), ofR q r = c :: q2 → c.1 = r ∧ ∃ a b, q = a ++ c :: b ∧ dropR r q = a ++ b ∧ ∀ x ∈ a, x.1 ≠ r
  | [], _, _, h => by simp [ofR] at h
  | d :: q, c, q2, h => by
    by_cases hd : d.1 = r
    · have h2 : d :: ofR q r = c :: q2 := by rw [← h]; simp [ofR, hd]
      injection h2 with h3 h4
      subst h3
      exact ⟨hd, [], q, rfl, by simp [dropR, hd], fun x hx => by cases hx⟩
    · have h2 : ofR q r = c :: q2 := by rw [← h]; simp [ofR, hd]
      obtain ⟨h3, a, b, rfl, h5, h6⟩ := drop_split r q c q2 h2
      refine ⟨h3, d :: a, b, rfl, ?_, fun x hx => ?_⟩
      · rw [dropR, if_neg (by simpa using hd), h5]
        rfl
      · rcases List.mem_cons.1 hx with rfl | hx
        · exact hd
        · exact h6 x hx
theorem ofR_none {a : List Cl} {r : Rs} (h : ∀ x ∈ a, x.1 ≠ r) : ofR a r = [] := by
  unfold ofR
  rw [List.filter_eq_nil_iff]
  intro x hx
  simpa using h x hx
theorem ofR_cons_ne {c : Cl} {l : List Cl} {r : Rs} (h : c.1 ≠ r) : ofR (c :: l) r = ofR l r := by simp [ofR, h]
theorem ofR_cons_eq {c : Cl} {l : List Cl} {r : Rs} (h : c.1 = r) : ofR (c :: l) r = c :: ofR l r := by simp [ofR, h]
structure DropS (r : Rs) (q : List Cl) (c : Cl) (q2 : List Cl) : Prop where
  cr : c.1 = r
  here : ofR (dropR r q) r = q2
  off : ∀ r', r' ≠ r → ofR (dropR r q) r' = ofR q r'
  wait : ∀ t, waitR (dropR r q) t = if t = c.2.1 then none else waitR q t
  pw : (dropR r q).Pairwise fun a b => a.2.1 ≠ b.2.1
  mem : ∀ x ∈ dropR r q, x ∈ q
theorem drop_s {r : Rs} {q : List Cl} {c : Cl} {q2 : List Cl} (hu : q.Pairwise fun a b => a.2.1 ≠ b.2.1) (h : ofR q r = c :: q2) : DropS r q c q2 := by
  obtain ⟨h3, a, b, rfl, h5, h6⟩ := drop_split r q c q2 h
  rw [List.pairwise_append, List.pairwise_cons] at hu
  obtain ⟨p1, ⟨p2, p3⟩, p4⟩ := hu
  refine ⟨h3, ?_, fun r' hr => ?_, fun t => ?_, ?_, fun x hx => ?_⟩
  · rw [h5, ofR_append, ofR_none h6, List.nil_append]
    rw [ofR_append, ofR_none h6, List.nil_append, ofR_cons_eq h3] at h
    exact (List.cons.inj h).2
  · rw [h5, ofR_append, ofR_append, ofR_cons_ne (by rw [h3]; exact Ne.symm hr)]
  · rw [h5]
    unfold waitR
    rw [List.find?_append, List.find?_append, List.find?_cons]
    by_cases ht : t = c.2.1
    · subst ht
      rw [if_pos rfl]
      have n1 : a.find? (fun x => x.2.1 == c.2.1) = none := by
        rw [List.find?_eq_none]
        intro x hx
        simpa using p4 x hx c (by simp)
      have n2 : b.find? (fun x => x.2.1 == c.2.1) = none := by
        rw [List.find?_eq_none]
        intro x hx
        simpa using Ne.symm (p2 x hx)
      rw [n1, n2]
      rfl
    · rw [if_neg ht]
      have : (c.2.1 == t) = false := by simp [Ne.symm ht]
      rw [this]
  · rw [h5, List.pairwise_append]
    exact ⟨p1, p3, fun x hx y hy => p4 x hx y (by simp [hy])⟩
  · rw [h5] at hx
    rcases List.mem_append.1 hx with hx | hx
    · simp [hx]
    · simp [hx]
theorem notT_none {t : Nat} {l : List Cm} (h : ∀ x ∈ l, x.1 ≠ t) : notT t l = l := by
  unfold notT
  rw [List.filter_eq_self]
  intro x hx
  simpa using h x hx
structure GR (s : TS) (u : TR) (p : TS × List Nat) (v : TR × List Nat) (r : Rs) : Prop where
  who : p.2 = v.2
  r0 : Rel0 p.1 v.1
  i0 : Inv0 v.1
  at_ : AtR p.1 v.1 r
  dom : DomR p.1 v.1 r
  blk : Blk v.1 r
  off : ∀ r', r' ≠ r → p.1.th r' = s.th r' ∧ ofR v.1.held r' = ofR u.held r' ∧ ofR v.1.queue r' = ofR u.queue r'
theorem end_gr {s : TS} {u : TR} {r : Rs} (h0 : Rel0 s u) (hi : Inv0 u) (ha : AtR s u r) (hs : (s.th r).isSome = true) (hb : Blk u r) : GR s u (endI s r, []) (u, []) r := by
  have hH : (s.at r).1 = cms (ofR u.held r) := by rw [ha]
  unfold endI
  by_cases he : (s.at r).1.isEmpty = true
  · rw [if_pos he]
    have hn : ofR u.held r = [] := by
      rw [hH] at he
      cases hx : ofR u.held r with
      | nil => rfl
      | cons a b => rw [hx] at he; cases he
    have hq : ofR u.queue r = [] := by
      cases hx : ofR u.queue r with
      | nil => rfl
      | cons a b =>
        have := hb a.2 (by rw [hx]; rfl)
        rw [hn] at this
        cases this
    refine ⟨rfl, ⟨h0.ow, h0.wt⟩, hi, ?_, ?_, hb, fun r' hr => ⟨upd_ne _ _ hr, rfl, rfl⟩⟩
    · show (upd s.th r none r).getD ([], []) = _
      rw [upd_same, hn, hq]
      rfl
    · show (upd s.th r none r).isSome = _
      rw [upd_same, hn]
      rfl
  · rw [if_neg he]
    refine ⟨rfl, h0, hi, ha, ?_, hb, fun r' hr => ⟨rfl, rfl, rfl⟩⟩
    unfold DomR
    rw [hs]
    rw [hH] at he
    cases hx : ofR u.held r with
    | nil => rw [hx] at he; exact absurd rfl he
    | cons a b => rfl
theorem grant_rel (r : Rs) : ∀ (n : Nat) (s : TS) (u : TR), Rel0 s u → Inv0 u → AtR s u r → (s.th r).isSome = true → (ofR u.queue r).length ≤ n → GR s u (grantI n s r) (wakeL r (ofR u.queue r) u) r
  | 0, s, u, h0, hi, ha, hs, hn => by
    have hq : ofR u.queue r = [] := List.length_eq_zero_iff.1 (by omega)
    rw [hq]
    exact end_gr h0 hi ha hs (fun c hc => by rw [hq] at hc; cases hc)
  | n + 1, s, u, h0, hi, ha, hs, hn => by
    have hH : (s.at r).1 = cms (ofR u.held r) := by rw [ha]
    have hQ : (s.at r).2 = cms (ofR u.queue r) := by rw [ha]
    cases hq : ofR u.queue r with
    | nil =>
      rw [hq] at hQ
      have : grantI (n + 1) s r = (endI s r, []) := by
        rw [grantI, hQ]
        rfl
      rw [this]
      exact end_gr h0 hi ha hs (fun c hc => by rw [hq] at hc; cases hc)
    | cons c q =>
      have D := drop_s hi.uq hq
      have hQ2 : (s.at r).2 = c.2 :: cms q := by rw [hQ, hq]; rfl
      have hadm : admI (s.at r).1 c.2 = freeR u.held c.2.1 r c.2.2 := by rw [hH]; exact adm_free u.held c.2.1 r c.2.2
      have hg : grantI (n + 1) s r = if admI (s.at r).1 c.2 then ((grantI n (stepI s r c.2) r).1, c.2.1 :: (grantI n (stepI s r c.2) r).2) else (endI s r, []) := by
        rw [grantI, hQ2]
      rw [hg, hadm, wakeL]
      by_cases hf : freeR u.held c.2.1 r c.2.2 = true
      · rw [if_pos hf, if_pos hf]
        have hcr : c = (r, c.2) := by rw [← D.cr]
        have hcm := hi.mq c (by have := mem_ofR.1 (show c ∈ ofR u.queue r by rw [hq]; simp); exact this.1)
        have hpq : ∀ x ∈ q, x.2.1 ≠ c.2.1 := by
          have h1 : (ofR u.queue r).Pairwise fun a b => a.2.1 ≠ b.2.1 := hi.uq.sublist List.filter_sublist
          rw [hq, List.pairwise_cons] at h1
          exact fun x hx => Ne.symm (h1.1 x hx)
        have hnt : notT c.2.1 (s.at r).2 = cms q := by
          rw [hQ2]
          have : notT c.2.1 (c.2 :: cms q) = notT c.2.1 (cms q) := by simp [notT]
          rw [this, notT_none]
          intro x hx
          obtain ⟨y, hy, rfl⟩ := List.mem_map.1 hx
          exact hpq y hy
        -- the step
        obtain ⟨s1, hs1⟩ : ∃ s1 : TS, ({ s with th := upd s.th r (some ((s.at r).1, notT c.2.1 (s.at r).2)) } : TS) = s1 := ⟨_, rfl⟩
        have hat1 : s1.at r = (cms (ofR u.held r), cms q) := by rw [← hs1, at_upd, hH, hnt]
        obtain ⟨t1, t2, t3, t4⟩ := hold_th s1 r c.2
        have hst : stepI s r c.2 = { holdI s1 r c.2 with wt := upd s.wt c.2.1 none } := by rw [stepI, hs1]
        have how1 : s1.ow = s.ow := by rw [← hs1]
        have hth1 : ∀ r', r' ≠ r → s1.th r' = s.th r' := fun r' hr => by rw [← hs1]; exact upd_ne _ _ hr
        have u1 : Rel0 (stepI s r c.2) ⟨grantR u.held c, dropR r u.queue⟩ := by
          rw [hst]
          refine ⟨fun t => ?_, fun t => ?_⟩
          · have := hold_ow (s := s1) (u := u) (r := r) (by rw [hat1]) (by rw [how1]; exact h0.ow) c.2 t
            rw [← hcr] at this
            exact this
          · show upd s.wt c.2.1 none t = _
            rw [D.wait]
            by_cases ht : t = c.2.1
            · subst ht
              rw [upd_same, if_pos rfl]
              rfl
            · rw [upd_ne _ _ ht, if_neg ht]
              exact h0.wt t
        have u2 : Inv0 ⟨grantR u.held c, dropR r u.queue⟩ := by
          have := hold_inv hi (c := c.2) (r := r) hf hcm D.pw (fun x hx => hi.mq x (D.mem x hx))
          rw [← hcr] at this
          exact this
        have u3 : AtR (stepI s r c.2) ⟨grantR u.held c, dropR r u.queue⟩ r := by
          rw [hst]
          show (holdI s1 r c.2).at r = _
          have hgo := grant_of hi.uh c
          rw [D.cr] at hgo
          rw [t1, hat1]
          show _ = (cms (ofR (grantR u.held c) r), cms (ofR (dropR r u.queue) r))
          rw [hgo, D.here]
        have u4 : ((stepI s r c.2).th r).isSome = true := by rw [hst]; exact t2
        have ih := grant_rel r n (stepI s r c.2) ⟨grantR u.held c, dropR r u.queue⟩ u1 u2 u3 u4 (by show (ofR (dropR r u.queue) r).length ≤ n; rw [D.here]; rw [hq] at hn; simp at hn; exact hn)
        have hqq : ofR (⟨grantR u.held c, dropR r u.queue⟩ : TR).queue r = q := D.here
        rw [hqq] at ih
        refine ⟨by rw [ih.who], ih.r0, ih.i0, ih.at_, ih.dom, ih.blk, fun r' hr => ?_⟩
        obtain ⟨o1, o2, o3⟩ := ih.off r' hr
        refine ⟨?_, ?_, ?_⟩
        · rw [o1, hst]
          exact (t3 r' hr).trans (hth1 r' hr)
        · rw [o2]
          exact grant_other u.held (c := c) (by rw [D.cr]; exact hr)
        · rw [o3]
          exact D.off r' hr
      · rw [if_neg hf, if_neg hf]
        refine end_gr h0 hi ha hs (fun c0 hc => ?_)
        rw [hq] at hc
        have : c0 = c.2 := by injection hc with hc; exact hc.symm
        rw [this, ← hH, hadm]
        simpa using hf
theorem grantA_rel {s : TS} {u : TR} {r : Rs} (h0 : Rel0 s u) (hi : Inv0 u) (ha : AtR s u r) (hs : (s.th r).isSome = true) : GR s u (grantA s r) (wakeR u r) r := by
  unfold grantA wakeR
  exact grant_rel r _ s u h0 hi ha hs (by rw [ha]; simp [cms])

/-! ### taking a wish back -/
theorem ofR_without (l : List Cl) (t : Nat) (r : Rs) : cms (ofR (withoutR l t) r) = notT t (cms (ofR l r)) := by
  unfold cms ofR withoutR notT
  rw [List.filter_map, List.filter_filter, List.filter_filter]
  congr 1
  congr 1
  funext c
  simp [Bool.and_comm]
theorem wait_without (q : List Cl) (t t' : Nat) : waitR (withoutR q t) t' = if t' = t then none else waitR q t' := by
  unfold waitR withoutR
  rw [List.find?_filter]
  by_cases h : t' = t
  · subst h
    rw [if_pos rfl, List.find?_eq_none]
    intro x _
    simp
  · rw [if_neg h]
    congr 1
    funext c
    by_cases h2 : c.2.1 = t'
    · simp [h2, h]
    · simp [h2]
theorem byT_without_ne {l : List Cl} {t t' : Nat} (h : t' ≠ t) : byT (withoutR l t) t' = byT l t' := by
  unfold byT withoutR
  rw [List.filter_filter]
  congr 1
  funext c
  by_cases h2 : c.2.1 = t'
  · simp [h2, h]
  · simp [h2]
theorem byT_without_eq (l : List Cl) (t : Nat) : byT (withoutR l t) t = [] := by
  unfold byT withoutR
  rw [List.filter_filter, List.filter_eq_nil_iff]
  intro x _
  simp
theorem wait_some {q : List Cl} {t : Nat} {c : Cl} (h : waitR q t = some c) : c ∈ q ∧ c.2.1 = t := ⟨List.mem_of_find?_eq_some h, by simpa using List.find?_some h⟩
/-- In a queue of one wish each, somebody's wish is the one that is found. -/
theorem wait_uniq {q : List Cl} (hu : q.Pairwise fun a b => a.2.1 ≠ b.2.1) {c : Cl} (hc : c ∈ q) : waitR q c.2.1 = some c := by
  unfold waitR
  induction q with
  | nil => cases hc
  | cons d q ih =>
    rw [List.pairwise_cons] at hu
    rw [List.find?_cons]
    rcases List.mem_cons.1 hc with rfl | hc
    · simp
    · have : (d.2.1 == c.2.1) = false := by simp [hu.1 c hc]
      rw [this]
      exact ih hu.2 hc
theorem inv_without {u : TR} (hi : Inv0 u) (t : Nat) : Inv0 ⟨u.held, withoutR u.queue t⟩ :=
  ⟨hi.uh, hi.uq.sublist List.filter_sublist, hi.mh, fun c hc => hi.mq c (List.mem_filter.1 hc).1, hi.tg⟩
theorem cancel_rel {s : TS} {u : TR} (h : Rel s u) (t : Nat) : (cancelI s t).2 = (cancelR u t).2 ∧ Rel (cancelI s t).1 (cancelR u t).1 := by
  unfold cancelI cancelR
  cases hw : waitR u.queue t with
  | none =>
    have : s.wt t = none := by rw [h.r0.wt, hw]; rfl
    rw [this]
    exact ⟨rfl, h⟩
  | some c =>
    have hwt : s.wt t = some c.1 := by rw [h.r0.wt, hw]; rfl
    rw [hwt]
    obtain ⟨hc1, hc2⟩ := wait_some hw
    obtain ⟨r, hr⟩ : ∃ r, c.1 = r := ⟨_, rfl⟩
    have hQ0 : ofR u.queue r ≠ [] := fun e => by
      have : c ∈ ofR u.queue r := mem_ofR.2 ⟨hc1, hr⟩
      rw [e] at this
      cases this
    have hother : ∀ r', r' ≠ r → notT t (cms (ofR u.queue r')) = cms (ofR u.queue r') := fun r' hne => notT_none fun x hx e => by
      obtain ⟨y, hy, rfl⟩ := List.mem_map.1 hx
      obtain ⟨hy1, hy2⟩ := mem_ofR.1 hy
      have h3 := wait_uniq h.i0.uq hy1
      rw [show y.2.1 = t from e, hw] at h3
      exact hne (by rw [← hy2, ← hr, Option.some.inj h3])
    dsimp only
    rw [hr]
    obtain ⟨s1, hs1⟩ : ∃ s1 : TS, ({ s with wt := upd s.wt t none, th := upd s.th r (some ((s.at r).1, notT t (s.at r).2)) } : TS) = s1 := ⟨_, rfl⟩
    rw [hs1]
    have hth : ∀ r', r' ≠ r → s1.th r' = s.th r' := fun r' hne => by rw [← hs1]; exact upd_ne _ _ hne
    have hH : s.at r = _ := h.at_ r
    have G := grantA_rel (s := s1) (u := ⟨u.held, withoutR u.queue t⟩) (r := r)
      ⟨fun t' => by rw [← hs1]; exact h.r0.ow t', fun t' => by
        rw [← hs1]
        show upd s.wt t none t' = _
        rw [wait_without]
        by_cases ht : t' = t
        · subst ht
          rw [upd_same, if_pos rfl]
          rfl
        · rw [upd_ne _ _ ht, if_neg ht]
          exact h.r0.wt t'⟩
      (inv_without h.i0 t)
      (by
        rw [← hs1]
        show (upd s.th r _ r).getD ([], []) = _
        rw [upd_same, hH]
        show (cms (ofR u.held r), notT t (cms (ofR u.queue r))) = (cms (ofR u.held r), cms (ofR (withoutR u.queue t) r))
        rw [ofR_without])
      (by rw [← hs1]; show (upd s.th r _ r).isSome = true; rw [upd_same]; rfl)
    refine ⟨G.who, ⟨G.r0, G.i0, fun r' => ?_, fun r' => ?_, fun r' => ?_⟩⟩
    · by_cases hne : r' = r
      · subst hne; exact G.at_
      · obtain ⟨o1, o2, o3⟩ := G.off r' hne
        unfold AtR TS.at
        rw [o1, o2, o3, hth r' hne]
        show s.at r' = (cms (ofR u.held r'), cms (ofR (withoutR u.queue t) r'))
        rw [ofR_without, hother r' hne]
        exact h.at_ r'
    · by_cases hne : r' = r
      · subst hne; exact G.dom
      · obtain ⟨o1, o2, o3⟩ := G.off r' hne
        unfold DomR
        rw [o1, o2, hth r' hne]
        exact h.dom r'
    · by_cases hne : r' = r
      · subst hne; exact G.blk
      · obtain ⟨o1, o2, o3⟩ := G.off r' hne
        unfold Blk
        rw [o2, o3]
        show ∀ c, (cms (ofR (withoutR u.queue t) r')).head? = some c → _
        rw [ofR_without, hother r' hne]
        exact h.blk r'
/-! ### things in their order -/
theorem ltR_irrefl (a : Rs) : ltR a a = false := by simp [ltR]
theorem ltR_trans {a b c : Rs} (h1 : ltR a b = true) (h2 : ltR b c = true) : ltR a c = true := by
  simp [ltR] at h1 h2 ⊢
  omega
theorem ltR_asymm {a b : Rs} (h1 : ltR a b = true) : ltR b a = false := by
  cases h : ltR b a with
  | false => rfl
  | true => have := ltR_trans h1 h; rw [ltR_irrefl] at this; cases this
theorem ltR_total {a b : Rs} (h : a ≠ b) : ltR a b = true ∨ ltR b a = true := by
  obtain ⟨a1, a2⟩ := a
  obtain ⟨b1, b2⟩ := b
  simp [ltR]
  by_cases h1 : a1 = b1
  · subst h1
    have : a2 ≠ b2 := fun e => h (by rw [e])
    omega
  · omega
theorem putF_true (r : Rs) : ∀ l, putF r true l = l
  | [] => rfl
  | x :: l => by
    rw [putF]
    simp [putF_true r l]
theorem mem_putF (r x : Rs) : ∀ (d : Bool) (l : List Rs), x ∈ putF r d l ↔ x ∈ l ∨ (d = false ∧ x = r)
  | true, l => by simp [putF_true]
  | false, [] => by simp [putF]
  | false, y :: l => by
    rw [putF]
    by_cases hy : y = r
    · subst hy
      simp [putF_true]
      intro h
      exact .inl h
    · have e : (false || y == r) = false := by simp [hy]
      rw [e]
      by_cases hl : ltR r y = true
      · simp [hl, putF_true]
        constructor
        · rintro (h | h | h) <;> simp [h]
        · rintro ((h | h) | h) <;> simp [h]
      · have hl' : ltR r y = false := by simpa using hl
        simp [hl', mem_putF r x false l]
        constructor
        · rintro (h | h | h) <;> simp [h]
        · rintro ((h | h) | h) <;> simp [h]
theorem pw_putF (r : Rs) : ∀ (l : List Rs), (l.Pairwise fun a b => ltR a b = true) → (putF r false l).Pairwise fun a b => ltR a b = true
  | [], _ => by simp [putF]
  | y :: l, h => by
    rw [List.pairwise_cons] at h
    rw [putF]
    by_cases hy : y = r
    · subst hy
      simp [putF_true, h.2]
      exact fun a b => h.1 (a, b)
    · have e : (false || y == r) = false := by simp [hy]
      rw [e]
      by_cases hl : ltR r y = true
      · simp only [hl, Bool.not_false, Bool.and_true, if_true, putF_true]
        rw [List.pairwise_cons, List.pairwise_cons]
        refine ⟨fun z hz => ?_, h⟩
        rcases List.mem_cons.1 hz with rfl | hz
        · exact hl
        · exact ltR_trans hl (h.1 z hz)
      · have hl' : ltR r y = false := by simpa using hl
        simp only [hl', Bool.and_false, Bool.false_eq_true, if_false]
        rw [List.pairwise_cons]
        refine ⟨fun z hz => ?_, pw_putF r l h.2⟩
        rcases (mem_putF r z false l).1 hz with hz | ⟨_, rfl⟩
        · exact h.1 z hz
        · rcases ltR_total hy with h2 | h2
          · exact h2
          · rw [h2] at hl'
            cases hl'
def sortR (l : List Rs) (o : List Rs) : List Rs := l.foldl putR o
theorem sortR_spec : ∀ (l o : List Rs), (o.Pairwise fun a b => ltR a b = true) → ((sortR l o).Pairwise fun a b => ltR a b = true) ∧ ∀ x, x ∈ sortR l o ↔ x ∈ o ∨ x ∈ l
  | [], o, h => ⟨h, fun x => by simp [sortR]⟩
  | r :: l, o, h => by
    have := sortR_spec l (putR o r) (pw_putF r o h)
    refine ⟨this.1, fun x => ?_⟩
    show x ∈ sortR l (putR o r) ↔ _
    rw [this.2, show x ∈ putR o r ↔ _ from mem_putF r x false o]
    simp
    constructor
    · rintro ((h | h) | h) <;> simp [h]
    · rintro (h | h | h) <;> simp [h]
/-- Rising lists of the same things are the same. -/
theorem rising_ext : ∀ (a b : List Rs), (a.Pairwise fun x y => ltR x y = true) → (b.Pairwise fun x y => ltR x y = true) → (∀ x, x ∈ a ↔ x ∈ b) → a = b
  | [], [], _, _, _ => rfl
  | [], y :: b, _, _, h => by have := (h y).2 (by simp); cases this
  | x :: a, [], _, _, h => by have := (h x).1 (by simp); cases this
  | x :: a, y :: b, ha, hb, h => by
    rw [List.pairwise_cons] at ha hb
    have hxy : x = y := by
      rcases List.mem_cons.1 ((h x).1 (by simp)) with e | h1
      · exact e
      · rcases List.mem_cons.1 ((h y).2 (by simp)) with e | h2
        · exact e.symm
        · have := ltR_asymm (hb.1 x h1)
          rw [ha.1 y h2] at this
          cases this
    subst hxy
    congr 1
    refine rising_ext a b ha.2 hb.2 fun z => ⟨fun hz => ?_, fun hz => ?_⟩
    · rcases List.mem_cons.1 ((h z).1 (by simp [hz])) with rfl | h1
      · have := ha.1 z hz
        rw [ltR_irrefl] at this
        cases this
      · exact h1
    · rcases List.mem_cons.1 ((h z).2 (by simp [hz])) with rfl | h1
      · have := hb.1 z hz
        rw [ltR_irrefl] at this
        cases this
      · exact h1
theorem things_sort (u : TR) : thingsR u = sortR ((u.held ++ u.queue).map (·.1)) [] := by
  unfold thingsR sortR
  rw [List.foldl_map]
theorem things_spec (u : TR) : ((thingsR u).Pairwise fun a b => ltR a b = true) ∧ ∀ x, x ∈ thingsR u ↔ ∃ c, (c ∈ u.held ∨ c ∈ u.queue) ∧ c.1 = x := by
  rw [things_sort]
  have := sortR_spec ((u.held ++ u.queue).map (·.1)) [] .nil
  refine ⟨this.1, fun x => ?_⟩
  rw [this.2]
  simp [or_and_right, exists_or]
theorem rising_nodup {l : List Rs} (h : l.Pairwise fun a b => ltR a b = true) : l.Nodup := by
  refine h.imp fun {a b} hab e => ?_
  rw [e, ltR_irrefl] at hab
  cases hab
/-- The keys of the program's map, in their order, are the things. -/
theorem things_rel {s : TS} {u : TR} (h : Rel s u) {l : List Rs} (hl : l.Pairwise fun a b => ltR a b = true) (hm : ∀ r, r ∈ l ↔ (s.th r).isSome = true) : l = thingsR u := by
  obtain ⟨h1, h2⟩ := things_spec u
  refine rising_ext _ _ hl h1 fun x => ?_
  rw [hm, h2, h.dom]
  constructor
  · intro hx
    cases ho : ofR u.held x with
    | nil => rw [ho] at hx; cases hx
    | cons c q =>
      have := mem_ofR.1 (show c ∈ ofR u.held x by rw [ho]; simp)
      exact ⟨c, .inl this.1, this.2⟩
  · rintro ⟨c, hc, hx⟩
    have hne : ofR u.held x ≠ [] := by
      intro e
      rcases hc with hc | hc
      · have : c ∈ ofR u.held x := mem_ofR.2 ⟨hc, hx⟩
        rw [e] at this
        cases this
      · have : c ∈ ofR u.queue x := mem_ofR.2 ⟨hc, hx⟩
        rw [h.queueless x e] at this
        cases this
    cases ho : ofR u.held x with
    | nil => exact absurd ho hne
    | cons a b => rfl

/-! ### releasing -/
theorem free_rel (t : Nat) : ∀ (l : List Rs) (s : TS) (u : TR), l.Nodup → Rel0 s u → Inv0 u → (∀ r, r ∉ l → AtR s u r ∧ DomR s u r ∧ Blk u r) →
    (∀ r, r ∈ l → notT t (s.at r).1 = cms (ofR u.held r) ∧ notT t (s.at r).2 = cms (ofR u.queue r)) → (freeI t l s).2 = (wakes l u).2 ∧ Rel (freeI t l s).1 (wakes l u).1
  | [], s, u, _, h0, hi, ho, _ => ⟨rfl, ⟨h0, hi, fun r => (ho r (by simp)).1, fun r => (ho r (by simp)).2.1, fun r => (ho r (by simp)).2.2⟩⟩
  | r :: l, s, u, hn, h0, hi, ho, hp => by
    rw [List.nodup_cons] at hn
    have hth : ∀ r', r' ≠ r → (dropI s r t).th r' = s.th r' := fun r' hne => upd_ne _ _ hne
    have G := grantA_rel (s := dropI s r t) (u := u) (r := r) ⟨h0.ow, h0.wt⟩ hi
      (by
        show (upd s.th r _ r).getD ([], []) = _
        rw [upd_same]
        exact Prod.ext (hp r (by simp)).1 (hp r (by simp)).2)
      (by show (upd s.th r _ r).isSome = true; rw [upd_same]; rfl)
    have ih := free_rel t l (grantA (dropI s r t) r).1 (wakeR u r).1 hn.2 G.r0 G.i0 (fun r' hr' => by
      by_cases hne : r' = r
      · subst hne
        exact ⟨G.at_, G.dom, G.blk⟩
      · obtain ⟨o1, o2, o3⟩ := G.off r' hne
        obtain ⟨q1, q2, q3⟩ := ho r' (by simp [hne, hr'])
        refine ⟨?_, ?_, ?_⟩
        · unfold AtR TS.at
          rw [o1, o2, o3, hth r' hne]
          exact q1
        · unfold DomR
          rw [o1, o2, hth r' hne]
          exact q2
        · unfold Blk
          rw [o2, o3]
          exact q3) (fun r' hr' => by
      have hne : r' ≠ r := fun e => hn.1 (e ▸ hr')
      obtain ⟨o1, o2, o3⟩ := G.off r' hne
      unfold TS.at
      rw [o1, o2, o3, hth r' hne]
      exact hp r' (by simp [hr']))
    exact ⟨by show _ ++ _ = _ ++ _; rw [G.who, ih.1], ih.2⟩
def releaseI (s : TS) (t : Nat) (l : List Rs) : TS × List Nat := freeI t l { s with ow := upd s.ow t none, wt := upd s.wt t none }
theorem mem_byT {l : List Cl} {t : Nat} {c : Cl} : c ∈ byT l t ↔ c ∈ l ∧ c.2.1 = t := by simp [byT]
theorem mine_spec {s : TS} {u : TR} (h : Rel s u) (t : Nat) : (mineI s t).Nodup ∧ ∀ x, x ∈ mineI s t ↔ ∃ c, (c ∈ byT u.held t ∨ c ∈ byT u.queue t) ∧ c.1 = x := by
  have hp := h.r0.ow t
  have hn : ((byT u.held t).map (·.1)).Nodup := by
    unfold List.Nodup
    rw [List.pairwise_map]
    have h1 : (byT u.held t).Pairwise fun a b => ¬ (a.1 = b.1 ∧ a.2.1 = b.2.1) := h.i0.uh.sublist List.filter_sublist
    exact h1.imp_of_mem fun {a b} ha hb hab e => hab ⟨e, by rw [(mem_byT.1 ha).2, (mem_byT.1 hb).2]⟩
  unfold mineI
  have hm1 : ∀ x, x ∈ (s.ow t).getD [] ↔ ∃ c, c ∈ byT u.held t ∧ c.1 = x := fun x => by
    rw [hp.mem_iff]
    simp
  cases hw : waitR u.queue t with
  | none =>
    have e : s.wt t = none := by rw [h.r0.wt, hw]; rfl
    rw [e]
    refine ⟨by simpa using hp.nodup_iff.2 hn, fun x => ?_⟩
    simp only [List.append_nil]
    rw [hm1]
    constructor
    · rintro ⟨c, hc, hx⟩
      exact ⟨c, .inl hc, hx⟩
    · rintro ⟨c, hc | hc, hx⟩
      · exact ⟨c, hc, hx⟩
      · obtain ⟨h1, h2⟩ := mem_byT.1 hc
        exact absurd h2 (wait_none hw c h1)
  | some d =>
    have e : s.wt t = some d.1 := by rw [h.r0.wt, hw]; rfl
    obtain ⟨hd1, hd2⟩ := wait_some hw
    have hun : ∀ c, c ∈ byT u.queue t → c = d := fun c hc => by
      obtain ⟨h1, h2⟩ := mem_byT.1 hc
      have := wait_uniq h.i0.uq h1
      rw [h2, hw] at this
      exact (Option.some.inj this).symm
    rw [e]
    dsimp only
    have hmo : heldI (s.at d.1).1 t = modeR u.held t d.1 := by rw [h.at_ d.1, held_mode]
    rw [hmo]
    rcases mode_pos h.i0.mh t d.1 with ⟨m1, m2⟩ | ⟨m1, _, m2⟩
    · rw [if_pos m1]
      have hnot : d.1 ∉ (s.ow t).getD [] := fun hx => by
        obtain ⟨c, hc, hcx⟩ := (hm1 d.1).1 hx
        obtain ⟨h1, h2⟩ := mem_byT.1 hc
        have : u.held.any (isC t d.1) = true := List.any_eq_true.2 ⟨c, h1, by simp [isC, h2, hcx]⟩
        rw [m2] at this
        cases this
      refine ⟨?_, fun x => ?_⟩
      · rw [List.nodup_append]
        refine ⟨hp.nodup_iff.2 hn, by simp, fun a ha b hb e => ?_⟩
        simp at hb
        subst e hb
        exact hnot ha
      · rw [List.mem_append, hm1]
        simp only [List.mem_singleton]
        constructor
        · rintro (⟨c, hc, hx⟩ | hx)
          · exact ⟨c, .inl hc, hx⟩
          · exact ⟨d, .inr (mem_byT.2 ⟨hd1, hd2⟩), hx.symm⟩
        · rintro ⟨c, hc | hc, hx⟩
          · exact .inl ⟨c, hc, hx⟩
          · rw [hun c hc] at hx
            exact .inr hx.symm
    · rw [if_neg (by omega)]
      have hin : d.1 ∈ (s.ow t).getD [] := by
        obtain ⟨c, hc, hi⟩ := List.any_eq_true.1 m2
        simp [isC] at hi
        exact (hm1 d.1).2 ⟨c, mem_byT.2 ⟨hc, hi.1⟩, hi.2⟩
      refine ⟨by simpa using hp.nodup_iff.2 hn, fun x => ?_⟩
      simp only [List.append_nil]
      constructor
      · intro hx
        obtain ⟨c, hc, hx⟩ := (hm1 x).1 hx
        exact ⟨c, .inl hc, hx⟩
      · rintro ⟨c, hc | hc, hx⟩
        · exact (hm1 x).2 ⟨c, hc, hx⟩
        · rw [hun c hc] at hx
          rw [← hx]
          exact hin
theorem release_rel {s : TS} {u : TR} (h : Rel s u) (t : Nat) {l : List Rs} (hp : l.Perm (mineI s t)) (hl : l.Pairwise fun a b => ltR b a = false) :
    (releaseI s t l).2 = (releaseR u t).2 ∧ Rel (releaseI s t l).1 (releaseR u t).1 := by
  obtain ⟨hn, hm⟩ := mine_spec h t
  have hnl : l.Nodup := hp.nodup_iff.2 hn
  have hlt : l.Pairwise fun a b => ltR a b = true := (hl.and hnl).imp fun {a b} hab => by
    rcases ltR_total hab.2 with h1 | h1
    · exact h1
    · rw [hab.1] at h1
      cases h1
  obtain ⟨t1, t2⟩ := things_spec ⟨byT u.held t, byT u.queue t⟩
  have hlm : ∀ x, x ∈ l ↔ ∃ c, (c ∈ byT u.held t ∨ c ∈ byT u.queue t) ∧ c.1 = x := fun x => by rw [hp.mem_iff]; exact hm x
  have hle : l = thingsR ⟨byT u.held t, byT u.queue t⟩ := rising_ext _ _ hlt t1 fun x => by rw [hlm, t2]
  unfold releaseI releaseR
  rw [← hle]
  have hfree : ∀ r, r ∉ l → notT t (cms (ofR u.held r)) = cms (ofR u.held r) ∧ notT t (cms (ofR u.queue r)) = cms (ofR u.queue r) := fun r hr => by
    refine ⟨notT_none fun x hx e => ?_, notT_none fun x hx e => ?_⟩
    · obtain ⟨y, hy, rfl⟩ := List.mem_map.1 hx
      obtain ⟨y1, y2⟩ := mem_ofR.1 hy
      exact hr ((hlm r).2 ⟨y, .inl (mem_byT.2 ⟨y1, e⟩), y2⟩)
    · obtain ⟨y, hy, rfl⟩ := List.mem_map.1 hx
      obtain ⟨y1, y2⟩ := mem_ofR.1 hy
      exact hr ((hlm r).2 ⟨y, .inr (mem_byT.2 ⟨y1, e⟩), y2⟩)
  refine free_rel t l _ ⟨withoutR u.held t, withoutR u.queue t⟩ hnl ⟨fun t' => ?_, fun t' => ?_⟩ ⟨h.i0.uh.sublist List.filter_sublist, h.i0.uq.sublist List.filter_sublist, fun c hc => h.i0.mh c (List.mem_filter.1 hc).1, fun c hc => h.i0.mq c (List.mem_filter.1 hc).1, fun a ha b hb => h.i0.tg a (List.mem_filter.1 ha).1 b (List.mem_filter.1 hb).1⟩ (fun r hr => ?_) (fun r hr => ?_)
  · show ((upd s.ow t none t').getD []).Perm ((byT (withoutR u.held t) t').map (·.1))
    by_cases ht : t' = t
    · subst ht
      rw [upd_same, byT_without_eq]
      exact .refl _
    · rw [upd_ne _ _ ht, byT_without_ne ht]
      exact h.r0.ow t'
  · show upd s.wt t none t' = _
    rw [wait_without]
    by_cases ht : t' = t
    · subst ht
      rw [upd_same, if_pos rfl]
      rfl
    · rw [upd_ne _ _ ht, if_neg ht]
      exact h.r0.wt t'
  · obtain ⟨f1, f2⟩ := hfree r hr
    refine ⟨?_, ?_, ?_⟩
    · show s.at r = (cms (ofR (withoutR u.held t) r), cms (ofR (withoutR u.queue t) r))
      rw [ofR_without, ofR_without, f1, f2]
      exact h.at_ r
    · show (s.th r).isSome = !(ofR (withoutR u.held t) r).isEmpty
      have e : (ofR (withoutR u.held t) r).isEmpty = (ofR u.held r).isEmpty := by
        have h1 : (cms (ofR (withoutR u.held t) r)).isEmpty = (cms (ofR u.held r)).isEmpty := by rw [ofR_without, f1]
        have h2 : ∀ l : List Cl, (cms l).isEmpty = l.isEmpty := fun l => by cases l <;> rfl
        rw [h2, h2] at h1
        exact h1
      rw [e]
      exact h.dom r
    · show ∀ c, (cms (ofR (withoutR u.queue t) r)).head? = some c → admI (cms (ofR (withoutR u.held t) r)) c = false
      rw [ofR_without, ofR_without, f1, f2]
      exact h.blk r
  · show notT t (s.at r).1 = cms (ofR (withoutR u.held t) r) ∧ notT t (s.at r).2 = cms (ofR (withoutR u.queue t) r)
    rw [ofR_without, ofR_without, h.at_ r]
    exact ⟨rfl, rfl⟩
/-! ### who blocks whom, and who holds beside whom -/
def blocksR (u : TR) (t o : Nat) : Bool := match waitR u.queue t with
  | none => false
  | some c => if o == t then false else (decide (0 < modeR u.held o c.1) && !tog (modeR u.held o c.1) c.2.2) || (u.queue.takeWhile fun d => d.2.1 != t).any fun d => d.1 == c.1 && d.2.1 == o
/-- Those who hold it otherwise, then those ahead: as the program lists them. -/
def blkI (h q : List Cm) (c : Cm) : List Nat := (h.filter fun x => hind x c).map (·.1) ++ (q.takeWhile fun d => d.1 != c.1).map (·.1)
theorem take_of (t : Nat) (r : Rs) : ∀ (q : List Cl) (c : Cl), waitR q t = some c → c.1 = r → (cms (ofR q r)).takeWhile (fun d => d.1 != t) = cms (ofR (q.takeWhile fun d => d.2.1 != t) r)
  | [], _, h, _ => by simp [waitR] at h
  | d :: q, c, h, hr => by
    by_cases hd : d.2.1 = t
    · have e : c = d := by
        simp [waitR, hd] at h
        exact h.symm
      have hdr : d.1 = r := by rw [← e, hr]
      rw [ofR_cons_eq hdr, List.takeWhile_cons]
      show (d.2 :: cms (ofR q r)).takeWhile (fun d => d.1 != t) = _
      rw [List.takeWhile_cons]
      simp [hd, ofR, cms]
    · have h' : waitR q t = some c := by
        unfold waitR at h ⊢
        rw [List.find?_cons] at h
        have : (d.2.1 == t) = false := by simp [hd]
        rw [this] at h
        exact h
      have ih := take_of t r q c h' hr
      rw [List.takeWhile_cons]
      have e : (d.2.1 != t) = true := by simp [hd]
      rw [if_pos e]
      by_cases hdr : d.1 = r
      · rw [ofR_cons_eq hdr, ofR_cons_eq hdr]
        show (d.2 :: cms (ofR q r)).takeWhile (fun d => d.1 != t) = d.2 :: cms (ofR (q.takeWhile fun d => d.2.1 != t) r)
        rw [List.takeWhile_cons, if_pos e, ih]
      · rw [ofR_cons_ne hdr, ofR_cons_ne hdr, ih]
section
variable {s : TS} {u : TR}
theorem mem_held {h : List Cm} (hu : h.Pairwise fun a b => a.1 ≠ b.1) (hm : ∀ x ∈ h, 1 ≤ x.2) (t : Nat) (x : Cm) (hx : x.1 = t) : x ∈ h ↔ (0 < heldI h t ∧ heldI h t = x.2) := by
  constructor
  · intro h1
    have := held_of_mem hu h1
    rw [hx] at this
    have h2 := hm x h1
    exact ⟨by omega, this⟩
  · rintro ⟨h1, h2⟩
    unfold heldI at h1 h2
    cases hf : h.find? fun c => c.1 == t with
    | none =>
      rw [hf] at h1
      exact absurd h1 (by decide)
    | some y =>
      rw [hf] at h2
      have h3 := List.mem_of_find?_eq_some hf
      have h4 : y.1 = t := by simpa using List.find?_some hf
      have : x = y := Prod.ext (hx.trans h4.symm) h2.symm
      rw [this]
      exact h3
theorem mh_cms (hi : Inv0 u) (r : Rs) : ∀ x ∈ cms (ofR u.held r), 1 ≤ x.2 ∧ x.2 ≤ 5 := fun x hx => by
  obtain ⟨y, hy, rfl⟩ := List.mem_map.1 hx
  exact hi.mh y (mem_ofR.1 hy).1
theorem blk_mem (h : Rel s u) {t : Nat} {c : Cl} (hw : waitR u.queue t = some c) (o : Nat) : o ∈ blkI (s.at c.1).1 (s.at c.1).2 c.2 ↔ blocksR u t o = true := by
  obtain ⟨hc1, hc2⟩ := wait_some hw
  have hpw := pw_cms (pw_ofR h.i0.uh c.1)
  unfold blkI blocksR
  rw [hw, h.at_ c.1]
  dsimp only
  rw [hc2, take_of t c.1 u.queue c hw rfl, List.mem_append]
  have e1 : o ∈ ((cms (ofR u.held c.1)).filter fun x => hind x c.2).map (·.1) ↔ (o ≠ t ∧ 0 < modeR u.held o c.1 ∧ tog (modeR u.held o c.1) c.2.2 = false) := by
    rw [← held_mode]
    constructor
    · intro hx
      obtain ⟨x, hx, hxo⟩ := List.mem_map.1 hx
      obtain ⟨hx1, hx2⟩ := List.mem_filter.1 hx
      have := (mem_held hpw (fun y hy => (mh_cms h.i0 c.1 y hy).1) o x hxo).1 hx1
      simp [hind] at hx2
      rw [this.2]
      refine ⟨fun e => hx2.1 (by rw [hxo, e, hc2]), ?_, hx2.2⟩
      have := this.1
      omega
    · rintro ⟨h1, h2, h3⟩
      refine List.mem_map.2 ⟨(o, heldI (cms (ofR u.held c.1)) o), List.mem_filter.2 ⟨(mem_held hpw (fun y hy => (mh_cms h.i0 c.1 y hy).1) o _ rfl).2 ⟨h2, rfl⟩, ?_⟩, rfl⟩
      simp [hind, h3]
      rw [hc2]
      exact h1
  have e2 : o ∈ (cms (ofR (u.queue.takeWhile fun d => d.2.1 != t) c.1)).map (·.1) ↔ (o ≠ t ∧ ((u.queue.takeWhile fun d => d.2.1 != t).any fun d => d.1 == c.1 && d.2.1 == o) = true) := by
    constructor
    · intro hx
      obtain ⟨x, hx, hxo⟩ := List.mem_map.1 hx
      obtain ⟨y, hy, rfl⟩ := List.mem_map.1 hx
      obtain ⟨hy1, hy2⟩ := mem_ofR.1 hy
      have h3 : y.2.1 ≠ t := by
        have := List.all_eq_true.1 (List.all_takeWhile (p := fun d : Cl => d.2.1 != t) (l := u.queue)) y hy1
        simpa using this
      refine ⟨fun e => h3 (hxo.trans e), List.any_eq_true.2 ⟨y, hy1, ?_⟩⟩
      simp [hy2]
      exact hxo
    · rintro ⟨_, hx⟩
      obtain ⟨y, hy, hyo⟩ := List.any_eq_true.1 hx
      simp at hyo
      exact List.mem_map.2 ⟨y.2, List.mem_map.2 ⟨y, mem_ofR.2 ⟨hy, hyo.1⟩, rfl⟩, hyo.2⟩
  rw [e1, e2]
  by_cases ho : o = t
  · simp [ho]
  · have : (o == t) = false := by simp [ho]
    rw [this]
    simp [ho]
theorem blk_ne (h : Rel s u) {t : Nat} {c : Cl} (hw : waitR u.queue t = some c) : blkI (s.at c.1).1 (s.at c.1).2 c.2 ≠ [] := by
  obtain ⟨hc1, hc2⟩ := wait_some hw
  rw [h.at_ c.1]
  unfold blkI
  intro he
  obtain ⟨h1, h2⟩ := List.append_eq_nil_iff.1 he
  have hin : c ∈ ofR u.queue c.1 := mem_ofR.2 ⟨hc1, rfl⟩
  cases hq : ofR u.queue c.1 with
  | nil => rw [hq] at hin; cases hin
  | cons d q =>
    rw [hq] at h2
    have h2' : (d.2 :: cms q).takeWhile (fun x => x.1 != c.2.1) = [] := List.map_eq_nil_iff.1 h2
    rw [List.takeWhile_cons] at h2'
    have hd : d.2.1 = c.2.1 := by
      by_cases e : d.2.1 = c.2.1
      · exact e
      · rw [if_pos (by simp [e])] at h2'
        cases h2'
    have hdc : d = c := by
      have hdin : d ∈ ofR u.queue c.1 := by rw [hq]; simp
      have := wait_uniq h.i0.uq (mem_ofR.1 hdin).1
      rw [hd, hc2, hw] at this
      exact (Option.some.inj this).symm
    have hb := h.blk c.1 d.2 (by rw [hq]; rfl)
    rw [hdc] at hb
    have : admI (cms (ofR u.held c.1)) c.2 = true := by
      unfold admI
      have hf : (cms (ofR u.held c.1)).filter (fun x => hind x c.2) = [] := List.map_eq_nil_iff.1 h1
      rw [List.filter_eq_nil_iff] at hf
      have : ((cms (ofR u.held c.1)).any fun x => hind x c.2) = false := by
        rw [List.any_eq_false]
        exact hf
      rw [this]
      rfl
    have hb' : admI (cms (ofR u.held c.1)) c.2 = false := hb
    rw [this] at hb'
    cases hb'
/-- Who holds a thing beside somebody goes with them, and is not they. -/
theorem safe_pair (h : Rel s u) (r : Rs) (i k : Nat) (hi : i < (s.at r).1.length) (hk : k < i) : (s.at r).1[i].1 ≠ ((s.at r).1[k]'(by omega)).1 ∧ tog (s.at r).1[i].2 ((s.at r).1[k]'(by omega)).2 = true := by
  have hpw := pw_cms (pw_ofR h.i0.uh r)
  have hH : (s.at r).1 = cms (ofR u.held r) := by rw [h.at_ r]
  rw [← hH] at hpw
  have hne := List.pairwise_iff_getElem.1 hpw k i (by omega) hi hk
  refine ⟨Ne.symm hne, ?_⟩
  have m1 : (s.at r).1[i] ∈ cms (ofR u.held r) := by rw [← hH]; exact List.getElem_mem _
  have m2 : (s.at r).1[k] ∈ cms (ofR u.held r) := by rw [← hH]; exact List.getElem_mem _
  obtain ⟨a, ha, ea⟩ := List.mem_map.1 m1
  obtain ⟨b, hb, eb⟩ := List.mem_map.1 m2
  obtain ⟨ha1, ha2⟩ := mem_ofR.1 ha
  obtain ⟨hb1, hb2⟩ := mem_ofR.1 hb
  have := h.i0.tg a ha1 b hb1 (ha2.trans hb2.symm) (by rw [ea, eb]; exact Ne.symm hne)
  rw [ea, eb] at this
  exact this
theorem safe_first (h : Rel s u) (r : Rs) (c : Cm) (hq : (s.at r).2.head? = some c) : ∃ x ∈ (s.at r).1, hind x c = true := by
  have h1 := h.blk r c (by rw [← hq, h.at_ r])
  rw [show cms (ofR u.held r) = (s.at r).1 by rw [h.at_ r]] at h1
  unfold admI at h1
  simp only [Bool.not_eq_false'] at h1
  obtain ⟨x, hx, hh⟩ := List.any_eq_true.1 h1
  exact ⟨x, hx, hh⟩
theorem safe_held (h : Rel s u) (r : Rs) (hr : (s.th r).isSome = true) : (s.at r).1 ≠ [] := by
  have := h.dom r
  unfold DomR at this
  rw [hr] at this
  rw [h.at_ r]
  intro e
  have h2 : cms (ofR u.held r) = [] := e
  cases ho : ofR u.held r with
  | nil => rw [ho] at this; cases this
  | cons a b => rw [ho] at h2; cases h2
/-- How many claims there are. -/
theorem grant_len (l : List Cl) (c : Cl) : (grantR l c).length ≤ l.length + 1 := by
  unfold grantR
  split
  · simp
  · simp
theorem drop_len (r : Rs) : ∀ q : List Cl, (dropR r q).length + 1 = q.length ∨ (dropR r q).length = q.length
  | [] => .inr rfl
  | c :: q => by
    rw [dropR]
    split
    · exact .inl rfl
    · have := drop_len r q
      simp
      omega
end
end Go.Proofs.YthbifccankfngaaGreatDoor

/-
  The walks of package mode and of the reference of layer 10: each returns what the plain functions say, and writes nothing.
  Conditions: the tables lie in their variables.
-/

namespace Go.Proofs.YthbifccankfngaaGreatDoor
open Go.RowKit

/-- It returns v, and nothing is written (orders may have been drawn). -/
def RD (w : World) (v : Value) (e : Ending) (w' : World) : Prop := e = .returned v ∧ ∃ n, w' = w.drewN n
theorem RD.same (w : World) (v : Value) : RD w v (.returned v) w := ⟨rfl, 0, rfl⟩

theorem right_any (m : Int) (w : World) : Calls Tryz.prog 79 #[.int .i64 m] w fun e w' => e = .returned (.bool (right m)) ∧ w = w' := by
  by_cases h0 : 0 ≤ m
  · have d0 : decide (0 ≤ m) = true := by simp [h0]
    go_enter Tryz.func79, Tryz.ntmps79
    go_wp2_with fail
    go_ret
    exact ⟨by simp [right, d0], rfl⟩
  · have d0 : decide (0 ≤ m) = false := by simp [h0]
    go_enter Tryz.func79, Tryz.ntmps79
    go_wp2_with fail
    go_ret
    exact ⟨by simp [right, d0], rfl⟩
theorem refRight_any (m : Int) (w : World) : Calls Tryz.prog 61 #[.int .i64 m] w fun e w' => e = .returned (.bool (right m)) ∧ w = w' := by
  by_cases h0 : 0 ≤ m
  · have d0 : decide (0 ≤ m) = true := by simp [h0]
    go_enter Tryz.func61, Tryz.ntmps61
    go_wp2_with fail
    go_ret
    exact ⟨by simp [right, d0], rfl⟩
  · have d0 : decide (0 ≤ m) = false := by simp [h0]
    go_enter Tryz.func61, Tryz.ntmps61
    go_wp2_with fail
    go_ret
    exact ⟨by simp [right, d0], rfl⟩
theorem right_is {m : Int} {b : Bool} (h : right m = b) (w : World) : Calls Tryz.prog 79 #[.int .i64 m] w fun e w' => e = .returned (.bool b) ∧ w = w' := by
  rw [← h]; exact right_any m w
theorem refRight_is {m : Int} {b : Bool} (h : right m = b) (w : World) : Calls Tryz.prog 61 #[.int .i64 m] w fun e w' => e = .returned (.bool b) ∧ w = w' := by
  rw [← h]; exact refRight_any m w

theorem writes_at (u : Fin 6) (w : World) : Calls Tryz.prog 62 #[.int .i64 (u.val : Int)] w fun e w' => e = .returned (.int .i64 (wrN u.val)) ∧ w = w' := by
  match u with
  | 0 | 1 | 2 | 3 | 4 | 5 =>
    go_enter Tryz.func62, Tryz.ntmps62
    go_wp2_with fail
    go_ret
    exact ⟨rfl, rfl⟩
theorem reads_at (u : Fin 6) (w : World) : Calls Tryz.prog 63 #[.int .i64 (u.val : Int)] w fun e w' => e = .returned (.int .i64 (rdN u.val)) ∧ w = w' := by
  match u with
  | 0 | 1 | 2 | 3 | 4 | 5 =>
    go_enter Tryz.func63, Tryz.ntmps63
    go_wp2_with fail
    go_ret
    exact ⟨rfl, rfl⟩

theorem tog_any (a b : Int) (w : World) (hT : Tab w) : Calls Tryz.prog 65 #[.int .i64 a, .int .i64 b] w fun e w' => e = .returned (.bool (tog a b)) ∧ w = w' := by
  cases ha : right a
  · have hs : tog a b = false := by simp [tog, ha]
    rw [hs]
    clear hs hT
    have HA := Lib.hid ha
    clear ha
    go_enter Tryz.func65, Tryz.ntmps65
    go_wp2_with fail
    refine (right_is HA.out _).mono ?_
    rintro e w' ⟨rfl, rfl⟩
    go_wp2_with fail
    go_ret
    exact ⟨rfl, rfl⟩
  cases hb : right b
  · have hs : tog a b = false := by simp [tog, hb]
    rw [hs]
    clear hs hT
    have HA := Lib.hid ha
    have HB := Lib.hid hb
    clear ha hb
    go_enter Tryz.func65, Tryz.ntmps65
    go_wp2_with fail
    refine (right_is HA.out _).mono ?_
    rintro e w' ⟨rfl, rfl⟩
    go_wp2_with fail
    refine (right_is HB.out _).mono ?_
    rintro e w' ⟨rfl, rfl⟩
    go_wp2_with fail
    go_ret
    exact ⟨rfl, rfl⟩
  obtain ⟨u, rfl⟩ := as_fin ha
  obtain ⟨v, rfl⟩ := as_fin hb
  have hs : tog (u.val : Int) (v.val : Int) = cmp u.val v.val := by simp [tog, ha, hb]
  have hc := hT.comp u.val v.val u.isLt v.isLt
  have hu := u.isLt
  have hv := v.isLt
  rw [hs]
  clear hs hT
  have HA := Lib.hid ha
  have HB := Lib.hid hb
  clear ha hb
  generalize u.val = i at *
  generalize v.val = j at *
  generalize cmp i j = r at *
  go_enter Tryz.func65, Tryz.ntmps65
  go_wp2_with fail
  refine (right_is HA.out _).mono ?_
  rintro e w' ⟨rfl, rfl⟩
  go_wp2_with fail
  refine (right_is HB.out _).mono ?_
  rintro e w' ⟨rfl, rfl⟩
  go_wp2_with fail
  go_ret
  exact ⟨rfl, rfl⟩

set_option maxHeartbeats 1000000 in
theorem cov_any (a b : Int) (w : World) (hT : Tab w) : Calls Tryz.prog 68 #[.int .i64 a, .int .i64 b] w (RD w (.bool (cov a b))) := by
  cases ha : right a
  · have hs : cov a b = false := by simp [cov, ha]
    rw [hs]
    clear hs hT
    have HA := Lib.hid ha
    clear ha
    go_enter Tryz.func68, Tryz.ntmps68
    go_wp2_with fail
    refine (right_is HA.out _).mono ?_
    rintro e w' ⟨rfl, rfl⟩
    go_wp2_with fail
    go_ret
    exact RD.same _ _
  cases hb : right b
  · have hs : cov a b = false := by simp [cov, hb]
    rw [hs]
    clear hs hT
    have HA := Lib.hid ha
    have HB := Lib.hid hb
    clear ha hb
    go_enter Tryz.func68, Tryz.ntmps68
    go_wp2_with fail
    refine (right_is HA.out _).mono ?_
    rintro e w' ⟨rfl, rfl⟩
    go_wp2_with fail
    refine (right_is HB.out _).mono ?_
    rintro e w' ⟨rfl, rfl⟩
    go_wp2_with fail
    go_ret
    exact RD.same _ _
  obtain ⟨u, rfl⟩ := as_fin ha
  obtain ⟨v, rfl⟩ := as_fin hb
  have hs : cov (u.val : Int) (v.val : Int) = (decide (rdN v.val ≤ rdN u.val) && decide (wrN v.val ≤ wrN u.val)) := by simp [cov, ha, hb]
  have hc1 := hT.rd u.val u.isLt
  have hc2 := hT.rd v.val v.isLt
  have hc3 := hT.wr u.val u.isLt
  have hc4 := hT.wr v.val v.isLt
  have hu := u.isLt
  have hv := v.isLt
  rw [hs]
  clear hs hT
  have HA := Lib.hid ha
  have HB := Lib.hid hb
  clear ha hb
  generalize u.val = i at *
  generalize v.val = j at *
  generalize rdN i = x1 at *
  generalize rdN j = x2 at *
  generalize wrN i = x3 at *
  generalize wrN j = x4 at *
  by_cases h1 : x2 ≤ x1
  · have d1 : decide (x2 ≤ x1) = true := by simp [h1]
    go_enter Tryz.func68, Tryz.ntmps68
    go_wp2_with fail
    refine (right_is HA.out _).mono ?_
    rintro e w' ⟨rfl, rfl⟩
    go_wp2_with fail
    refine (right_is HB.out _).mono ?_
    rintro e w' ⟨rfl, rfl⟩
    go_upto_region 3 with fail
    go_quiet (fail)
    go_wp2_with fail
    go_ret
    exact ⟨by simp [d1], _, rfl⟩
  · have d1 : decide (x2 ≤ x1) = false := by simp [h1]
    go_enter Tryz.func68, Tryz.ntmps68
    go_wp2_with fail
    refine (right_is HA.out _).mono ?_
    rintro e w' ⟨rfl, rfl⟩
    go_wp2_with fail
    refine (right_is HB.out _).mono ?_
    rintro e w' ⟨rfl, rfl⟩
    go_upto_region 3 with fail
    go_quiet (fail)
    go_wp2_with fail
    go_ret
    exact ⟨by simp [d1], _, rfl⟩
end Go.Proofs.YthbifccankfngaaGreatDoor

/-
  The walks of Join, of the reference's Together, Covers and Join, and of works.
  Conditions: the tables lie in their variables.
-/

namespace Go.Proofs.YthbifccankfngaaGreatDoor
open Go.RowKit

theorem cov_is {a b : Int} {r : Bool} (h : cov a b = r) (w : World) (hT : Tab w) : Calls Tryz.prog 68 #[.int .i64 a, .int .i64 b] w (RD w (.bool r)) := by
  rw [← h]; exact cov_any a b w hT
theorem tog_is {a b : Int} {r : Bool} (h : tog a b = r) (w : World) (hT : Tab w) : Calls Tryz.prog 65 #[.int .i64 a, .int .i64 b] w fun e w' => e = .returned (.bool r) ∧ w = w' := by
  rw [← h]; exact tog_any a b w hT
theorem jnF_yes {a b : Int} {n k : Nat} (h1 : cov (k : Int) a = true) (h2 : cov (k : Int) b = true) : jnF a b (n + 1) k = (k : Int) := by simp [jnF, h1, h2]
theorem jnF_no {a b : Int} {n k : Nat} (h : ¬ (cov (k : Int) a = true ∧ cov (k : Int) b = true)) : jnF a b (n + 1) k = jnF a b n (k + 1) := by rw [jnF, if_neg h]

set_option maxHeartbeats 1000000 in
theorem jn_any (a b : Int) (w : World) (hT : Tab w) : Calls Tryz.prog 42 #[.int .i64 a, .int .i64 b] w (RD w (.int .i64 (jn a b))) := by
  have HT := Lib.hid hT
  clear hT
  have HJ : Hid (jn a b = jnF a b 6 0) := rfl
  generalize jn a b = J at *
  go_enter Tryz.func42, Tryz.ntmps42
  go_wp2_with fail
  go_loopw [6] (fun v wr => ∃ k m : Nat, k ≤ 6 ∧ v = .int .i64 (k : Int) ∧ Hid (J = jnF a b (6 - k) k) ∧ wr = w.drewN m) (fun v _ => 6 - (intOf v).toNat)
  case atStart => exact ⟨0, 0, by omega, rfl, HJ, rfl⟩
  case round =>
    clear HJ
    obtain ⟨k, m, hk, rfl, HJ, rfl⟩ := hrel
    by_cases hlt : k < 6
    · obtain ⟨n, hn⟩ : ∃ n, 6 - k = n + 1 := ⟨5 - k, by omega⟩
      have hn' : 6 - (k + 1) = n := by omega
      have HTm := Lib.hid (HT.out.drewN m)
      cases h1 : cov (k : Int) a
      · have h2 := Lib.hid (jnF_no (n := n) (a := a) (b := b) (k := k) (by rw [h1]; simp))
        have H1 := Lib.hid h1
        have HN := Lib.hid hn
        have HN' := Lib.hid hn'
        clear h1 hn hn'
        go_wp2_with fail
        refine (cov_is H1.out _ HTm.out).mono ?_
        rintro e w' ⟨rfl, n1, rfl⟩
        go_wp2_with fail
        refine ⟨⟨k + 1, m + n1, by omega, by go_num, ?_, by simp⟩, by simp [intOf]; omega⟩
        show J = _
        rw [HJ.out, HN.out, h2.out, HN'.out]
      · cases h3 : cov (k : Int) b
        · have h2 := Lib.hid (jnF_no (n := n) (a := a) (b := b) (k := k) (by rw [h3]; simp))
          have H1 := Lib.hid h1
          have H3 := Lib.hid h3
          have HN := Lib.hid hn
          have HN' := Lib.hid hn'
          clear h1 h3 hn hn'
          go_wp2_with fail
          refine (cov_is H1.out _ HTm.out).mono ?_
          rintro e w' ⟨rfl, n1, rfl⟩
          have HTn := Lib.hid (HTm.out.drewN n1)
          go_wp2_with fail
          refine (cov_is H3.out _ (HT.out.drewN _)).mono ?_
          rintro e w' ⟨rfl, n2, rfl⟩
          go_wp2_with fail
          refine ⟨⟨k + 1, m + n1 + n2, by omega, by go_num, ?_, by simp⟩, by simp [intOf]; omega⟩
          show J = _
          rw [HJ.out, HN.out, h2.out, HN'.out]
        · have h2 := Lib.hid (jnF_yes (n := n) h1 h3)
          have H1 := Lib.hid h1
          have H3 := Lib.hid h3
          have HN := Lib.hid hn
          clear h1 h3 hn hn'
          go_wp2_with fail
          refine (cov_is H1.out _ HTm.out).mono ?_
          rintro e w' ⟨rfl, n1, rfl⟩
          go_wp2_with fail
          refine (cov_is H3.out _ (HT.out.drewN _)).mono ?_
          rintro e w' ⟨rfl, n2, rfl⟩
          go_wp2_with fail
          go_ret
          refine ⟨?_, _, rfl⟩
          rw [HJ.out, HN.out, h2.out]
          rfl
    · obtain rfl : k = 6 := by omega
      go_wp2_with fail
      go_ret
      exact ⟨by rw [HJ.out]; rfl, _, rfl⟩

set_option maxHeartbeats 1000000 in
theorem refCov_any (a b : Int) (w : World) : Calls Tryz.prog 76 #[.int .i64 a, .int .i64 b] w fun e w' => e = .returned (.bool (cov a b)) ∧ w = w' := by
  cases ha : right a
  · have hs : cov a b = false := by simp [cov, ha]
    rw [hs]
    clear hs
    have HA := Lib.hid ha
    clear ha
    go_enter Tryz.func76, Tryz.ntmps76
    go_wp2_with fail
    refine (refRight_is HA.out _).mono ?_
    rintro e w' ⟨rfl, rfl⟩
    go_wp2_with fail
    go_ret
    exact ⟨rfl, rfl⟩
  cases hb : right b
  · have hs : cov a b = false := by simp [cov, hb]
    rw [hs]
    clear hs
    have HA := Lib.hid ha
    have HB := Lib.hid hb
    clear ha hb
    go_enter Tryz.func76, Tryz.ntmps76
    go_wp2_with fail
    refine (refRight_is HA.out _).mono ?_
    rintro e w' ⟨rfl, rfl⟩
    go_wp2_with fail
    refine (refRight_is HB.out _).mono ?_
    rintro e w' ⟨rfl, rfl⟩
    go_wp2_with fail
    go_ret
    exact ⟨rfl, rfl⟩
  obtain ⟨u, rfl⟩ := as_fin ha
  obtain ⟨v, rfl⟩ := as_fin hb
  have hs : cov (u.val : Int) (v.val : Int) = (decide (rdN v.val ≤ rdN u.val) && decide (wrN v.val ≤ wrN u.val)) := by simp [cov, ha, hb]
  rw [hs]
  clear hs
  have HA := Lib.hid ha
  have HB := Lib.hid hb
  clear ha hb
  have R1 := Lib.hid (reads_at u w)
  have R2 := Lib.hid (reads_at v w)
  have R3 := Lib.hid (writes_at u w)
  have R4 := Lib.hid (writes_at v w)
  generalize u.val = i at *
  generalize v.val = j at *
  generalize rdN i = x1 at *
  generalize rdN j = x2 at *
  generalize wrN i = x3 at *
  generalize wrN j = x4 at *
  by_cases h1 : x2 ≤ x1
  · have d1 : decide (x2 ≤ x1) = true := by simp [h1]
    go_enter Tryz.func76, Tryz.ntmps76
    go_wp2_with fail
    refine (refRight_is HA.out _).mono ?_
    rintro e w' ⟨rfl, rfl⟩
    go_wp2_with fail
    refine (refRight_is HB.out _).mono ?_
    rintro e w' ⟨rfl, rfl⟩
    go_wp2_with fail
    refine R1.out.mono ?_
    rintro e w' ⟨rfl, rfl⟩
    go_wp2_with fail
    refine R2.out.mono ?_
    rintro e w' ⟨rfl, rfl⟩
    go_wp2_with fail
    refine R3.out.mono ?_
    rintro e w' ⟨rfl, rfl⟩
    go_wp2_with fail
    refine R4.out.mono ?_
    rintro e w' ⟨rfl, rfl⟩
    go_wp2_with fail
    go_ret
    exact ⟨by simp [d1], rfl⟩
  · have d1 : decide (x2 ≤ x1) = false := by simp [h1]
    go_enter Tryz.func76, Tryz.ntmps76
    go_wp2_with fail
    refine (refRight_is HA.out _).mono ?_
    rintro e w' ⟨rfl, rfl⟩
    go_wp2_with fail
    refine (refRight_is HB.out _).mono ?_
    rintro e w' ⟨rfl, rfl⟩
    go_wp2_with fail
    refine R1.out.mono ?_
    rintro e w' ⟨rfl, rfl⟩
    go_wp2_with fail
    refine R2.out.mono ?_
    rintro e w' ⟨rfl, rfl⟩
    go_wp2_with fail
    go_ret
    exact ⟨by simp [d1], rfl⟩
theorem refCov_is {a b : Int} {r : Bool} (h : cov a b = r) (w : World) : Calls Tryz.prog 76 #[.int .i64 a, .int .i64 b] w fun e w' => e = .returned (.bool r) ∧ w = w' := by
  rw [← h]; exact refCov_any a b w

set_option maxHeartbeats 1000000 in
theorem refJn_any (a b : Int) (w : World) : Calls Tryz.prog 53 #[.int .i64 a, .int .i64 b] w fun e w' => e = .returned (.int .i64 (jn a b)) ∧ w = w' := by
  have HJ : Hid (jn a b = jnF a b 6 0) := rfl
  generalize jn a b = J at *
  go_enter Tryz.func53, Tryz.ntmps53
  go_wp2_with fail
  go_loop [5] (fun v => ∃ k : Nat, k ≤ 6 ∧ v = .int .i64 (k : Int) ∧ Hid (J = jnF a b (6 - k) k)) (fun v => 6 - (intOf v).toNat)
  case atStart => exact ⟨0, by omega, rfl, HJ⟩
  case round =>
    clear HJ
    obtain ⟨k, hk, rfl, HJ⟩ := hrel
    by_cases hlt : k < 6
    · obtain ⟨n, hn⟩ : ∃ n, 6 - k = n + 1 := ⟨5 - k, by omega⟩
      have hn' : 6 - (k + 1) = n := by omega
      cases h1 : cov (k : Int) a
      · have h2 := Lib.hid (jnF_no (n := n) (a := a) (b := b) (k := k) (by rw [h1]; simp))
        have H1 := Lib.hid h1
        have HN := Lib.hid hn
        have HN' := Lib.hid hn'
        clear h1 hn hn'
        go_wp2_with fail
        refine (refCov_is H1.out _).mono ?_
        rintro e w' ⟨rfl, rfl⟩
        go_wp2_with fail
        refine ⟨⟨k + 1, by omega, by go_num, ?_⟩, by simp [intOf]; omega⟩
        show J = _
        rw [HJ.out, HN.out, h2.out, HN'.out]
      · cases h3 : cov (k : Int) b
        · have h2 := Lib.hid (jnF_no (n := n) (a := a) (b := b) (k := k) (by rw [h3]; simp))
          have H1 := Lib.hid h1
          have H3 := Lib.hid h3
          have HN := Lib.hid hn
          have HN' := Lib.hid hn'
          clear h1 h3 hn hn'
          go_wp2_with fail
          refine (refCov_is H1.out _).mono ?_
          rintro e w' ⟨rfl, rfl⟩
          go_wp2_with fail
          refine (refCov_is H3.out _).mono ?_
          rintro e w' ⟨rfl, rfl⟩
          go_wp2_with fail
          refine ⟨⟨k + 1, by omega, by go_num, ?_⟩, by simp [intOf]; omega⟩
          show J = _
          rw [HJ.out, HN.out, h2.out, HN'.out]
        · have h2 := Lib.hid (jnF_yes (n := n) h1 h3)
          have H1 := Lib.hid h1
          have H3 := Lib.hid h3
          have HN := Lib.hid hn
          clear h1 h3 hn hn'
          go_wp2_with fail
          refine (refCov_is H1.out _).mono ?_
          rintro e w' ⟨rfl, rfl⟩
          go_wp2_with fail
          refine (refCov_is H3.out _).mono ?_
          rintro e w' ⟨rfl, rfl⟩
          go_wp2_with fail
          go_ret
          refine ⟨?_, rfl⟩
          rw [HJ.out, HN.out, h2.out]
          rfl
    · obtain rfl : k = 6 := by omega
      go_wp2_with fail
      go_ret
      exact ⟨by rw [HJ.out]; rfl, rfl⟩
end Go.Proofs.YthbifccankfngaaGreatDoor
