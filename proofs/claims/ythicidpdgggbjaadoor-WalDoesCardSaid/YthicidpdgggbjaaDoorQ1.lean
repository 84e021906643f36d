/- Texts behind one another: PBase PM Base Math Crc CrcI RefSum Eff Go Put WGet WPut2 WPut3 WText WRead WField WReader. -/
import Derived.WalkKit
import Derived.Below
import Derived.Deep.Draws
import Derived.Laws.OwnMore
import Derived.Maps.AppendAt
import Derived.Lib.AppendStr
import Derived.Lib.AppendZeros
import Derived.Lib.Hide
import Derived.Deep.MidRow
import Derived.Deep.WholeRow
import Derived.ChangeKeysEq
import Derived.Laws.StructEq
import Derived.Laws.CopyOwn
import Derived.Laws.BitsAllLaws
import Derived.Test.YthicidpdgggbjaaDoorProg
import Derived.WalkLawsBesides
import Derived.WalkSpells
import Derived.Laws.BytesArg
import Derived.Deep.QuietTactic
import Derived.BigQuiet
import Derived.RegionTactic
/-
  Laws of no program that the walks of this seat lean on: sectors as rows of cells; a slice that reads as a list of cells, in a block outside a set of blocks; a world in which only a set of blocks has turned; append onto a row of the call's pl_own; copy of elements of several cells; comparison of two rows of bytes.
  Conditions: none beyond those that each theorem names.
-/

namespace Go.Proofs.YthicidpdgggbjaaDoor
open Go.RowKit

/-! ### Cells -/
abbrev Sect := Vector Int 64
def zsec : Sect := Vector.replicate 64 0
/-- Bytes as cells. -/
def CL (l : List Int) : List Value := l.map (.int .u8)
def sec (b : Sect) : List Value := CL b.toList
def secA (b : Sect) : Array Value := (sec b).toArray
def flat : List Sect → List Value
  | [] => []
  | b :: r => sec b ++ flat r
def BL (l : List Bool) : List Value := l.map .bool

theorem CL_length (l : List Int) : (CL l).length = l.length := by simp [CL]
theorem CL_get (l : List Int) (k : Nat) (h : k < l.length) : (CL l)[k]? = some (.int .u8 l[k]) := by simp [CL, h]
theorem CL_one (l : List Int) : ∀ u ∈ CL l, u.oneCell' = true := by
  intro u hu
  simp only [CL, List.mem_map] at hu
  obtain ⟨b, _, rfl⟩ := hu
  rfl
theorem CL_append (l m : List Int) : CL (l ++ m) = CL l ++ CL m := by simp [CL]
theorem CL_take (l : List Int) (k : Nat) : CL (l.take k) = (CL l).take k := by simp [CL]
theorem CL_drop (l : List Int) (k : Nat) : CL (l.drop k) = (CL l).drop k := by simp [CL]
theorem CL_zero (n : Nat) : CL (List.replicate n 0) = List.replicate n (.int .u8 0) := by simp [CL]
theorem sec_length (b : Sect) : (sec b).length = 64 := by rw [sec, CL_length, Vector.length_toList]
theorem secA_size (b : Sect) : (secA b).size = 64 := by rw [secA, List.size_toArray, sec_length]
theorem secA_toList (b : Sect) : (secA b).toList = sec b := rfl
theorem sec_get (b : Sect) (j : Nat) (h : j < 64) : (sec b)[j]? = some (.int .u8 b[j]) := by rw [sec, CL_get _ j (by rw [Vector.length_toList]; exact h)]; simp
theorem secA_get (b : Sect) (j : Nat) (h : j < 64) : (secA b)[j]? = some (.int .u8 b[j]) := by rw [secA, List.getElem?_toArray, sec_get b j h]
theorem sec_one (b : Sect) : ∀ u ∈ sec b, u.oneCell' = true := CL_one _
theorem secA_one (b : Sect) : (secA b).all (·.oneCell') = true := all_oneCell_toArray (sec_one b)
theorem sec_zero : sec zsec = List.replicate 64 (.int .u8 0) := by rw [sec, zsec, Vector.toList_replicate, CL_zero]
theorem flat_length : ∀ l : List Sect, (flat l).length = l.length * 64
  | [] => rfl
  | b :: r => by simp [flat, sec_length, flat_length r]; omega
theorem flat_append : ∀ l m : List Sect, flat (l ++ m) = flat l ++ flat m
  | [], _ => rfl
  | b :: r, m => by simp [flat, flat_append r m]
theorem flat_one : ∀ l : List Sect, ∀ u ∈ flat l, u.oneCell' = true
  | [], u, h => by simp [flat] at h
  | b :: r, u, h => by
    simp only [flat, List.mem_append] at h
    rcases h with h | h
    · exact sec_one b u h
    · exact flat_one r u h
theorem flat_single (b : Sect) : flat [b] = sec b := by simp [flat]
theorem flat_take : ∀ (l : List Sect) (k : Nat), (flat l).take (k * 64) = flat (l.take k)
  | [], k => by simp [flat]
  | b :: r, 0 => by simp [flat]
  | b :: r, k + 1 => by
    rw [List.take_succ_cons, flat, flat, List.take_append, sec_length, List.take_of_length_le (by rw [sec_length]; omega), show (k + 1) * 64 - 64 = k * 64 from by omega, flat_take r k]
theorem flat_drop : ∀ (l : List Sect) (k : Nat), (flat l).drop (k * 64) = flat (l.drop k)
  | [], k => by simp [flat]
  | b :: r, 0 => by simp
  | b :: r, k + 1 => by
    rw [List.drop_succ_cons, flat, List.drop_append, sec_length, List.drop_of_length_le (by rw [sec_length]; omega), show (k + 1) * 64 - 64 = k * 64 from by omega, flat_drop r k]
    rfl
theorem flat_zero (n : Nat) : flat (List.replicate n zsec) = List.replicate (n * 64) (.int .u8 0) := by
  induction n with
  | zero => rfl
  | succ n ih =>
    rw [List.replicate_succ, flat, ih, sec_zero, List.replicate_append_replicate]
    congr 1
    omega
theorem BL_length (l : List Bool) : (BL l).length = l.length := by simp [BL]
theorem BL_one (l : List Bool) : ∀ u ∈ BL l, u.oneCell' = true := by
  intro u hu
  simp only [BL, List.mem_map] at hu
  obtain ⟨b, _, rfl⟩ := hu
  rfl
theorem BL_get (l : List Bool) (k : Nat) (h : k < l.length) : (BL l)[k]? = some (.bool l[k]) := by simp [BL, h]
theorem BL_take (l : List Bool) (k : Nat) : BL (l.take k) = (BL l).take k := by simp [BL]

/-! ### Addresses -/
theorem pl_add_block (a : Addr) (n : Nat) : (a.add n).block = a.block := by
  unfold Addr.add; split <;> rfl
theorem add_plain (b o n : Nat) : (⟨b, o, none⟩ : Addr).add n = ⟨b, o + n, none⟩ := Addr.add_mid b o n

/-! ### Only the blocks of X have turned -/
structure Mod (X : Nat → Prop) (w w' : World) : Prop where
  os : w'.os = w.os
  tape : w'.tape = w.tape
  output : w'.output = w.output
  size : w.heap.size ≤ w'.heap.size
  block : ∀ k, k < w.heap.size → ¬ X k → w'.heap[k]? = w.heap[k]?

section
variable {X Y : Nat → Prop} {a w w' : World}
theorem Mod.refl (X : Nat → Prop) (w : World) : Mod X w w := ⟨rfl, rfl, rfl, Nat.le_refl _, fun _ _ _ => rfl⟩
theorem Mod.trans {b c : World} (h : Mod X a b) (k : Mod X b c) : Mod X a c :=
  ⟨k.os.trans h.os, k.tape.trans h.tape, k.output.trans h.output, Nat.le_trans h.size k.size, fun i hi hx => (k.block i (Nat.lt_of_lt_of_le hi h.size) hx).trans (h.block i hi hx)⟩
theorem Mod.mono (h : Mod X w w') (hXY : ∀ k, k < w.heap.size → X k → Y k) : Mod Y w w' :=
  ⟨h.os, h.tape, h.output, h.size, fun k hk hy => h.block k hk fun hx => hy (hXY k hk hx)⟩
theorem Mod.of_below (h : Below w.heap.size w w') (X : Nat → Prop) : Mod X w w' := ⟨h.os, h.tape, h.output, h.size, fun k hk _ => h.block k hk⟩
theorem Mod.below {B : Nat} {w0 : World} (hb : Below B w0 w) (h : Mod X w w') (hX : ∀ k, X k → B ≤ k) (hB : B ≤ w.heap.size) : Below B w0 w' :=
  hb.trans ⟨h.os, h.tape, h.output, h.size, fun k hk => h.block k (by omega) fun hx => by have := hX k hx; omega⟩
theorem Mod.alloc (h : Mod X a w) (o : Obj) : Mod X a (w.alloc o) :=
  ⟨h.os, h.tape, h.output, Nat.le_trans h.size (by simp), fun k hk hx => (Below.heap_alloc w o k (Nat.lt_of_lt_of_le hk h.size)).trans (h.block k hk hx)⟩
theorem Mod.setCell (h : Mod X a w) {p : Addr} (hp : X p.block ∨ a.heap.size ≤ p.block) (u : Value) : Mod X a (w.setCell p u) :=
  ⟨h.os, h.tape, h.output, by simpa [World.setCell] using h.size, fun k hk hx => (Below.heap_setCell w p u k (by
    rintro rfl
    rcases hp with hp | hp
    · exact hx hp
    · omega)).trans (h.block k hk hx)⟩
theorem Mod.drewN (h : Mod X a w) (n : Nat) : Mod X a (w.drewN n) := ⟨h.os, h.tape, h.output, h.size, h.block⟩
theorem Mod.drew (h : Mod X a w) : Mod X a w.drew := ⟨h.os, h.tape, h.output, h.size, h.block⟩
theorem Mod.grown {row : Option Nat} (h : Mod X a w) (hg : w.grownBy w' row) (hr : ∀ k, row = some k → X k ∨ a.heap.size ≤ k) : Mod X a w' :=
  ⟨hg.os.trans h.os, hg.tape.trans h.tape, hg.output.trans h.output, Nat.le_trans h.size hg.size, fun k hk hx => (hg.block k (Nat.lt_of_lt_of_le hk h.size) (fun e => by
    rcases hr k e.symm with hr | hr
    · exact hx hr
    · omega)).trans (h.block k hk hx)⟩
theorem Mod.setRow (h : Mod X a w) {g : Nat} (hp : X g ∨ a.heap.size ≤ g) (cs : Array Value) : Mod X a (w.setRow g cs) :=
  ⟨h.os, h.tape, h.output, by rw [size_setRow]; exact h.size, fun k hk hx => by
    rw [setRow_other w g k cs (by
      rintro rfl
      rcases hp with hp | hp
      · exact hx hp
      · omega)]
    exact h.block k hk hx⟩
theorem pl_setCells_heap (b : Nat) : ∀ (vs : List Value) (o : Nat) (w : World) (k : Nat), k ≠ b → (w.setCells b o vs).heap[k]? = w.heap[k]?
  | [], _, _, _, _ => rfl
  | v :: r, o, w, k, h => by
    rw [World.setCells, pl_setCells_heap b r (o + 1) _ k h, Below.heap_setCell _ _ _ _ h]
theorem pl_setCells_size (b : Nat) : ∀ (vs : List Value) (o : Nat) (w : World), (w.setCells b o vs).heap.size = w.heap.size
  | [], _, _ => rfl
  | v :: r, o, w => by rw [World.setCells, pl_setCells_size b r]; simp [World.setCell]
theorem pl_setCells_rest (b : Nat) : ∀ (vs : List Value) (o : Nat) (w : World), (w.setCells b o vs).os = w.os ∧ (w.setCells b o vs).tape = w.tape ∧ (w.setCells b o vs).output = w.output
  | [], _, _ => ⟨rfl, rfl, rfl⟩
  | v :: r, o, w => by rw [World.setCells]; exact pl_setCells_rest b r (o + 1) _
theorem Mod.setCells (h : Mod X a w) {b : Nat} (hp : X b ∨ a.heap.size ≤ b) (o : Nat) (vs : List Value) : Mod X a (w.setCells b o vs) := by
  obtain ⟨h1, h2, h3⟩ := pl_setCells_rest b vs o w
  refine ⟨h1.trans h.os, h2.trans h.tape, h3.trans h.output, by rw [pl_setCells_size]; exact h.size, fun k hk hx => ?_⟩
  rw [pl_setCells_heap b vs o w k (by
    rintro rfl
    rcases hp with hp | hp
    · exact hx hp
    · omega)]
  exact h.block k hk hx
end

/-! ### A slice that reads as a list of cells, in a block outside X -/
structure Lz (X : Nat → Prop) (w : World) (size : Nat) (A : Option Addr) (n : Nat) (xs : List Value) : Prop where
  len : xs.length = n * size
  spot : 0 < n → ∃ b o, A = some ⟨b, o, none⟩ ∧ ¬ X b ∧ b < w.heap.size ∧ w.rangeAt b o xs

section
variable {X Y : Nat → Prop} {w w' : World} {size n : Nat} {A : Option Addr} {xs : List Value}
theorem pl_rangeAt_block {b o : Nat} {cs : List Value} (h : w.rangeAt b o cs) (hb : w'.heap[b]? = w.heap[b]?) : w'.rangeAt b o cs := fun j v hv => by
  rw [World.cell?_of_block (w := w) (a := ⟨b, o + j, none⟩) hb]
  exact h j v hv
theorem Lz.empty : Lz X w size A 0 [] := ⟨by simp, fun h => absurd h (Nat.lt_irrefl 0)⟩
theorem Lz.kept (h : Lz X w size A n xs) (hm : Mod X w w') : Lz X w' size A n xs := by
  refine ⟨h.len, fun hn => ?_⟩
  obtain ⟨b, o, ha, hx, hb, hr⟩ := h.spot hn
  exact ⟨b, o, ha, hx, Nat.lt_of_lt_of_le hb hm.size, pl_rangeAt_block hr (hm.block b hb hx)⟩
theorem Lz.keptY (h : Lz X w size A n xs) (hm : Mod Y w w') (hY : ∀ k, k < w.heap.size → Y k → X k) : Lz X w' size A n xs := h.kept (hm.mono hY)
theorem Lz.mono (h : Lz X w size A n xs) (hY : ∀ k, k < w.heap.size → Y k → X k) : Lz Y w size A n xs := by
  refine ⟨h.len, fun hn => ?_⟩
  obtain ⟨b, o, ha, hx, hb, hr⟩ := h.spot hn
  exact ⟨b, o, ha, fun hy => hx (hY b hb hy), hb, hr⟩
theorem Lz.below (h : Lz X w size A n xs) (hm : Below w.heap.size w w') : Lz X w' size A n xs := h.kept (Mod.of_below hm X)
theorem Lz.alloc (h : Lz X w size A n xs) (o : Obj) : Lz X (w.alloc o) size A n xs := h.kept ((Mod.refl X w).alloc o)
theorem Lz.get {k : Nat} (h : Lz X w 1 A n xs) (hk : k < n) :
    ∃ b o u, A = some ⟨b, o, none⟩ ∧ ¬ X b ∧ b < w.heap.size ∧ xs[k]? = some u ∧ w.cell? ⟨b, o + k, none⟩ = some u := by
  obtain ⟨b, o, ha, hx, hb, hr⟩ := h.spot (by omega)
  have hl : k < xs.length := by have := h.len; omega
  exact ⟨b, o, xs[k], ha, hx, hb, List.getElem?_eq_getElem hl, hr k _ (List.getElem?_eq_getElem hl)⟩
theorem Lz.head (h : Lz X w size A n xs) {k : Nat} (hk : k ≤ n) : Lz X w size A k (xs.take (k * size)) := by
  refine ⟨by rw [List.length_take, h.len, Nat.min_eq_left (Nat.mul_le_mul_right _ hk)], fun hn => ?_⟩
  obtain ⟨b, o, ha, hx, hb, hr⟩ := h.spot (by omega)
  refine ⟨b, o, ha, hx, hb, fun j u hu => ?_⟩
  rw [List.getElem?_take] at hu
  split at hu
  · exact hr j u hu
  · cases hu
/-- x[k:..], whatever the model keeps as the address of an empty rest. -/
theorem Lz.tail (h : Lz X w size A n xs) {k : Nat} (hk : k ≤ n) (A' : Option Addr) (hA : k < n → A' = A.map (·.add (k * size))) :
    Lz X w size A' (n - k) (xs.drop (k * size)) := by
  refine ⟨by rw [List.length_drop, h.len, Nat.sub_mul], fun hn => ?_⟩
  obtain ⟨b, o, ha, hx, hb, hr⟩ := h.spot (by omega)
  refine ⟨b, o + k * size, by rw [hA (by omega), ha]; simp [add_plain], hx, hb, fun j u hu => ?_⟩
  rw [List.getElem?_drop] at hu
  rw [Nat.add_assoc]
  exact hr _ u hu
theorem Lz.of_own {base : Nat} {e : TypeId} {c : Nat} (h : w.ownsRow base e size (.slice A n c) n xs) (hX : ∀ k, X k → k < base) : Lz X w size A n xs := by
  refine ⟨h.1, fun hn => ?_⟩
  have hc := @World.ownsRow.cells w base e size (.slice A n c) n xs h
  rcases h.2 with ⟨_, h0⟩ | ⟨g, cap, cur, hv, hb, hg, _⟩
  · omega
  · injection hv with hA
    subst hA
    refine ⟨g, 0, rfl, fun hx => by have := hX g hx; omega, (Array.getElem?_eq_some_iff.1 hg).1, fun j u hu => ?_⟩
    have := hc rfl j u hu
    rwa [add_plain] at this
theorem Lz.nil_of_none (h : Lz X w size none n xs) : n = 0 ∧ xs = [] := by
  by_cases hn : n = 0
  · subst hn
    exact ⟨rfl, List.eq_nil_of_length_eq_zero (by rw [h.len]; simp)⟩
  · obtain ⟨b, o, ha, _⟩ := h.spot (by omega)
    cases ha
theorem pl_own_slice {base : Nat} {e : TypeId} {v : Value} (h : w.ownsRow base e size v n xs) :
    ∃ A c, v = .slice A n c ∧ n ≤ c ∧ c ≤ maxLen := by
  rcases h.2 with ⟨rfl, rfl⟩ | ⟨g, cap, cur, rfl, _, _, hc, hm, _⟩
  · exact ⟨none, 0, rfl, Nat.le_refl _, by simp [maxLen]⟩
  · exact ⟨_, cap, rfl, hc, hm⟩
theorem pl_own_under {B base : Nat} {e : TypeId} {v : Value} (h : w.ownsRow base e size v n xs) (hb : Below B w w') (hB : w.heap.size ≤ B) :
    w'.ownsRow base e size v n xs := by
  refine ⟨h.1, ?_⟩
  rcases h.2 with hn | ⟨g, cap, cur, hv, hbg, hg, rest⟩
  · exact .inl hn
  · have := (Array.getElem?_eq_some_iff.1 hg).1
    exact .inr ⟨g, cap, cur, hv, hbg, by rw [hb.block g (by omega)]; exact hg, rest⟩
theorem pl_own_base {base base' : Nat} {e : TypeId} {v : Value} (h : w.ownsRow base e size v n xs) (hb : base' ≤ base) :
    w.ownsRow base' e size v n xs := by
  refine ⟨h.1, ?_⟩
  rcases h.2 with hn | ⟨g, cap, cur, hv, hbg, rest⟩
  · exact .inl hn
  · exact .inr ⟨g, cap, cur, hv, by omega, rest⟩
end
theorem pl_below_own {B base : Nat} {a w w' : World} {e : TypeId} {size : Nat} {v : Value} {n : Nat} {xs : List Value} (h : Below B a w) (ho : w.ownsRow base e size v n xs) (hg : w.grownBy w' v.ownBlock)
    (hb : B ≤ base) (hB : B ≤ w.heap.size) : Below B a w' :=
  h.grown hg hB fun k hk => Nat.le_trans hb (ho.lt k hk).1

/-! ### append -/
section
variable {P : Program} (w : World)
theorem pl_wpList_app {ops : Array Oper} {rest : List Oper} {o : Oper} {a : Act} {Q : Exit → Act → World → Prop} (hgd : o.guard = none) (s x : Operand) (t : TypeId)
    (ho : o.op = .call { callee := .builtin .append, args := #[s, x], argTypes := #[t, t] })
    (base : Nat) (e : TypeId) (i : TypeInfo) (z : Value) (size bytes : Nat) (ht : P.underlying t = some (.slice e)) (hi : P.info? e = some i) (hz : i.zero = some z)
    (hsize : i.size = size) (hby : i.bytes = bytes) (hzs : z.cells.size = size) (hsz : 0 < size)
    (v : Value) (n : Nat) (xs : List Value) (hs : a.eval s = v) (hown : w.ownsRow base e size v n xs)
    (ad : Addr) (m c : Nat) (news : List Value) (hx : a.eval x = .slice (some ad) m c) (hl : news.length = m * size) (hr : ∀ j u, news[j]? = some u → w.cell? (ad.add j) = some u) (h1 : ∀ u ∈ news, u.oneCell' = true)
    (h63 : n + m ≤ maxLen) (hbytes : (n + m) * bytes ≤ 140737488355328) (hbase : base ≤ w.heap.size)
    (h : ∀ v' w', w'.ownsRow base e size v' (n + m) (xs ++ news) → w.grownBy w' v.ownBlock → wpList P ops Q rest (a.put o.dst v') w') : wpList P ops Q (o :: rest) a w := by
  obtain ⟨v', w', hrun, h2, h3, _⟩ := run_append_own_at (P := P) w base t o.type e i z size bytes ht hi hz hsize hby hzs hsz v n xs hown ad m c news hl hr h1 h63 hbytes hbase
  exact Lib.wpList_append_run w hgd s x t t ho v _ hs hx v' w' hrun (h v' w' h2 h3)
end
theorem Lz.cells {X : Nat → Prop} {w : World} {size n : Nat} {a : Addr} {xs : List Value} (h : Lz X w size (some a) n xs) : ∀ j u, xs[j]? = some u → w.cell? (a.add j) = some u := by
  intro j u hu
  by_cases hn : n = 0
  · subst hn
    have : xs = [] := List.eq_nil_of_length_eq_zero (by rw [h.len]; simp)
    subst this
    simp at hu
  · obtain ⟨b, o, ha, _, _, hr⟩ := h.spot (by omega)
    injection ha with ha
    subst ha
    rw [add_plain]
    exact hr j u hu

/-! ### copy, of elements of several cells -/
section
variable {P : Program}
theorem run_copy_many (w : World) (dT sT ty elem : TypeId) (size b o n dCap sCap : Nat) (a : Option Addr) (cs : List Value)
    (hu : P.underlying dT = some (.slice elem)) (hs : (P.info? elem).map (·.size) = some size) (hn : cs.length = n * size) (X : Nat → Prop)
    (hsrc : Lz X w size a n cs) (hth : w.there b o cs.length) (h1 : ∀ v ∈ cs, v.oneCell' = true) :
    (Builtin.copy_ #[dT, sT] ty #[.slice (some ⟨b, o, none⟩) n dCap, .slice a n sCap]).run P w = .ok (goInt n) (w.setCells b o cs) := by
  have hst := run_storeCells_cells (P := P) b o cs 0 w (by simpa using fun j hj => (hth j hj).1) (by simpa using fun j hj => (hth j hj).2) h1
  cases hq : P.info? elem with
  | none => simp [hq] at hs
  | some i =>
    have hi : i.size = size := by simpa [hq] using hs
    cases a with
    | none =>
      obtain ⟨rfl, rfl⟩ := hsrc.nil_of_none
      simp [Builtin.copy_, run_underlying hu, Builtin.lenOf, Builtin.firstCells, sizeOf, typeInfo, hq, storeCells, World.setCells]
    | some a =>
      have hl := run_loadCells_list (P := P) w a cs hsrc.cells
      rw [hn] at hl
      simp [Builtin.copy_, run_underlying hu, Builtin.lenOf, Builtin.firstCells, sizeOf, typeInfo, hq, hi, hl] at hst ⊢
      rw [hst]
      rfl
end

/-! ### Two rows of bytes compared -/
section
variable {P : Program}
theorem eqItems_row (d : Nat) {e : TypeId} (he : P.underlying e = some (.int .u8)) (a b : List Int) (w : World) : ∀ is : List Nat, (∀ i ∈ is, i < a.length ∧ i < b.length) →
    (Op.eqItems (d + 1) e 1 (CL a).toArray (CL b).toArray is).run P w = .ok (is.all fun i => a.getD i 0 == b.getD i 0) w
  | [], _ => by simp [Op.eqItems]
  | i :: is, h => by
    obtain ⟨hi1, hi2⟩ := h i (by simp)
    have hagg : (isAgg e).run P w = .ok false w := by
      unfold isAgg
      rw [Sem.run_bind, run_underlying he w]
      simp
    have p1 : ∀ x : List Int, i < x.length → (part e (CL x).toArray (i * 1)).run P w = .ok (.int .u8 (x.getD i 0)) w := fun x hx => by
      simp only [part, Sem.run_bind, hagg, Result.andThen_ok, Nat.mul_one, List.getElem?_toArray, CL_get x i hx]
      simp [List.getD, hx]
    simp only [Op.eqItems, Sem.run_bind, p1 a hi1, p1 b hi2, Result.andThen_ok, run_equalIn_int w d e .u8 .u8 _ _ he]
    have ih := eqItems_row d he a b w is (fun j hj => h j (by simp [hj]))
    rw [List.all_cons]
    cases hab : (a.getD i 0 == b.getD i 0) with
    | true => simpa using ih
    | false => simp
theorem pl_all_same (a b : List Int) (n : Nat) (ha : a.length = n) (hb : b.length = n) : ((List.range n).all fun i => a.getD i 0 == b.getD i 0) = (a == b) := by
  rw [Bool.eq_iff_iff, List.all_eq_true, beq_iff_eq]
  constructor
  · intro h
    apply List.ext_getElem (by omega)
    intro i h1 h2
    have := h i (by simp; omega)
    simpa [List.getD, h1, h2] using this
  · rintro rfl i _
    simp
theorem run_neq_row {t e : TypeId} {i : TypeInfo} (n : Nat) (ht : P.underlying t = some (.array n e)) (hi : P.info? e = some i) (hc : P.cellsOf e = 1) (he : P.underlying e = some (.int .u8)) (a b : List Int) (ha : a.length = n) (hb : b.length = n) (w : World) :
    (binOp .neq t (.agg (CL a).toArray) (.agg (CL b).toArray)).run P w = .ok (.bool (!(a == b))) w := by
  rw [run_neq_struct, run_equalIn_array w 9999 _ _ ht hi, hc, eqItems_row 9998 he a b w _ (fun i hi => by simp at hi; omega), pl_all_same a b n ha hb]
  rfl
theorem run_eql_row {t e : TypeId} {i : TypeInfo} (n : Nat) (ht : P.underlying t = some (.array n e)) (hi : P.info? e = some i) (hc : P.cellsOf e = 1) (he : P.underlying e = some (.int .u8)) (a b : List Int) (ha : a.length = n) (hb : b.length = n) (w : World) :
    (binOp .eql t (.agg (CL a).toArray) (.agg (CL b).toArray)).run P w = .ok (.bool (a == b)) w := by
  rw [run_eql_struct, run_equalIn_array w 9999 _ _ ht hi, hc, eqItems_row 9998 he a b w _ (fun i hi => by simp at hi; omega), pl_all_same a b n ha hb]
  rfl
end
end Go.Proofs.YthicidpdgggbjaaDoor

/-
  Lists: a write that is torn; rows of cells in which sectors are laid.
  Conditions: none beyond those that each theorem names.
-/

namespace Go.Proofs.YthicidpdgggbjaaDoor
open Go.RowKit

/-- The sectors S, those of l from place p on laid over them as far as they are kept. -/
def upd (S : List Sect) (p : Nat) (l : List Sect) (kf : Nat → Bool) : List Sect :=
  (List.range S.length).map fun i => if p ≤ i ∧ i - p < l.length ∧ kf (i - p) = true then l.getD (i - p) zsec else S.getD i zsec
theorem upd_length (S : List Sect) (p : Nat) (l : List Sect) (kf : Nat → Bool) : (upd S p l kf).length = S.length := by simp [upd]
theorem upd_get (S : List Sect) (p : Nat) (l : List Sect) (kf : Nat → Bool) (i : Nat) (h : i < S.length) :
    (upd S p l kf)[i]? = some (if p ≤ i ∧ i - p < l.length ∧ kf (i - p) = true then l.getD (i - p) zsec else S.getD i zsec) := by
  rw [upd, List.getElem?_map, List.getElem?_range h]
  rfl
theorem upd_congr (S : List Sect) (p : Nat) (l : List Sect) (f g : Nat → Bool) (h : ∀ j, j < l.length → f j = g j) : upd S p l f = upd S p l g := by
  unfold upd
  apply List.map_congr_left
  intro i _
  by_cases h1 : p ≤ i ∧ i - p < l.length
  · rw [h _ h1.2]
  · rw [if_neg (fun hh => h1 ⟨hh.1, hh.2.1⟩), if_neg (fun hh => h1 ⟨hh.1, hh.2.1⟩)]
theorem getD_get (S : List Sect) (i : Nat) (h : i < S.length) : S[i]? = some (S.getD i zsec) := by simp [List.getD, h]
theorem upd_none (S : List Sect) (p : Nat) (l : List Sect) (f : Nat → Bool) (h : ∀ j, j < l.length → f j = false) : upd S p l f = S := by
  apply List.ext_getElem?
  intro i
  by_cases hi : i < S.length
  · rw [upd_get _ _ _ _ _ hi, getD_get S i hi, if_neg]
    rintro ⟨_, h2, h3⟩
    rw [h _ h2] at h3
    cases h3
  · rw [List.getElem?_eq_none (by rw [upd_length]; omega), List.getElem?_eq_none (by omega)]
theorem pl_splice_get {α : Type} (L : List α) (o : Nat) (cs : List α) (i : Nat) (h : o + cs.length ≤ L.length) : (splice L o cs)[i]? = if o ≤ i ∧ i < o + cs.length then cs[i - o]? else L[i]? := by
  have hl : (L.take o).length = o := by rw [List.length_take]; omega
  unfold splice
  by_cases h1 : i < o
  · rw [List.getElem?_append_left (by omega), List.getElem?_take, if_pos h1, if_neg (by omega)]
  · rw [List.getElem?_append_right (by omega), hl]
    by_cases h2 : i < o + cs.length
    · rw [List.getElem?_append_left (by omega), if_pos (by omega)]
    · rw [List.getElem?_append_right (by omega), List.getElem?_drop, if_neg (by omega)]
      congr 1
      omega
theorem upd_full (S : List Sect) (p : Nat) (l : List Sect) (f : Nat → Bool) (hf : ∀ j, j < l.length → f j = true) (h : p + l.length ≤ S.length) : splice S p l = upd S p l f := by
  apply List.ext_getElem?
  intro i
  rw [pl_splice_get _ _ _ _ h]
  by_cases hi : i < S.length
  · rw [upd_get _ _ _ _ _ hi]
    by_cases h1 : p ≤ i ∧ i < p + l.length
    · rw [if_pos h1, if_pos ⟨h1.1, by omega, hf _ (by omega)⟩, getD_get l _ (by omega)]
    · rw [if_neg h1, if_neg (fun hh => h1 ⟨hh.1, by omega⟩), getD_get S i hi]
  · rw [if_neg (by omega), List.getElem?_eq_none (by omega), List.getElem?_eq_none (by rw [upd_length]; omega)]
/-- What is kept of the first k sectors. -/
def kfA (kp : List Bool) (k : Nat) : Nat → Bool := fun j => decide (j < k) && kp.getD j false
theorem upd_step (S : List Sect) (p : Nat) (l : List Sect) (kp : List Bool) (k : Nat) (hk : k < l.length) (h : p + l.length ≤ S.length) (hkp : kp.getD k false = true) :
    splice (upd S p l (kfA kp k)) (p + k) [l[k]] = upd S p l (kfA kp (k + 1)) := by
  apply List.ext_getElem?
  intro i
  rw [pl_splice_get _ _ _ _ (by rw [upd_length]; simp; omega)]
  by_cases hi : i < S.length
  · rw [upd_get _ _ _ _ _ hi, upd_get _ _ _ _ _ hi]
    by_cases h1 : i = p + k
    · subst h1
      rw [if_pos (by simp), if_pos ⟨by omega, by omega, by rw [show p + k - p = k from by omega, kfA, hkp]; simp⟩, show p + k - p = k from by omega]
      simp [List.getD, hk]
    · rw [if_neg (by simp; omega)]
      congr 1
      have e : ∀ j, j ≠ k → kfA kp k j = kfA kp (k + 1) j := fun j hj => by
        unfold kfA
        congr 1
        rw [decide_eq_decide]
        omega
      by_cases h2 : p ≤ i
      · rw [e (i - p) (by omega)]
      · rw [if_neg (fun hh => h2 hh.1), if_neg (fun hh => h2 hh.1)]
  · rw [if_neg (by simp; omega), List.getElem?_eq_none (by rw [upd_length]; omega), List.getElem?_eq_none (by rw [upd_length]; omega)]
theorem upd_same (S : List Sect) (p : Nat) (l : List Sect) (kp : List Bool) (k : Nat) (hkp : kp.getD k false = false) : upd S p l (kfA kp k) = upd S p l (kfA kp (k + 1)) := by
  apply upd_congr
  intro j _
  unfold kfA
  by_cases h : j = k
  · subst h
    rw [hkp]
    simp
  · congr 1
    rw [decide_eq_decide]
    omega
theorem upd_end (S : List Sect) (p : Nat) (l : List Sect) (kp : List Bool) (k : Nat) (hk : k = min l.length kp.length) : upd S p l (kfA kp k) = upd S p l (fun j => kp.getD j false) := by
  apply upd_congr
  intro j hj
  unfold kfA
  by_cases h : j < k
  · simp [h]
  · have : kp.getD j false = false := by
      rw [List.getD_eq_getElem?_getD, List.getElem?_eq_none (by omega)]
      rfl
    rw [this, Bool.and_false]

/-! ### Rows of cells -/
theorem splice_flat (S : List Sect) (sp : List Value) (p : Nat) (l : List Sect) (h : p + l.length ≤ S.length) : splice (flat S ++ sp) (p * 64) (flat l) = flat (splice S p l) ++ sp := by
  unfold splice
  rw [flat_append, flat_append, ← flat_take, ← flat_drop, List.take_append_of_le_length (by rw [flat_length]; omega), flat_length, List.drop_append_of_le_length (by rw [flat_length]; omega)]
  simp [Nat.add_mul]
theorem pl_setCells_row (b : Nat) (t : TypeId) : ∀ (vs : List Value) (o : Nat) (cur : List Value) (w : World), w.heap[b]? = some (.cells cur.toArray t (0, 0)) → o + vs.length ≤ cur.length →
    (w.setCells b o vs).heap[b]? = some (.cells (splice cur o vs).toArray t (0, 0))
  | [], o, cur, w, h, _ => by simpa [World.setCells, splice] using h
  | v :: r, o, cur, w, h, hl => by
    simp only [List.length_cons] at hl
    have h1 := heap_setCell_same w b o cur.toArray t v h
    rw [List.setIfInBounds_toArray] at h1
    rw [World.setCells, pl_setCells_row b t r (o + 1) (cur.set o v) _ h1 (by rw [List.length_set]; omega)]
    congr 3
    apply List.ext_getElem?
    intro i
    rw [pl_splice_get _ _ _ _ (by rw [List.length_set]; omega), pl_splice_get _ _ _ _ (by simp; omega)]
    simp only [List.length_cons]
    by_cases h2 : i = o
    · subst h2
      rw [if_neg (by omega), if_pos (by omega), Nat.sub_self, List.getElem?_set_self (by omega)]
      rfl
    · by_cases h3 : o + 1 ≤ i ∧ i < o + 1 + r.length
      · rw [if_pos h3, if_pos (by omega), show i - o = (i - (o + 1)) + 1 from by omega, List.getElem?_cons_succ]
      · rw [if_neg h3, if_neg (by omega), List.getElem?_set_ne (by omega)]
theorem there_row {w : World} {b : Nat} {t : TypeId} {cur : List Value} (h : w.heap[b]? = some (.cells cur.toArray t (0, 0))) {o n : Nat} (hl : o + n ≤ cur.length) : w.there b o n := fun j hj => by
  refine ⟨?_, frozen_of_row w b _ _ _ h⟩
  rw [cell_of_row w b _ _ _ _ h]
  simp
  omega
end Go.Proofs.YthicidpdgggbjaaDoor

/-
  Laws of no program that the walks of this seat lean on: a slice that reads as a list of values (nil let in), and append onto a row of the call's own from a slice, from a string and from so many zeros.
  Conditions: none beyond those that each theorem names.
-/

namespace Go.Proofs.YthicidpdgggbjaaDoor
open Go.RowKit

theorem add_block (a : Addr) (n : Nat) : (a.add n).block = a.block := by
  unfold Addr.add; split <;> rfl
theorem add_add (a : Addr) (i j : Nat) : (a.add i).add j = a.add (i + j) := by
  unfold Addr.add
  by_cases hi : i = 0 <;> by_cases hj : j = 0 <;> simp [hi, hj, Nat.add_assoc]

/-- The slice value with address A and length n holds the cells xs, 'size' cells an element, in a block below B. -/
structure Lies (w : World) (B size : Nat) (A : Option Addr) (n : Nat) (xs : List Value) : Prop where
  len : xs.length = n * size
  spot : 0 < n → ∃ a, A = some a ∧ a.block < B ∧ ∀ j u, xs[j]? = some u → w.cell? (a.add j) = some u

section
variable {w w' : World} {B B' size n : Nat} {A : Option Addr} {xs : List Value}

theorem Lies.empty : Lies w B size A 0 [] := ⟨by simp, fun h => absurd h (Nat.lt_irrefl 0)⟩

theorem Lies.get {k : Nat} (h : Lies w B 1 A n xs) (hk : k < n) :
    ∃ a u, A = some a ∧ a.block < B ∧ xs[k]? = some u ∧ w.cell? (a.add k) = some u := by
  obtain ⟨a, ha, hb, hc⟩ := h.spot (by omega)
  have hl : k < xs.length := by have := h.len; omega
  exact ⟨a, xs[k], ha, hb, List.getElem?_eq_getElem hl, hc k _ (List.getElem?_eq_getElem hl)⟩

theorem Lies.of_cells (h : Lies w B size A n xs) (hc : ∀ p : Addr, p.block < B → w'.cell? p = w.cell? p) : Lies w' B size A n xs := by
  refine ⟨h.len, fun hn => ?_⟩
  obtain ⟨a, ha, hb, hx⟩ := h.spot hn
  refine ⟨a, ha, hb, fun j u hu => ?_⟩
  rw [hc _ (by rw [add_block]; exact hb)]
  exact hx j u hu

theorem Lies.up (h : Lies w B size A n xs) (hB : B ≤ B') : Lies w B' size A n xs := by
  refine ⟨h.len, fun hn => ?_⟩
  obtain ⟨a, ha, hb, hx⟩ := h.spot hn
  exact ⟨a, ha, Nat.lt_of_lt_of_le hb hB, hx⟩

theorem Lies.under (h : Lies w B size A n xs) (hb : Below B w w') : Lies w' B size A n xs :=
  h.of_cells fun _ hp => hb.cell hp

theorem Lies.alloc (h : Lies w B size A n xs) (hB : B ≤ w.heap.size) (o : Obj) : Lies (w.alloc o) B size A n xs :=
  h.under ((Below.refl B w).alloc hB o)

theorem Lies.setCell (h : Lies w B size A n xs) {p : Addr} (hp : B ≤ p.block) (u : Value) : Lies (w.setCell p u) B size A n xs :=
  h.under ((Below.refl B w).setCell hp u)

/-- x[k:], whatever the model keeps as the address of an empty rest. -/
theorem Lies.tail (h : Lies w B 1 A n xs) {k : Nat} (hk : k ≤ n) (A' : Option Addr) (hA : k < n → A' = A.map (·.add k)) :
    Lies w B 1 A' (n - k) (xs.drop k) := by
  refine ⟨by rw [List.length_drop, h.len]; omega, fun hn => ?_⟩
  obtain ⟨a, ha, hb, hx⟩ := h.spot (by omega)
  refine ⟨a.add k, by rw [hA (by omega), ha]; rfl, by rw [add_block]; exact hb, fun j u hu => ?_⟩
  rw [add_add]
  rw [List.getElem?_drop] at hu
  exact hx _ u hu

/-- x[:k]. -/
theorem Lies.head (h : Lies w B 1 A n xs) {k : Nat} (hk : k ≤ n) : Lies w B 1 A k (xs.take k) := by
  refine ⟨by rw [List.length_take, h.len]; omega, fun hn => ?_⟩
  obtain ⟨a, ha, hb, hx⟩ := h.spot (by omega)
  refine ⟨a, ha, hb, fun j u hu => ?_⟩
  rw [List.getElem?_take] at hu
  split at hu
  · exact hx j u hu
  · cases hu

theorem Lies.of_own {base : Nat} {e : TypeId} {c : Nat} (h : w.ownsRow base e size (.slice A n c) n xs) : Lies w w.heap.size size A n xs := by
  refine ⟨h.1, fun hn => ?_⟩
  have hc := @World.ownsRow.cells w base e size (.slice A n c) n xs h
  rcases h.2 with ⟨_, h0⟩ | ⟨g, cap, cur, hv, hb, hg, _⟩
  · omega
  · injection hv with hA
    subst hA
    exact ⟨⟨g, 0, none⟩, rfl, (Array.getElem?_eq_some_iff.1 hg).1, hc rfl⟩
end

/-- The one element of append(s, x), laid in a block of its own. -/
theorem lies_new (w : World) (u : Value) (t : TypeId) : Lies (w.alloc (.cells #[u] t)) (w.heap.size + 1) 1 (some ⟨w.heap.size, 0, none⟩) 1 [u] :=
  ⟨rfl, fun _ => ⟨_, rfl, Nat.lt_succ_self _, cell_one_new w u t⟩⟩

theorem own_new1 (w : World) (u : Value) (t : TypeId) : (w.alloc (.cells #[u] t)).ownsRow w.heap.size t 1 (.slice (some ⟨w.heap.size, 0, none⟩) 1 1) 1 [u] :=
  ⟨rfl, .inr ⟨w.heap.size, 1, #[u], rfl, Nat.le_refl _, heap_alloc_new w _, Nat.le_refl _, by simp [maxLen], rfl, rfl⟩⟩

theorem own_slice {w : World} {base : Nat} {e : TypeId} {size : Nat} {v : Value} {n : Nat} {xs : List Value} (h : w.ownsRow base e size v n xs) :
    ∃ A c, v = .slice A n c ∧ n ≤ c ∧ c ≤ maxLen := by
  rcases h.2 with ⟨rfl, rfl⟩ | ⟨g, cap, cur, rfl, _, _, hc, hm, _⟩
  · exact ⟨none, 0, rfl, Nat.le_refl _, by simp [maxLen]⟩
  · exact ⟨_, cap, rfl, hc, hm⟩

theorem own_under {w w' : World} {B base : Nat} {e : TypeId} {size : Nat} {v : Value} {n : Nat} {xs : List Value} (h : w.ownsRow base e size v n xs) (hb : Below B w w') (hB : w.heap.size ≤ B) :
    w'.ownsRow base e size v n xs := by
  refine ⟨h.1, ?_⟩
  rcases h.2 with hn | ⟨g, cap, cur, hv, hbg, hg, rest⟩
  · exact .inl hn
  · have := (Array.getElem?_eq_some_iff.1 hg).1
    exact .inr ⟨g, cap, cur, hv, hbg, by rw [hb.block g (by omega)]; exact hg, rest⟩

theorem own_base {w : World} {base base' : Nat} {e : TypeId} {size : Nat} {v : Value} {n : Nat} {xs : List Value} (h : w.ownsRow base e size v n xs) (hb : base' ≤ base) :
    w.ownsRow base' e size v n xs := by
  refine ⟨h.1, ?_⟩
  rcases h.2 with hn | ⟨g, cap, cur, hv, hbg, rest⟩
  · exact .inl hn
  · exact .inr ⟨g, cap, cur, hv, by omega, rest⟩

theorem own_len {w : World} {base : Nat} {e : TypeId} {size : Nat} {v : Value} {n : Nat} {xs ys : List Value} (h : w.ownsRow base e size v n xs) (e1 : xs = ys) :
    w.ownsRow base e size v n ys := by subst e1; exact h

/-- Behind an append onto a row of the call's own nothing below has turned. -/
theorem below_own {B base : Nat} {a w w' : World} {e : TypeId} {size : Nat} {v : Value} {n : Nat} {xs : List Value} (h : Below B a w) (ho : w.ownsRow base e size v n xs) (hg : w.grownBy w' v.ownBlock)
    (hb : B ≤ base) (hB : B ≤ w.heap.size) : Below B a w' :=
  h.grown hg hB fun k hk => Nat.le_trans hb (ho.lt k hk).1

section
variable {P : Program} (w : World)

/-- append(v, x...), x a slice, nil or not. -/
theorem run_append_lies' (base : Nat) (t ty e : TypeId) (i : TypeInfo) (z : Value) (size bytes : Nat) (ht : P.underlying t = some (.slice e)) (hi : P.info? e = some i) (hz : i.zero = some z)
    (hsize : i.size = size) (hby : i.bytes = bytes) (hzs : z.cells.size = size) (hsz : 0 < size)
    (v : Value) (n : Nat) (xs : List Value) (hown : w.ownsRow base e size v n xs)
    (B : Nat) (A : Option Addr) (m c : Nat) (news : List Value) (hr : Lies w B size A m news) (h1 : ∀ u ∈ news, u.oneCell' = true)
    (h63 : n + m ≤ maxLen) (hbytes : (n + m) * bytes ≤ 140737488355328) (hbase : base ≤ w.heap.size) :
    ∃ v' w', (Builtin.append_ #[t, t] ty #[v, .slice A m c]).run P w = .ok v' w' ∧ w'.ownsRow base e size v' (n + m) (xs ++ news) ∧ w.grownBy w' v.ownBlock := by
  cases A with
  | some a =>
    have hcells : ∀ j u, news[j]? = some u → w.cell? (a.add j) = some u := by
      intro j u hu
      by_cases hm : m = 0
      · have : news = [] := List.eq_nil_of_length_eq_zero (by rw [hr.len, hm]; simp)
        subst this
        simp at hu
      · obtain ⟨a', ha, _, hx⟩ := hr.spot (by omega)
        cases ha
        exact hx j u hu
    obtain ⟨v', w', h2, h3, h4, _⟩ := run_append_own_at (P := P) w base t ty e i z size bytes ht hi hz hsize hby hzs hsz v n xs hown a m c news hr.len hcells h1 h63 hbytes hbase
    exact ⟨v', w', h2, h3, h4⟩
  | none =>
    have hm : m = 0 := by
      by_cases hm : m = 0
      · exact hm
      · obtain ⟨a', ha, _⟩ := hr.spot (by omega)
        cases ha
    subst hm
    have : news = [] := List.eq_nil_of_length_eq_zero (by rw [hr.len]; simp)
    subst this
    refine ⟨v, w, ?_, by simpa using hown, ⟨rfl, rfl, rfl, Nat.le_refl _, fun _ _ _ => rfl⟩⟩
    rcases hown.2 with ⟨rfl, rfl⟩ | ⟨g, cap, cur, rfl, _, _, hnc, _⟩
    · simp [Builtin.append_, run_underlying ht, sizeOf, typeInfo, hi, Builtin.lenOf, Builtin.firstCells]
    · simp [Builtin.append_, run_underlying ht, sizeOf, typeInfo, hi, Builtin.lenOf, Builtin.firstCells, hnc, storeCells]

theorem wpList_app {ops : Array Oper} {rest : List Oper} {o : Oper} {a : Act} {Q : Exit → Act → World → Prop} (hgd : o.guard = none) (s x : Operand) (t : TypeId)
    (ho : o.op = .call { callee := .builtin .append, args := #[s, x], argTypes := #[t, t] })
    (base : Nat) (e : TypeId) (i : TypeInfo) (z : Value) (size bytes : Nat) (ht : P.underlying t = some (.slice e)) (hi : P.info? e = some i) (hz : i.zero = some z)
    (hsize : i.size = size) (hby : i.bytes = bytes) (hzs : z.cells.size = size) (hsz : 0 < size)
    (v : Value) (n : Nat) (xs : List Value) (hs : a.eval s = v) (hown : w.ownsRow base e size v n xs)
    (B : Nat) (A : Option Addr) (m c : Nat) (news : List Value) (hx : a.eval x = .slice A m c) (hr : Lies w B size A m news) (h1 : ∀ u ∈ news, u.oneCell' = true)
    (h63 : n + m ≤ maxLen) (hbytes : (n + m) * bytes ≤ 140737488355328) (hbase : base ≤ w.heap.size)
    (h : ∀ v' w', w'.ownsRow base e size v' (n + m) (xs ++ news) → w.grownBy w' v.ownBlock → wpList P ops Q rest (a.put o.dst v') w') : wpList P ops Q (o :: rest) a w := by
  obtain ⟨v', w', hrun, h2, h3⟩ := run_append_lies' (P := P) w base t o.type e i z size bytes ht hi hz hsize hby hzs hsz v n xs hown B A m c news hr h1 h63 hbytes hbase
  exact Lib.wpList_append_run w hgd s x t t ho v _ hs hx v' w' hrun (h v' w' h2 h3)

/-- append(v, make([]T, m)...): so many zeros. -/
theorem run_append_zeros (base : Nat) (t tn ty e : TypeId) (i : TypeInfo) (z : Value) (k kn : IntKind) (ht : P.underlying t = some (.slice e)) (htn : P.underlying tn = some (.int kn)) (hi : P.info? e = some i) (hz : i.zero = some z)
    (hz1 : z.cells = #[z]) (hone : z.oneCell' = true) (hsize : i.size = 1) (hby : i.bytes = 1)
    (v : Value) (n : Nat) (xs : List Value) (hown : w.ownsRow base e 1 v n xs) (m : Nat)
    (h63 : n + m ≤ maxLen) (hbytes : n + m ≤ 140737488355328) (hbase : base ≤ w.heap.size) :
    ∃ v' w', (Builtin.append_ #[t, tn] ty #[v, .int k m]).run P w = .ok v' w' ∧ w'.ownsRow base e 1 v' (n + m) (xs ++ List.replicate m z) ∧ w.grownBy w' v.ownBlock := by
  have hsmall : n + m ≤ 9223372036854775807 := by simp only [maxLen] at h63; omega
  have hw : IntKind.i64.wrap (m : Int) = m := by rw [IntKind.wrap_i64]; omega
  have hneg : ¬ ((m : Int) < 0) := by omega
  have h48i : ¬ (281474976710656 < (m : Int)) := by omega
  have hxl : xs.length = n := by simpa using hown.1
  have hlen : (xs ++ List.replicate m z).length = (n + m) * 1 := by simp [hxl]
  have hzc : (Builtin.zeroCells z.cells m).toList = List.replicate m z := by
    apply List.ext_getElem
    · simp [Builtin.zeroCells, hz1]
    · intro j h1 h2
      simp [Builtin.zeroCells, hz1, Nat.mod_one]
  have hza : Builtin.zeroCells z.cells m = (List.replicate m z).toArray := by
    apply Array.ext'; simp [hzc]
  have grown : ∀ (old : Nat), old < n + m → ∀ (row : Option Nat),
      (w.drew.alloc (.cells (xs.toArray ++ (List.replicate m z).toArray ++ Builtin.zeroCells z.cells (grownCap w (n + m) old e - (n + m))) e)).ownsRow base e 1
        (.slice (some ⟨w.heap.size, 0, none⟩) (n + m) (grownCap w (n + m) old e)) (n + m) (xs ++ List.replicate m z) ∧
      w.grownBy (w.drew.alloc (.cells (xs.toArray ++ (List.replicate m z).toArray ++ Builtin.zeroCells z.cells (grownCap w (n + m) old e - (n + m))) e)) row := by
    intro old ho row
    have hge := grownCap_ge w (n + m) old e
    have hcm : grownCap w (n + m) old e ≤ maxLen := grownCap_le_maxLen w (n + m) old e h63
    refine ⟨⟨hlen, .inr ⟨w.heap.size, _, _, rfl, hbase, heap_alloc_new w.drew _, hge, hcm, ?_, ?_⟩⟩, ⟨rfl, rfl, rfl, by simp, fun q hq _ => Below.heap_alloc w.drew _ q hq⟩⟩
    · simp only [Array.size_append, List.size_toArray, size_zeroCells, hxl, List.length_replicate, hz1]
      simp
      omega
    · simp only [Array.toList_append, List.append_assoc]
      rw [← List.append_assoc, ← hlen]
      exact List.take_left
  rcases hown.2 with ⟨rfl, rfl⟩ | ⟨g, cap, cur, rfl, hbg, hg, hnc, hcm, hcs, htake⟩
  · have hx : xs = [] := List.eq_nil_of_length_eq_zero hxl
    subst hx
    by_cases hm : m = 0
    · subst hm
      refine ⟨.slice none 0 0, w, ?_, by simpa using World.ownsRow_nil w base e 1, ⟨rfl, rfl, rfl, Nat.le_refl _, fun _ _ _ => rfl⟩⟩
      have hw0 : IntKind.i64.wrap (0 : Int) = 0 := by simpa using hw
      simp [Builtin.append_, run_underlying ht, run_underlying htn, sizeOf, typeInfo, hi, asInt, asIntOf, hw0]
    · have hr := Lib.run_append_nil_zeros (P := P) w t tn ty e i z k kn ht htn hi hz m (by omega) (by omega) (by omega) (by rw [hby]; omega)
      have hgr := grown 0 (by omega) (Value.ownBlock (.slice none 0 0))
      simp only [Nat.zero_add, List.nil_append, Array.empty_append] at hgr ⊢
      rw [hza] at hr
      exact ⟨_, _, hr, hgr.1, hgr.2⟩
  · have hcs' : cur.size = cap := by simpa using hcs
    have ht' : cur.toList.take n = xs := by simpa using htake
    by_cases hroom : n + m ≤ cap
    · have hst := run_storeCells_at P g n e (List.replicate m z) 0 cur w hg (by simp; omega) (by intro u hu; rw [List.eq_of_mem_replicate hu]; exact hone)
      simp only [Nat.add_zero, List.length_replicate] at hst
      by_cases hm : m = 0
      · subst hm
        refine ⟨.slice (some ⟨g, 0, none⟩) n cap, w, ?_, by simpa using hown, ⟨rfl, rfl, rfl, Nat.le_refl _, fun _ _ _ => rfl⟩⟩
        have hw0 : IntKind.i64.wrap (0 : Int) = 0 := by simpa using hw
        simp [Builtin.append_, run_underlying ht, run_underlying htn, sizeOf, typeInfo, hi, asInt, asIntOf, hw0, hnc, storeCells]
      · refine ⟨.slice (some ⟨g, 0, none⟩) (n + m) cap, w.setRow g (cur.toList.take n ++ List.replicate m z ++ cur.toList.drop (n + m)).toArray, ?_, ⟨hlen, .inr ⟨g, cap, _, rfl, hbg, setRow_heap w g cur _ e _ hg, hroom, hcm, ?_, ?_⟩⟩,
          ⟨rfl, rfl, rfl, by simp, fun q _ hq => setRow_other w g q _ (fun e => hq (by simp [Value.ownBlock, e]))⟩⟩
        · simp [Builtin.append_, run_underlying ht, run_underlying htn, sizeOf, typeInfo, zeroValue, hi, hz, hsize, hby, asInt, asIntOf, hw, hneg, h48i, hm, hroom, hza, Addr.add_lit, hst]
        · simp only [List.size_toArray, List.length_append, List.length_take, List.length_drop, Array.length_toList, List.length_replicate]
          omega
        · rw [ht', ← hlen]
          exact List.take_left
    · have holds : ∀ j u, xs[j]? = some u → w.cell? ((⟨g, 0, none⟩ : Addr).add j) = some u := hown.cells (g := g) rfl
      have hfo := run_firstCells_some (P := P) w.drew 1 n ⟨g, 0, none⟩ n cap xs (by simpa using hxl) (by simpa using holds)
      have hfit : ¬ (281474976710656 < Builtin.nextslicecap (n + m) cap * 1) := by
        have := @growslice_fits (n + m) cap 1 (by omega) (by omega)
        omega
      have h63' : ¬ (9223372036854775807 < ((n : Int) + (m : Int))) := by omega
      have hm : m ≠ 0 := by omega
      have hgr := grown cap (by omega) (Value.ownBlock (.slice (some ⟨g, 0, none⟩) n cap))
      refine ⟨_, _, ?_, hgr.1, hgr.2⟩
      have hfit' : ¬ (281474976710656 < Builtin.nextslicecap (n + m) cap) := by simpa using hfit
      simp [Builtin.append_, run_underlying ht, run_underlying htn, sizeOf, typeInfo, zeroValue, hi, hz, hsize, hby, asInt, asIntOf, hw, hneg, h48i, hm, hroom, hza, h63', hfit', Question.forced, hfo, newRow, grownCap]

theorem wpList_app_zeros {ops : Array Oper} {rest : List Oper} {o : Oper} {a : Act} {Q : Exit → Act → World → Prop} (hgd : o.guard = none) (s x : Operand) (t tn : TypeId)
    (ho : o.op = .call { callee := .builtin .append, args := #[s, x], argTypes := #[t, tn] })
    (base : Nat) (e : TypeId) (i : TypeInfo) (z : Value) (k kn : IntKind) (ht : P.underlying t = some (.slice e)) (htn : P.underlying tn = some (.int kn)) (hi : P.info? e = some i) (hz : i.zero = some z)
    (hz1 : z.cells = #[z]) (hone : z.oneCell' = true) (hsize : i.size = 1) (hby : i.bytes = 1)
    (v : Value) (n : Nat) (xs : List Value) (hs : a.eval s = v) (hown : w.ownsRow base e 1 v n xs) (y : Int) (m : Nat) (hx : a.eval x = .int k y) (hm : y = (m : Int))
    (h63 : n + m ≤ maxLen) (hbytes : n + m ≤ 140737488355328) (hbase : base ≤ w.heap.size)
    (h : ∀ v' w', w'.ownsRow base e 1 v' (n + m) (xs ++ List.replicate m z) → w.grownBy w' v.ownBlock → wpList P ops Q rest (a.put o.dst v') w') : wpList P ops Q (o :: rest) a w := by
  subst hm
  obtain ⟨v', w', hrun, h2, h3⟩ := run_append_zeros (P := P) w base t tn o.type e i z k kn ht htn hi hz hz1 hone hsize hby v n xs hown m h63 hbytes hbase
  exact Lib.wpList_append_run w hgd s x t tn ho v _ hs hx v' w' hrun (h v' w' h2 h3)
end
end Go.Proofs.YthicidpdgggbjaaDoor

/-
  The plain mathematics of big-endian numbers and fields: no program is named here.
  Conditions: none beyond those that each theorem names.
-/

namespace Go.Proofs.YthicidpdgggbjaaDoor

/-- Bytes as the cells of a []byte. -/
def BC (l : List UInt8) : List Value := l.map fun b => Value.int .u8 b.toNat

theorem BC_length (l : List UInt8) : (BC l).length = l.length := by simp [BC]
theorem BC_append (l m : List UInt8) : BC (l ++ m) = BC l ++ BC m := by simp [BC]
theorem BC_get (l : List UInt8) (k : Nat) (h : k < l.length) : (BC l)[k]? = some (.int .u8 (l[k].toNat : Nat)) := by simp [BC, h]
theorem BC_one (l : List UInt8) : ∀ u ∈ BC l, u.oneCell' = true := by
  intro u hu
  obtain ⟨b, _, rfl⟩ := List.mem_map.1 hu
  rfl
theorem BC_take (l : List UInt8) (k : Nat) : (BC l).take k = BC (l.take k) := by simp [BC, List.map_take]
theorem BC_drop (l : List UInt8) (k : Nat) : (BC l).drop k = BC (l.drop k) := by simp [BC, List.map_drop]
theorem BC_zeros (m : Nat) : List.replicate m (Value.int .u8 0) = BC (List.replicate m 0) := by simp [BC]

/-- The big-endian number in the bytes, modulo 2^64. -/
def getN (l : List UInt8) : Nat := l.foldl (fun n b => (n * 256 + b.toNat) % 18446744073709551616) 0
def getI (l : List UInt8) : Int := (getN l : Nat)
theorem getN_lt (l : List UInt8) : getN l < 18446744073709551616 := by
  rcases List.eq_nil_or_concat l with rfl | ⟨m, b, rfl⟩
  · simp [getN]
  · simp only [getN, List.concat_eq_append, List.foldl_append, List.foldl_cons, List.foldl_nil]
    exact Nat.mod_lt _ (by decide)
theorem getN_snoc (l : List UInt8) (b : UInt8) : getN (l ++ [b]) = (getN l * 256 + b.toNat) % 18446744073709551616 := by
  simp [getN, List.foldl_append]

theorem getI_bounds (l : List UInt8) : 0 ≤ getI l ∧ getI l < 18446744073709551616 := by
  have := getN_lt l
  unfold getI
  omega
theorem u8_lt (b : UInt8) : b.toNat < 256 := b.toNat_lt
/-- n<<8 | b, as the walk writes it. -/
theorem getI_or (l : List UInt8) (b : UInt8) :
    bits BinOp.or IntKind.u64 (IntKind.u64.wrap (getI l * 256)) (IntKind.u64.wrap (b.toNat : Int)) = getI (l ++ [b]) := by
  have hb := u8_lt b
  have e1 : IntKind.u64.wrap (getI l * 256) = (((getN l % 72057594037927936) <<< 8 : Nat) : Int) := by
    rw [IntKind.wrap_u64, getI, Nat.shiftLeft_eq]
    omega
  have e2 : IntKind.u64.wrap (b.toNat : Int) = (b.toNat : Int) := by rw [IntKind.wrap_u64]; omega
  have hlt : (getN l % 72057594037927936) <<< 8 < 18446744073709551616 := by rw [Nat.shiftLeft_eq]; omega
  rw [e1, e2, u64_or_nat _ _ hlt (by omega), ← Nat.shiftLeft_add_eq_or_of_lt (by simpa using hb), getI, getN_snoc, Nat.shiftLeft_eq]
  omega
/-- n*256 + b, as the walk writes it. -/
theorem getI_add (l : List UInt8) (b : UInt8) :
    IntKind.u64.wrap (IntKind.u64.wrap (getI l * 256) + IntKind.u64.wrap (b.toNat : Int)) = getI (l ++ [b]) := by
  have hb := u8_lt b
  rw [IntKind.wrap_u64, IntKind.wrap_u64, IntKind.wrap_u64, getI, getI, getN_snoc]
  omega

theorem take_snoc (l : List UInt8) (k : Nat) (h : k < l.length) : l.take (k + 1) = l.take k ++ [l[k]] := by
  rw [List.take_succ_eq_append_getElem h]


/-- The size lowest bytes of n, the highest first. -/
def putL : Nat → Nat → List UInt8
  | _, 0 => []
  | n, k + 1 => putL (n / 256) k ++ [UInt8.ofNat (n % 256)]
theorem putL_length (k : Nat) : ∀ n, (putL n k).length = k := by
  induction k with
  | zero => intro n; rfl
  | succ k ih => intro n; simp [putL, ih]
theorem putL_cons (k : Nat) : ∀ n, putL n (k + 1) = UInt8.ofNat (n / 256 ^ k % 256) :: putL n k := by
  induction k with
  | zero => intro n; simp [putL]
  | succ k ih =>
    intro n
    rw [putL, ih (n / 256), putL, List.cons_append, Nat.div_div_eq_div_mul, Nat.pow_succ', ]
theorem putL_high (k n : Nat) (hn : n < 18446744073709551616) (hk : 8 ≤ k) : putL n (k + 1) = 0 :: putL n k := by
  rw [putL_cons]
  have h : (256 : Nat) ^ 8 ≤ 256 ^ k := Nat.pow_le_pow_right (by omega) hk
  rw [Nat.div_eq_of_lt (by omega)]
  rfl
theorem toNat_ofNat_mod (m : Nat) : (UInt8.ofNat (m % 256)).toNat = m % 256 := by
  simp [UInt8.toNat_ofNat']
theorem u8_ofNat_mod (m : Nat) : UInt8.ofNat (m % 256) = UInt8.ofNat m := by
  apply UInt8.toNat_inj.1
  simp [UInt8.toNat_ofNat']

/-- byte(n >> (8 * (t - 1))), as the walk writes it. -/
theorem put_byte (n : Nat) (t : Int) (h : 0 < t) : ((n : Int) / 2 ^ (8 * (t - 1)).toNat % 256) = ((UInt8.ofNat (n / 256 ^ (t - 1).toNat % 256)).toNat : Int) := by
  obtain ⟨k, hk⟩ : ∃ k : Nat, t - 1 = k := ⟨(t - 1).toNat, by omega⟩
  rw [hk, toNat_ofNat_mod, show (8 * (k : Int)).toNat = 8 * k from by omega, Int.toNat_natCast]
  have e : ((2 : Int) ^ (8 * k)) = ((256 ^ k : Nat) : Int) := by
    rw [Int.pow_mul, Int.natCast_pow]
    rfl
  rw [e, Int.natCast_emod, Int.natCast_ediv]
  rfl

/-- The field of the bytes s in so many bytes. -/
def fieldL (s : List UInt8) (size : Nat) : List UInt8 := UInt8.ofNat s.length :: s ++ List.replicate (size - 1 - s.length) 0
theorem fieldL_length (s : List UInt8) (size : Nat) (h : s.length < size) : (fieldL s size).length = size := by
  simp [fieldL]; omega

def strOf (l : List UInt8) : ByteArray := ⟨l.toArray⟩
theorem strOf_toList (l : List UInt8) : (strOf l).data.toList = l := rfl

end Go.Proofs.YthicidpdgggbjaaDoor

/-
  The plain mathematics of CRC-32C: the register is linear, and no burst of at most 32 bits is lost. No program is named here.
  Conditions: none beyond those that each theorem names.
-/

namespace Go.Proofs.YthicidpdgggbjaaDoor.Crc

/-- Castagnoli's polynomial, the lowest bit first. -/
def poly : Nat := 2197175160
def ones : Nat := 4294967295

/-- One bit into the register. -/
def stp (r : Nat) (b : Bool) : Nat := (r >>> 1) ^^^ (if (r.testBit 0 != b) = true then poly else 0)
def feed (r : Nat) (bs : List Bool) : Nat := bs.foldl stp r

theorem poly_lt : poly < 2 ^ 32 := by decide
theorem stp_lt {r : Nat} (h : r < 2 ^ 32) (b : Bool) : stp r b < 2 ^ 32 := by
  unfold stp
  refine Nat.xor_lt_two_pow ?_ ?_
  · rw [Nat.shiftRight_eq_div_pow]; omega
  · split
    · exact poly_lt
    · decide
theorem feed_lt (bs : List Bool) : ∀ {r : Nat}, r < 2 ^ 32 → feed r bs < 2 ^ 32 := by
  induction bs with
  | nil => intro r h; exact h
  | cons b bs ih => intro r h; exact ih (stp_lt h b)
theorem feed_append (r : Nat) (bs cs : List Bool) : feed r (bs ++ cs) = feed (feed r bs) cs := by simp [feed]
theorem feed_cons (r : Nat) (b : Bool) (bs : List Bool) : feed r (b :: bs) = feed (stp r b) bs := rfl

theorem pick_xor (x y : Bool) : (if (x ^^ y) = true then poly else 0) = (if x = true then poly else 0) ^^^ (if y = true then poly else 0) := by
  cases x <;> cases y <;> simp

theorem stp_xor (r s : Nat) (b c : Bool) : stp (r ^^^ s) (b ^^ c) = stp r b ^^^ stp s c := by
  unfold stp
  have e : ((r ^^^ s).testBit 0 != (b ^^ c)) = ((r.testBit 0 != b) ^^ (s.testBit 0 != c)) := by
    rw [Nat.testBit_xor]
    cases r.testBit 0 <;> cases s.testBit 0 <;> cases b <;> cases c <;> rfl
  rw [e, pick_xor, Nat.shiftRight_xor_distrib]
  generalize r >>> 1 = p
  generalize s >>> 1 = q
  generalize (if (r.testBit 0 != b) = true then poly else 0) = x
  generalize (if (s.testBit 0 != c) = true then poly else 0) = y
  rw [Nat.xor_assoc, Nat.xor_assoc, ← Nat.xor_assoc q, Nat.xor_comm q x, Nat.xor_assoc x]

theorem feed_xor : ∀ (bs cs : List Bool), bs.length = cs.length → ∀ r s, feed (r ^^^ s) (List.zipWith (· ^^ ·) bs cs) = feed r bs ^^^ feed s cs
  | [], [], _, r, s => rfl
  | b :: bs, c :: cs, h, r, s => by
    rw [List.zipWith_cons_cons, feed_cons, feed_cons, feed_cons, stp_xor]
    exact feed_xor bs cs (by simpa using h) _ _

/-- Zeros lose nothing. -/
theorem stp_zero {r : Nat} (h : r < 2 ^ 32) (h0 : stp r false = 0) : r = 0 := by
  have hb : r.testBit 0 = false := by
    have h1 : (stp r false).testBit 31 = false := by rw [h0]; exact Nat.zero_testBit 31
    unfold stp at h1
    rw [Nat.testBit_xor, Nat.testBit_shiftRight] at h1
    rw [Nat.testBit_lt_two_pow (show r < 2 ^ (1 + 31) from h)] at h1
    cases hr : r.testBit 0 with
    | false => rfl
    | true =>
      rw [hr] at h1
      exact absurd h1 (by decide)
  unfold stp at h0
  rw [hb] at h0
  simp at h0
  simp [Nat.testBit_zero] at hb
  omega

def zeros (r : Nat) (n : Nat) : Nat := feed r (List.replicate n false)
theorem zeros_succ (r n : Nat) : zeros r (n + 1) = zeros (stp r false) n := by simp [zeros, List.replicate_succ, feed]
theorem zeros_zero (n : Nat) : zeros 0 n = 0 := by
  induction n with
  | zero => rfl
  | succ n ih => rw [zeros_succ]; exact ih
theorem zeros_ne {r : Nat} (h : r < 2 ^ 32) (hne : r ≠ 0) (n : Nat) : zeros r n ≠ 0 := by
  induction n generalizing r with
  | zero => exact hne
  | succ n ih =>
    rw [zeros_succ]
    exact ih (stp_lt h false) (fun h0 => hne (stp_zero h h0))

/-- The n lowest bits of X, the lowest first. -/
def bits (n X : Nat) : List Bool := (List.range n).map fun k => X.testBit k
theorem bits_length (n X : Nat) : (bits n X).length = n := by simp [bits]
theorem bits_succ (n X : Nat) : bits (n + 1) X = X.testBit 0 :: bits n (X / 2) := by
  unfold bits
  rw [List.range_succ_eq_map, List.map_cons, List.map_map]
  congr 1
  apply List.map_congr_left
  intro k _
  simp [Nat.testBit_succ]

/-- Bits that are fed one after the other are the same as their number XORed in, and zeros fed. -/
theorem feed_bits (n : Nat) : ∀ (r X : Nat), X < 2 ^ n → feed r (bits n X) = zeros (r ^^^ X) n := by
  induction n with
  | zero =>
    intro r X h
    have : X = 0 := by omega
    subst this
    simp [bits, feed, zeros]
  | succ n ih =>
    intro r X h
    rw [bits_succ, feed_cons, ih _ _ (by rw [Nat.pow_succ] at h; omega), zeros_succ]
    congr 1
    unfold stp
    rw [Nat.shiftRight_xor_distrib, Nat.testBit_xor]
    have e1 : X >>> 1 = X / 2 := by rw [Nat.shiftRight_eq_div_pow]
    have e2 : ((r.testBit 0 ^^ X.testBit 0) != false) = (r.testBit 0 != X.testBit 0) := by cases r.testBit 0 <;> cases X.testBit 0 <;> rfl
    rw [e1, e2, Nat.xor_assoc, Nat.xor_assoc, Nat.xor_comm (X / 2)]

theorem feed_zeros (r n : Nat) : feed r (List.replicate n false) = zeros r n := rfl

/-- A burst: zeros, 32 bits that are not all zero, zeros: the register is not zero behind it. -/
theorem burst_ne (n m mask : Nat) (h : mask < 2 ^ 32) (hne : mask ≠ 0) : feed 0 (List.replicate n false ++ bits 32 mask ++ List.replicate m false) ≠ 0 := by
  rw [feed_append, feed_append, feed_zeros 0 n, zeros_zero, feed_bits 32 0 mask h, Nat.zero_xor, feed_zeros]
  exact zeros_ne (feed_lt _ h) (zeros_ne h hne 32) m

/-! ### Bytes -/
def byteBits (b : UInt8) : List Bool := bits 8 b.toNat
def allBits (l : List UInt8) : List Bool := l.flatMap byteBits
theorem allBits_append (l m : List UInt8) : allBits (l ++ m) = allBits l ++ allBits m := by simp [allBits]
theorem allBits_cons (b : UInt8) (l : List UInt8) : allBits (b :: l) = byteBits b ++ allBits l := by simp [allBits]
theorem allBits_length (l : List UInt8) : (allBits l).length = 8 * l.length := by
  induction l with
  | nil => rfl
  | cons b l ih =>
    rw [allBits_cons, List.length_append, ih, byteBits, bits_length, List.length_cons]
    omega
theorem allBits_get (l : List UInt8) : ∀ (i : Nat) (h : i < 8 * l.length), (allBits l)[i]? = some ((l[i / 8]'(by omega)).toNat.testBit (i % 8)) := by
  induction l with
  | nil => intro i h; simp at h
  | cons b l ih =>
    intro i h
    rw [allBits_cons, List.getElem?_append]
    rw [byteBits, bits_length]
    split
    · rename_i h8
      have e1 : i / 8 = 0 := by omega
      have e2 : i % 8 = i := by omega
      simp [bits, h8, e1, e2]
    · rename_i h8
      rw [List.length_cons] at h
      rw [ih (i - 8) (by omega)]
      have e1 : i / 8 = (i - 8) / 8 + 1 := by omega
      have e2 : (i - 8) % 8 = i % 8 := by omega
      simp only [e1, e2, List.getElem_cons_succ]

/-- The register behind the bytes, and the checksum. -/
def reg (r : Nat) (l : List UInt8) : Nat := feed r (allBits l)
def sumN (l : List UInt8) : Nat := ones ^^^ reg ones l
theorem reg_append (r : Nat) (l m : List UInt8) : reg r (l ++ m) = reg (reg r l) m := by simp [reg, allBits_append, feed_append]
theorem reg_lt {r : Nat} (h : r < 2 ^ 32) (l : List UInt8) : reg r l < 2 ^ 32 := feed_lt _ h
theorem sumN_lt (l : List UInt8) : sumN l < 2 ^ 32 := Nat.xor_lt_two_pow (by decide) (reg_lt (by decide) l)
theorem ones_xor_self (x : Nat) : ones ^^^ (ones ^^^ x) = x := by rw [← Nat.xor_assoc, Nat.xor_self, Nat.zero_xor]

/-- Four bytes, the lowest first. -/
def le4 (x : Nat) : List UInt8 := [UInt8.ofNat x, UInt8.ofNat (x >>> 8), UInt8.ofNat (x >>> 16), UInt8.ofNat (x >>> 24)]
theorem byteBits_shift (x k : Nat) : byteBits (UInt8.ofNat (x >>> k)) = (List.range 8).map fun i => x.testBit (k + i) := by
  unfold byteBits bits
  apply List.map_congr_left
  intro i hi
  have : i < 8 := by simpa using hi
  rw [UInt8.toNat_ofNat', show (2 : Nat) ^ 8 = 2 ^ 8 from rfl, Nat.testBit_mod_two_pow, Nat.testBit_shiftRight]
  simp [this]
theorem allBits_le4 (x : Nat) : allBits (le4 x) = bits 32 x := by
  have h0 := byteBits_shift x 0
  rw [Nat.shiftRight_zero] at h0
  simp only [le4, allBits, List.flatMap_cons, List.flatMap_nil, List.append_nil, h0, byteBits_shift]
  rfl

/-- What is sealed leaves the same register, whatever the bytes. -/
theorem sealed_reg (l : List UInt8) : reg ones (l ++ le4 (sumN l)) = zeros ones 32 := by
  rw [reg_append, reg, allBits_le4, feed_bits 32 _ _ (sumN_lt l)]
  congr 1
  rw [sumN, Nat.xor_comm ones, ← Nat.xor_assoc, Nat.xor_self, Nat.zero_xor]

/-- **No burst is lost.** If t is s with a burst of at most 32 bits in it, and s is sealed, t is not. -/
theorem burst_told (l m s t : List UInt8) (n mask : Nat) (hs : s = l ++ le4 (sumN l)) (ht : t = m ++ le4 (sumN m)) (hl : s.length = t.length) (hn : n + 32 ≤ 8 * s.length) (hm : mask < 2 ^ 32) (hne : mask ≠ 0)
    (hb : ∀ i (h : i < 8 * s.length), (t[i / 8]'(by omega)).toNat.testBit (i % 8) = ((s[i / 8]'(by omega)).toNat.testBit (i % 8) ^^ (decide (n ≤ i) && decide (i < n + 32) && mask.testBit (i - n)))) : False := by
  have h1 := sealed_reg l
  have h2 := sealed_reg m
  rw [← hs] at h1
  rw [← ht] at h2
  let e := List.replicate n false ++ bits 32 mask ++ List.replicate (8 * s.length - n - 32) false
  have hel : e.length = 8 * s.length := by
    show (List.replicate n false ++ bits 32 mask ++ List.replicate (8 * s.length - n - 32) false).length = _
    rw [List.length_append, List.length_append, List.length_replicate, bits_length, List.length_replicate]
    omega
  have hz : allBits t = List.zipWith (· ^^ ·) (allBits s) e := by
    apply List.ext_getElem?
    intro i
    rw [List.getElem?_zipWith]
    by_cases hi : i < 8 * s.length
    · rw [allBits_get t i (by omega), allBits_get s i hi, hb i hi]
      have he : e[i]? = some (decide (n ≤ i) && decide (i < n + 32) && mask.testBit (i - n)) := by
        show (List.replicate n false ++ bits 32 mask ++ List.replicate (8 * s.length - n - 32) false)[i]? = _
        rw [List.getElem?_append, List.length_append, List.length_replicate, bits_length]
        split
        · rename_i h3
          rw [List.getElem?_append, List.length_replicate]
          split
          · rename_i h4
            have : ¬ n ≤ i := by omega
            simp [h4, this]
          · rename_i h4
            have h5 : n ≤ i := by omega
            have h6 : i - n < 32 := by omega
            simp [bits, h3, h5, h6]
        · rename_i h3
          have h4 : i - (n + 32) < 8 * s.length - n - 32 := by omega
          have : ¬ i < n + 32 := h3
          simp [h4, this]
      rw [he]
    · rw [List.getElem?_eq_none (by rw [allBits_length]; omega), List.getElem?_eq_none (by rw [allBits_length]; omega)]
  have h3 := feed_xor (allBits s) e (by rw [allBits_length, hel]) ones 0
  rw [Nat.xor_zero, ← hz] at h3
  have h4 : reg ones t = reg ones s ^^^ feed 0 e := h3
  rw [h1, h2] at h4
  have h5 : feed 0 e = 0 := by
    have := congrArg (zeros ones 32 ^^^ ·) h4
    simpa [← Nat.xor_assoc] using this.symm
  exact burst_ne n _ mask hm hne h5
end Go.Proofs.YthicidpdgggbjaaDoor.Crc

/-
  The steps of the register as the walks write them: over the integers.
  Conditions: none beyond those that each theorem names.
-/

namespace Go.Proofs.YthicidpdgggbjaaDoor.Crc

/-- The register as the integer that the walks carry. -/
def regI (r : Nat) : Int := (r : Nat)
theorem regI_lt {r : Nat} (h : r < 2 ^ 32) : 0 ≤ regI r ∧ regI r < 4294967296 := by unfold regI; omega

theorem bits_snoc (n X : Nat) : bits (n + 1) X = bits n X ++ [X.testBit n] := by simp [bits, List.range_succ]
theorem feed_bit (r n X : Nat) : feed r (bits (n + 1) X) = stp (feed r (bits n X)) (X.testBit n) := by rw [bits_snoc, feed_append]; rfl

theorem and1 (r : Nat) : r &&& 1 = (r.testBit 0).toNat := by
  rw [Nat.and_one_is_mod, Nat.testBit_zero]
  rcases Nat.mod_two_eq_zero_or_one r with h | h <;> simp [h]
theorem and_one {r : Nat} (h : r < 2 ^ 32) : Go.bits .and .u32 (regI r) 1 = ((r.testBit 0).toNat : Nat) := by
  have := u32_and_nat r 1 (by simpa using h) (by decide)
  rw [and1] at this
  exact this
theorem and_byte {b j : Nat} (h : b < 256) : Go.bits .and .u32 ((b : Int) / 2 ^ j % 4294967296) 1 = ((b.testBit j).toNat : Nat) := by
  have hb : b / 2 ^ j ≤ b := Nat.div_le_self _ _
  have e : (b : Int) / 2 ^ j % 4294967296 = ((b / 2 ^ j : Nat) : Int) := by
    have : ((b : Int) / 2 ^ j) = ((b / 2 ^ j : Nat) : Int) := by rw [Int.natCast_ediv, Int.natCast_pow]; rfl
    rw [this]
    generalize b / 2 ^ j = q at hb
    omega
  have := and_one (r := b / 2 ^ j) (by omega)
  rw [e]
  rw [regI] at this
  rw [this, Nat.testBit_div_two_pow, Nat.zero_add]
theorem ne_bits {b j r : Nat} {z : Bool} (hb : b < 256) (hr : r < 2 ^ 32)
    (h : (Go.bits .and .u32 ((b : Int) / 2 ^ j % 4294967296) 1 != Go.bits .and .u32 (regI r) 1) = z) : (r.testBit 0 != b.testBit j) = z := by
  rw [and_byte hb, and_one hr] at h
  rw [← h]
  cases r.testBit 0 <;> cases b.testBit j <;> rfl
theorem half (r : Nat) : regI r / (2 : Int) = ((r >>> 1 : Nat) : Int) := by
  rw [Nat.shiftRight_eq_div_pow]
  unfold regI
  omega
theorem step_yes {b j r : Nat} (hb : b < 256) (hr : r < 2 ^ 32)
    (h : (Go.bits .and .u32 ((b : Int) / 2 ^ j % 4294967296) 1 != Go.bits .and .u32 (regI r) 1) = true) :
    Go.bits .xor .u32 (regI r / 2) 2197175160 = regI (stp r (b.testBit j)) := by
  have h1 := ne_bits hb hr h
  rw [half]
  have h2 : r >>> 1 < 4294967296 := by rw [Nat.shiftRight_eq_div_pow]; omega
  have := u32_xor_nat (r >>> 1) poly h2 (by decide)
  unfold stp
  rw [h1]
  exact this
theorem step_no {b j r : Nat} (hb : b < 256) (hr : r < 2 ^ 32)
    (h : (Go.bits .and .u32 ((b : Int) / 2 ^ j % 4294967296) 1 != Go.bits .and .u32 (regI r) 1) = false) :
    regI r / 2 = regI (stp r (b.testBit j)) := by
  have h1 := ne_bits hb hr h
  rw [half]
  unfold stp regI
  rw [h1]
  simp

theorem xor_ones {r : Nat} (h : r < 2 ^ 32) : ones ^^^ r = 4294967295 - r := by
  apply Nat.eq_of_testBit_eq
  intro i
  rw [Nat.testBit_xor]
  have e1 : (4294967295 - r).testBit i = (decide (i < 32) && !r.testBit i) := by
    have := Nat.testBit_two_pow_sub_succ h i
    rw [← this]
    congr 1
    omega
  have e2 : ones.testBit i = decide (i < 32) := Nat.testBit_two_pow_sub_one 32 i
  rw [e1, e2]
  by_cases hi : i < 32
  · simp [hi]
  · have : r.testBit i = false := Nat.testBit_lt_two_pow (Nat.lt_of_lt_of_le h (Nat.pow_le_pow_right (by omega) (by omega)))
    simp [hi, this]
theorem not_reg {r : Nat} (h : r < 2 ^ 32) : (4294967295 - regI r) % 4294967296 = regI (ones ^^^ r) := by
  rw [xor_ones h]
  unfold regI
  omega
theorem not_reg' {r : Nat} (h : r < 2 ^ 32) : 4294967295 - regI r = regI (ones ^^^ r) := by
  rw [xor_ones h]
  unfold regI
  omega

theorem not_u32 {r : Nat} (h : r < 2 ^ 32) : Go.bits .xor .u32 IntKind.u32.max (regI r) = regI (ones ^^^ r) := u32_xor_nat ones r (by decide) (by simpa using h)
theorem ones_lt : ones < 2 ^ 32 := by decide
theorem not_lt {r : Nat} (h : r < 2 ^ 32) : ones ^^^ r < 2 ^ 32 := Nat.xor_lt_two_pow ones_lt h

/-! ### Four bits at a time -/
theorem zeros_xor (n r s : Nat) : zeros (r ^^^ s) n = zeros r n ^^^ zeros s n := by
  have := feed_xor (List.replicate n false) (List.replicate n false) rfl r s
  rw [← feed_zeros, ← feed_zeros, ← feed_zeros, ← this]
  congr 1
  simp
theorem zeros_add (r m n : Nat) : zeros r (m + n) = zeros (zeros r m) n := by
  rw [← feed_zeros, ← feed_zeros, ← feed_zeros, ← feed_append, List.replicate_append_replicate]
theorem stp_even (q : Nat) : stp (2 * q) false = q := by
  unfold stp
  simp [Nat.shiftRight_eq_div_pow]
theorem zeros_16 (q : Nat) : zeros (16 * q) 4 = q := by
  rw [zeros_succ, show 16 * q = 2 * (8 * q) from by omega, stp_even, zeros_succ, show 8 * q = 2 * (4 * q) from by omega, stp_even, zeros_succ, show 4 * q = 2 * (2 * q) from by omega, stp_even, zeros_succ, stp_even]
  rfl
theorem four (r : Nat) : zeros r 4 = (r >>> 4) ^^^ zeros (r &&& 15) 4 := by
  have e : r = (16 * (r >>> 4)) ^^^ (r &&& 15) := by
    apply Nat.eq_of_testBit_eq
    intro i
    rw [Nat.testBit_xor, Nat.testBit_and, show 16 * (r >>> 4) = 2 ^ 4 * (r >>> 4) from rfl, Nat.testBit_two_pow_mul, Nat.testBit_shiftRight, show (15 : Nat) = 2 ^ 4 - 1 from rfl, Nat.testBit_two_pow_sub_one]
    by_cases hi : 4 ≤ i
    · have h1 : ¬ i < 4 := by omega
      rw [show 4 + (i - 4) = i from by omega]
      simp [hi, h1]
    · have h1 : i < 4 := by omega
      simp [hi, h1]
  have := zeros_xor 4 (16 * (r >>> 4)) (r &&& 15)
  rw [← e, zeros_16] at this
  exact this
/-- What four shifts leave. -/
def eff (v : Nat) : Nat := zeros v 4
theorem eff_lt {v : Nat} (h : v < 2 ^ 32) : eff v < 2 ^ 32 := feed_lt _ h
theorem byte_step {r c : Nat} (hc : c < 256) : zeros (zeros (r ^^^ c) 4) 4 = feed r (bits 8 c) := by
  rw [feed_bits 8 r c (by simpa using hc), ← zeros_add]
theorem and15 {r : Nat} (h : r < 2 ^ 32) : Go.bits .and .u32 (regI r) 15 = ((r &&& 15 : Nat) : Int) := u32_and_nat r 15 (by simpa using h) (by decide)
theorem and15_lt (r : Nat) : r &&& 15 < 16 := by
  rw [show (15 : Nat) = 2 ^ 4 - 1 from rfl, Nat.and_two_pow_sub_one_eq_mod]
  exact Nat.mod_lt _ (by decide)
theorem shr4 (r : Nat) : regI r / (16 : Int) = regI (r >>> 4) := by
  rw [Nat.shiftRight_eq_div_pow]
  unfold regI
  omega
theorem xor_four {r : Nat} (h : r < 2 ^ 32) : Go.bits .xor .u32 (regI (r >>> 4)) (regI (eff (r &&& 15))) = regI (zeros r 4) := by
  have h2 : r >>> 4 < 4294967296 := by rw [Nat.shiftRight_eq_div_pow]; omega
  have h3 := and15_lt r
  have := u32_xor_nat (r >>> 4) (eff (r &&& 15)) h2 (by have := @eff_lt (r &&& 15) (by omega); simpa using this)
  rw [four r]
  exact this
theorem xor_byte {r c : Nat} (hr : r < 2 ^ 32) (hc : c < 256) : Go.bits .xor .u32 (regI r) (c : Int) = regI (r ^^^ c) := u32_xor_nat r c (by simpa using hr) (by omega)
theorem xor_byte_lt {r c : Nat} (hr : r < 2 ^ 32) (hc : c < 256) : r ^^^ c < 2 ^ 32 := Nat.xor_lt_two_pow hr (by omega)
theorem zeros_lt {r : Nat} (h : r < 2 ^ 32) (n : Nat) : zeros r n < 2 ^ 32 := feed_lt _ h
theorem reg_snoc (r : Nat) (l : List UInt8) (b : UInt8) : reg r (l ++ [b]) = feed (reg r l) (bits 8 b.toNat) := by
  rw [reg_append]
  simp [reg, allBits, byteBits]
theorem zeros_snoc (r n : Nat) : zeros r (n + 1) = stp (zeros r n) false := by rw [zeros_add]; rfl
/-- r>>1 ^ (r&1)*poly. -/
theorem step_mul {r : Nat} (h : r < 2 ^ 32) : Go.bits .xor .u32 (regI r / 2) (Go.bits .and .u32 (regI r) 1 * 2197175160 % 4294967296) = regI (stp r false) := by
  rw [and_one h, half]
  have h2 : r >>> 1 < 4294967296 := by rw [Nat.shiftRight_eq_div_pow]; omega
  unfold stp
  cases hb : r.testBit 0 with
  | true => exact u32_xor_nat (r >>> 1) poly h2 (by decide)
  | false =>
    have := u32_xor_nat (r >>> 1) 0 h2 (by decide)
    exact this
end Go.Proofs.YthicidpdgggbjaaDoor.Crc

/-
  The walk of the reference's Sum.
  Conditions: at most 100000 bytes.
-/

namespace Go.Proofs.YthicidpdgggbjaaDoor
open Go.RowKit
open Crc (regI)

theorem int_same {k : IntKind} {a b : Int} (h : a = b) : Value.int k a = .int k b := by rw [h]

set_option maxHeartbeats 400000 in
theorem refSum_any (B n c : Nat) (A : Option Addr) (l : List UInt8) (w : World) (h : Lies w B 1 A n (BC l)) (hn : n ≤ 100000) :
    Calls Tryd.prog 68 #[.slice A n c] w fun e w' => e = .returned (.int .u32 (regI (Crc.sumN l))) ∧ w = w' := by
  have hl : l.length = n := by have := h.len; rw [BC_length] at this; omega
  have HL := Lib.hid hl
  have HH := Lib.hid h
  clear hl h
  go_enter Tryd.func68, Tryd.ntmps68
  go_wp2
  go_loop [3, 4] (fun r i => ∃ k : Nat, k ≤ n ∧ i = .int .i64 k ∧ r = .int .u32 (regI (Crc.reg Crc.ones (l.take k)))) (fun _ i => n - (intOf i).toNat)
  case atStart => exact ⟨0, Nat.zero_le _, rfl, rfl⟩
  case round =>
    obtain ⟨k, hk, rfl, rfl⟩ := hrel
    have hr0 : Crc.reg Crc.ones (l.take k) < 2 ^ 32 := Crc.reg_lt (by decide) _
    by_cases hlt : k < n
    · obtain ⟨a, u, rfl, hb, hx, hc⟩ := HH.out.get hlt
      have hkl : k < l.length := by rw [HL.out]; exact hlt
      rw [BC_get l k hkl] at hx
      injection hx with hx
      subst hx
      have R0 := Lib.hid hr0
      clear hr0
      go_wp2
      go_loop [3, 5] (fun r i => ∃ j : Nat, j ≤ 8 ∧ i = .int .i64 j ∧ r = .int .u32 (regI (Crc.feed (Crc.reg Crc.ones (l.take k)) (Crc.bits j l[k].toNat)))) (fun _ i => 8 - (intOf i).toNat)
      case atStart => exact ⟨0, Nat.zero_le _, rfl, rfl⟩
      case round =>
        obtain ⟨j, hj, rfl, rfl⟩ := hrel
        have R1 := Lib.hid (Crc.feed_lt (Crc.bits j l[k].toNat) R0.out)
        by_cases hlt : j < 8
        · go_wp2
          · rename_i h
            refine ⟨⟨j + 1, by omega, by go_num, int_same ?_⟩, by simp [intOf]; omega⟩
            rw [Crc.feed_bit]
            exact Crc.step_yes (u8_lt _) R1.out h
          · rename_i h
            refine ⟨⟨j + 1, by omega, by go_num, int_same ?_⟩, by simp [intOf]; omega⟩
            rw [Crc.feed_bit]
            exact Crc.step_no (u8_lt _) R1.out h
        · go_wp2
          obtain rfl : j = 8 := by omega
          refine ⟨⟨k + 1, by omega, by go_num, int_same ?_⟩, by simp [intOf]; omega⟩
          rw [take_snoc l k hkl, Crc.reg_snoc]
    · have hb := Crc.regI_lt hr0
      have R0 := Lib.hid hr0
      clear hr0
      go_wp2
      go_ret
      refine ⟨?_, rfl⟩
      rw [List.take_of_length_le (by rw [HL.out]; omega)] at *
      first
        | rw [Crc.not_reg R0.out]; rfl
        | rw [Crc.not_reg' R0.out]; rfl
end Go.Proofs.YthicidpdgggbjaaDoor

/-
  The walk of fourBitEffects.
  Conditions: none.
-/

namespace Go.Proofs.YthicidpdgggbjaaDoor
open Go.RowKit
set_option maxRecDepth 8000
open Crc (regI)

def tabL (k : Nat) : List Value := (List.range 16).map fun j => if j < k then Value.int .u32 (regI (Crc.eff j)) else .int .u32 0
def tabA (k : Nat) : Array Value := (tabL k).toArray
theorem tabA_size (k : Nat) : (tabA k).size = 16 := by simp [tabA, tabL]
theorem tabA_get (k j : Nat) (h : j < 16) : (tabA k)[j]? = some (if j < k then Value.int .u32 (regI (Crc.eff j)) else .int .u32 0) := by
  simp [tabA, tabL, h]
theorem tabA_one (k : Nat) : (tabA k).all (·.oneCell') = true := by
  rw [Array.all_eq_true_iff_forall_mem]
  intro v hv
  simp only [tabA, tabL, List.mem_toArray, List.mem_map] at hv
  obtain ⟨j, _, rfl⟩ := hv
  split <;> rfl
theorem tabA_set (k : Nat) (h : k < 16) : (tabA k).setIfInBounds k (.int .u32 (regI (Crc.eff k))) = tabA (k + 1) := by
  apply Array.ext_getElem?
  intro j
  rw [Array.getElem?_setIfInBounds]
  by_cases hj : j < 16
  · rw [tabA_get _ _ hj, tabA_get _ _ hj]
    by_cases e : k = j
    · subst e
      simp [tabA_size, hj]
    · rw [if_neg e]
      congr 1
      by_cases h1 : j < k
      · rw [if_pos h1, if_pos (by omega)]
      · rw [if_neg h1, if_neg (by omega)]
  · rw [if_neg (by omega), Array.getElem?_eq_none (by rw [tabA_size]; omega), Array.getElem?_eq_none (by rw [tabA_size]; omega)]

theorem arr_info : (Tryd.prog.info? 156).map (fun i => (i.zero, i.size)) = some (some (.agg (tabA 0)), 16) := by kernel_rfl

def EW (w : World) (k : Nat) : World := (w.alloc (.cells (tabA 0) 156)).alloc (.cells (tabA k) 156)
theorem EW_heap (w : World) (k : Nat) : (EW w k).heap[w.heap.size + 1]? = some (.cells (tabA k) 156 (0, 0)) := heap_alloc2_new w _ _
theorem EW_cell (w : World) (k j : Nat) (h : j < 16) : (EW w k).cell? ⟨w.heap.size + 1, j, none⟩ = some (if j < k then Value.int .u32 (regI (Crc.eff j)) else .int .u32 0) := by
  rw [cell_of_row _ _ j _ _ _ (EW_heap w k), tabA_get k j h]
theorem EW_frozen (w : World) (k j : Nat) : (EW w k).frozen? ⟨w.heap.size + 1, j, none⟩ = false := frozen_of_row _ _ j _ _ (EW_heap w k)
theorem EW_set (w : World) (k : Nat) (h : k < 16) : (EW w k).setCell ⟨w.heap.size + 1, k, none⟩ (.int .u32 (regI (Crc.eff k))) = EW w (k + 1) := by
  rw [setCell_eq_setRow _ _ k _ _ _ _ (EW_heap w k), tabA_set k h]
  have := World.setRow_alloc_new (w.alloc (.cells (tabA 0) 156)) (tabA k) (tabA (k + 1)) 156
  rw [show (w.alloc (.cells (tabA 0) 156)).heap.size = w.heap.size + 1 from by simp] at this
  exact this
theorem below_setRow {B : Nat} {a w : World} (h : Below B a w) {g : Nat} (hg : B ≤ g) (cs : Array Value) : Below B a (w.setRow g cs) :=
  ⟨h.os, h.tape, h.output, by rw [size_setRow]; exact h.size, fun k hk => by rw [setRow_other w g k cs (by omega)]; exact h.block k hk⟩
theorem EW_below (w : World) (k : Nat) : Below w.heap.size w (EW w k) := ((Below.refl _ _).alloc (Nat.le_refl _) _).alloc (by simp) _

set_option maxHeartbeats 400000 in
theorem eff_any (w : World) : Calls Tryd.prog 100 #[] w fun e w' => e = .returned (.agg (tabA 16)) ∧ Below w.heap.size w w' := by
  have hzero := (zero_of_info arr_info).1
  have hinfo := Lib.hid (zero_of_info arr_info).2
  go_enter Tryd.func100, Tryd.ntmps100
  go_wp2
  go_loopw [5] (fun i wr => ∃ k : Nat, k ≤ 16 ∧ i = .int .i64 k ∧ wr = EW w k) (fun i _ => 16 - (intOf i).toNat)
  case atStart => exact ⟨0, Nat.zero_le _, rfl, rfl⟩
  case round =>
    obtain ⟨k, hk, rfl, rfl⟩ := hrel
    by_cases hlt : k < 16
    · go_wp2
      go_loop [3, 10] (fun r i => ∃ j : Nat, j ≤ 4 ∧ i = .int .i64 j ∧ r = .int .u32 (regI (Crc.zeros k j))) (fun _ i => 4 - (intOf i).toNat)
      case atStart => exact ⟨0, Nat.zero_le _, rfl, rfl⟩
      case round =>
        obtain ⟨j, hj, rfl, rfl⟩ := hrel
        have hr : Crc.zeros k j < 2 ^ 32 := Crc.zeros_lt (by omega) j
        have hrb := Crc.regI_lt hr
        have R0 := Lib.hid hr
        clear hr
        by_cases hlt2 : j < 4
        · go_wp2
          refine ⟨⟨j + 1, by omega, by go_num, int_same ?_⟩, by simp [intOf]; omega⟩
          rw [Crc.zeros_snoc]
          exact Crc.step_mul R0.out
        · obtain rfl : j = 4 := by omega
          have hcell := EW_cell w k k hlt
          have hfr := EW_frozen w k k
          go_wp2
          refine ⟨⟨k + 1, by omega, by go_num, EW_set w k hlt⟩, by simp [intOf]; omega⟩
    · have K16 := Lib.hid (show k = 16 from by omega)
      go_wp2_with (first
        | refine wpList_load_row rfl 156 (.tmp 1) rfl (w.heap.size + 1) rfl 156 (tabA k) (0, 0) _ (EW_heap w k) Tryd.underlying156 rfl (by rw [tabA_size]; exact hinfo.out) ?_
        | refine wpList_store_row rfl 156 (.tmp 0) (.tmp 24) rfl w.heap.size (tabA k) rfl rfl 156 (tabA 0) (heap_alloc2_old w _ _) (by rw [tabA_size]; exact hinfo.out) (by rw [tabA_size, tabA_size]) (tabA_one k) ?_)
      refine bodyPost_ret (v := .agg (tabA 16)) ?_ rfl ⟨rfl, ?_⟩
      · rw [← K16.out]
        exact results_cell_row Tryd.results100 _ _ w.heap.size 156 (tabA k) (0, 0) _ rfl (setRow_heap _ _ _ _ _ _ (heap_alloc2_old w _ _)) Tryd.underlying156 rfl (by rw [tabA_size]; exact hinfo.out)
      · exact below_setRow (EW_below w k) (Nat.le_refl _) _
end Go.Proofs.YthicidpdgggbjaaDoor

/-
  The walks of seal.Go and seal.Sum.
  Conditions: at most 100000 bytes.
-/

namespace Go.Proofs.YthicidpdgggbjaaDoor
open Go.RowKit
set_option maxRecDepth 8000
open Crc (regI)

def GW (w : World) : World := w.alloc (.cells (tabA 16) 156)
theorem GW_cell (w : World) (j : Nat) (h : j < 16) : (GW w).cell? ⟨w.heap.size, j, none⟩ = some (Value.int .u32 (regI (Crc.eff j))) := by
  rw [cell_of_row _ _ j _ _ _ (show (GW w).heap[w.heap.size]? = some (.cells (tabA 16) 156 (0, 0)) from heap_alloc_new w _), tabA_get 16 j h, if_pos h]

def goN (s : Nat) (l : List UInt8) : Nat := Crc.ones ^^^ Crc.reg (Crc.ones ^^^ s) l

set_option maxHeartbeats 400000 in
theorem go_any (B n c s : Nat) (A : Option Addr) (l : List UInt8) (w : World) (hs : s < 2 ^ 32) (h : Lies w B 1 A n (BC l)) (hB : B ≤ w.heap.size) (hn : n ≤ 100000) :
    Calls Tryd.prog 91 #[.int .u32 (regI s), .slice A n c] w fun e w' => e = .returned (.int .u32 (regI (goN s l))) ∧ Below w.heap.size w w' := by
  have hl : l.length = n := by have := h.len; rw [BC_length] at this; omega
  have HL := Lib.hid hl
  have HH := Lib.hid h
  have hzero := (zero_of_info arr_info).1
  have hinfo := Lib.hid (zero_of_info arr_info).2
  have hsb := Crc.regI_lt hs
  have hnot := Crc.not_u32 hs
  have HS := Lib.hid hs
  clear hl h hs
  go_enter Tryd.func91, Tryd.ntmps91
  go_wp2_with (first
    | (go_at_call 100; refine (eff_any _).mono ?_; rintro e w1 ⟨rfl, hb1⟩)
    | refine wpList_store_row rfl 156 (.tmp 5) (.tmp 9) rfl w1.heap.size (tabA 16) rfl rfl 156 (tabA 0) (heap_alloc_new w1 _) (by rw [tabA_size]; exact hinfo.out) (by rw [tabA_size, tabA_size]) (tabA_one 16) ?_)
  rw [World.setRow_alloc_new, show w1.alloc (.cells (tabA 16) 156) = GW w1 from rfl]
  have hbg : Below w.heap.size w (GW w1) := hb1.alloc hb1.size _
  have HG := Lib.hid (HH.out.under (hbg.mono hB))
  have RS := Lib.hid (Crc.not_lt HS.out)
  clear hb1 hnot HH
  go_loop [6, 14] (fun r i => ∃ k : Nat, k ≤ n ∧ i = .int .i64 k ∧ r = .int .u32 (regI (Crc.reg (Crc.ones ^^^ s) (l.take k)))) (fun _ i => n - (intOf i).toNat)
  case atStart => exact ⟨0, Nat.zero_le _, rfl, rfl⟩
  case round =>
    obtain ⟨k, hk, rfl, rfl⟩ := hrel
    have hr0 : Crc.reg (Crc.ones ^^^ s) (l.take k) < 2 ^ 32 := Crc.reg_lt RS.out _
    by_cases hlt : k < n
    · obtain ⟨a, u, rfl, hb, hx, hc⟩ := HG.out.get hlt
      have hkl : k < l.length := by rw [HL.out]; exact hlt
      rw [BC_get l k hkl] at hx
      injection hx with hx
      subst hx
      have hu := u8_lt l[k]
      have e1 := Crc.xor_byte hr0 hu
      have l1 := Crc.xor_byte_lt hr0 hu
      have E : Hid (regI (Crc.reg (Crc.ones ^^^ s) (l.take (k + 1))) = regI (Crc.zeros (Crc.zeros (Crc.reg (Crc.ones ^^^ s) (l.take k) ^^^ l[k].toNat) 4) 4)) := by
        rw [Crc.byte_step hu, take_snoc l k hkl, Crc.reg_snoc]
        exact rfl
      have e2 := Crc.and15 l1
      have e3 := Crc.shr4 (Crc.reg (Crc.ones ^^^ s) (l.take k) ^^^ l[k].toNat)
      have e4 := Crc.xor_four l1
      have l2 := Crc.zeros_lt l1 4
      have e5 := Crc.and15 l2
      have e6 := Crc.shr4 (Crc.zeros (Crc.reg (Crc.ones ^^^ s) (l.take k) ^^^ l[k].toNat) 4)
      have e7 := Crc.xor_four l2
      have b1 := Crc.and15_lt (Crc.reg (Crc.ones ^^^ s) (l.take k) ^^^ l[k].toNat)
      have b2 := Crc.and15_lt (Crc.zeros (Crc.reg (Crc.ones ^^^ s) (l.take k) ^^^ l[k].toNat) 4)
      have c1 := GW_cell w1 _ b1
      have c2 := GW_cell w1 _ b2
      clear l1 l2 hr0 RS HS HG
      go_wp2
      refine ⟨⟨k + 1, by omega, by go_num, int_same ?_⟩, by simp [intOf]; omega⟩
      exact E.out.symm
    · have hnot := Crc.not_u32 hr0
      have R0 := Lib.hid hr0
      clear hr0
      go_wp2
      go_ret
      refine ⟨?_, hbg⟩
      rw [List.take_of_length_le (by rw [HL.out]; omega)]
      rfl

theorem goN_zero (l : List UInt8) : goN 0 l = Crc.sumN l := by unfold goN Crc.sumN; rw [Nat.xor_zero]
theorem goN_lt (s : Nat) (l : List UInt8) (h : s < 2 ^ 32) : goN s l < 2 ^ 32 := Crc.not_lt (Crc.reg_lt (Crc.not_lt h) l)

set_option maxHeartbeats 400000 in
theorem sum_any (B n c : Nat) (A : Option Addr) (l : List UInt8) (w : World) (h : Lies w B 1 A n (BC l)) (hB : B ≤ w.heap.size) (hn : n ≤ 100000) :
    Calls Tryd.prog 81 #[.slice A n c] w fun e w' => e = .returned (.int .u32 (regI (Crc.sumN l))) ∧ Below w.heap.size w w' := by
  have G := Lib.hid (go_any B n c 0 A l w (by decide) h hB hn)
  rw [goN_zero] at G
  clear h
  go_enter Tryd.func81, Tryd.ntmps81
  go_wp2_with (go_at_call 91; refine G.out.mono ?_; rintro e w1 ⟨rfl, hb1⟩)
  go_ret
  exact ⟨rfl, hb1⟩
end Go.Proofs.YthicidpdgggbjaaDoor

/-
  Walks: Same, slices.Clone, the two Put functions.
  Conditions: slices of at most 100000 bytes.
-/

namespace Go.Proofs.YthicidpdgggbjaaDoor
open Go.RowKit
set_option maxRecDepth 8000

theorem run_conv {P : Program} {w : World} {B n : Nat} {A : Option Addr} {l : List UInt8} (h : Lies w B 1 A n (BC l)) (src dst e : TypeId) (c : Nat)
    (hs : P.underlying src = some (.slice e)) (he : P.underlying e = some (.int .u8)) (hd : P.underlying dst = some .string) :
    (convert src dst (.slice A n c)).run P w = .ok (.string (strOf l)) w := by
  have hl : l.length = n := by have := h.len; rw [BC_length] at this; omega
  cases A with
  | none =>
    have hn : n = 0 := by
      by_cases hn : n = 0
      · exact hn
      · obtain ⟨a, ha, _⟩ := h.spot (by omega)
        cases ha
    subst hn
    have : l = [] := List.eq_nil_of_length_eq_zero hl
    subst this
    exact run_convert_bytes_nil w src e hs he 0 c dst hd
  | some a =>
    have hcells : ∀ j u, (BC l)[j]? = some u → w.cell? (a.add j) = some u := by
      intro j u hu
      have hj : j < n := by
        rcases Nat.lt_or_ge j n with hj | hj
        · exact hj
        · rw [List.getElem?_eq_none (by rw [BC_length]; omega)] at hu
          cases hu
      obtain ⟨a', ha, _, hx⟩ := h.spot (by omega)
      cases ha
      exact hx j u hu
    have e1 : (l.map fun b => (b.toNat : Int)).map (Value.int .u8) = BC l := by simp [BC]
    have hload : (loadCells a n).run P w = .ok ((l.map fun b => (b.toNat : Int)).map (Value.int .u8)).toArray w := by
      rw [e1]
      have := run_loadCells_list (P := P) w a (BC l) hcells
      rwa [BC_length, hl] at this
    rw [run_convert_bytes_string w src dst e _ n c hs he hd, run_bytesToString w a n c _ hload, foldl_push_bytes]
    simp [strOf, ByteArray.empty, ByteArray.emptyWithCapacity, Function.comp_def]
    rfl


set_option maxHeartbeats 400000 in
theorem equal_any (B1 n1 c1 B2 n2 c2 : Nat) (A1 A2 : Option Addr) (l1 l2 : List UInt8) (w : World) (h1 : Lies w B1 1 A1 n1 (BC l1)) (h2 : Lies w B2 1 A2 n2 (BC l2)) :
    Calls Tryd.prog 82 #[.slice A1 n1 c1, .slice A2 n2 c2] w fun e w' => e = .returned (.bool (l1 == l2)) ∧ w = w' := by
  have r1 := run_conv (P := Tryd.prog) h1 59 9 5 c1 Tryd.underlying59 Tryd.underlying5 Tryd.underlying9
  have r2 := run_conv (P := Tryd.prog) h2 59 9 5 c2 Tryd.underlying59 Tryd.underlying5 Tryd.underlying9
  clear h1 h2
  go_enter Tryd.func82, Tryd.ntmps82
  go_wp2
  go_ret
  refine ⟨?_, rfl⟩
  simp only [ByteArray.toList_eq, strOf_toList]
  rfl

theorem u8_info : (Tryd.prog.info? 5).map (fun i => (i.zero, i.size, i.bytes)) = some (some (.int .u8 0), 1, 1) := by kernel_rfl

set_option maxHeartbeats 400000 in
theorem clone_some (B n c : Nat) (a : Addr) (l : List UInt8) (w : World) (h : Lies w B 1 (some a) n (BC l)) (hB : B ≤ w.heap.size) (hn : n ≤ 100000) :
    Calls Tryd.prog 79 #[.slice (some a) n c] w fun e w' => ∃ v, e = .returned v ∧ w'.ownsRow w.heap.size 5 1 v n (BC l) ∧ Below w.heap.size w w' := by
  obtain ⟨i0, hi0, hz0, hz1, hz2⟩ := info_parts u8_info
  have hnil := fun W => Lib.run_eql_slice_nil (P := Tryd.prog) W 59 5 (some a) n c 0 0 Tryd.underlying59
  have HH := Lib.hid h
  clear h
  go_enter Tryd.func79, Tryd.ntmps79
  go_wp2_with (at_builtin; refine wpList_app _ rfl (.tmp 5) (.tmp 6) _ rfl w.heap.size 5 i0 _ 1 1 Tryd.underlying59 hi0 hz0 hz1 hz2 rfl (by omega) _ 0 [] rfl (World.ownsRow_made w #[] 0 (Nat.le_refl _) (by simp [maxLen]) rfl) B (some a) n c (BC l) rfl (HH.out.alloc hB _) (BC_one l) (by simp only [maxLen]; omega) (by omega) (by simp) ?_; intro v1 w1 hown hg)
  go_ret
  exact ⟨v1, rfl, by simpa using hown, below_own ((Below.refl _ _).alloc (Nat.le_refl _) _) (World.ownsRow_made (base := w.heap.size) (e := 5) (size := 1) w #[] 0 (Nat.le_refl _) (by simp [maxLen]) rfl) hg (Nat.le_refl _) (by simp)⟩

set_option maxHeartbeats 400000 in
theorem clone_none (n c : Nat) (w : World) :
    Calls Tryd.prog 79 #[.slice none n c] w fun e w' => e = .returned (.slice none 0 0) ∧ w = w' := by
  have hnil := fun W => Lib.run_eql_slice_nil (P := Tryd.prog) W 59 5 none n c 0 0 Tryd.underlying59
  go_enter Tryd.func79, Tryd.ntmps79
  go_wp2_with fail
  go_ret
  exact ⟨rfl, rfl⟩

/-- A new row of bytes comes back; nothing that was there has turned. -/
def RetB (w : World) (l : List UInt8) (e : Ending) (w' : World) : Prop :=
  ∃ A c, e = .returned (.slice A l.length c) ∧ w'.ownsRow w.heap.size 5 1 (.slice A l.length c) l.length (BC l) ∧ Below w.heap.size w w'

theorem RetB.mk {w w' : World} {l : List UInt8} {v : Value} {n : Nat} (h : w'.ownsRow w.heap.size 5 1 v n (BC l)) (hb : Below w.heap.size w w') : RetB w l (.returned v) w' := by
  have hl : l.length = n := by have := h.1; rw [BC_length] at this; omega
  subst hl
  obtain ⟨A, c, rfl, _⟩ := own_slice h
  exact ⟨A, c, rfl, h, hb⟩

theorem clone_any (B n c : Nat) (A : Option Addr) (l : List UInt8) (w : World) (h : Lies w B 1 A n (BC l)) (hB : B ≤ w.heap.size) (hn : n ≤ 100000) :
    Calls Tryd.prog 79 #[.slice A n c] w (RetB w l) := by
  cases A with
  | some a =>
    refine (clone_some B n c a l w h hB hn).mono ?_
    rintro e w' ⟨v, rfl, ho, hb⟩
    exact RetB.mk ho hb
  | none =>
    refine (clone_none n c w).mono ?_
    rintro e w' ⟨rfl, rfl⟩
    have hn : n = 0 := by
      by_cases hn : n = 0
      · exact hn
      · obtain ⟨a, ha, _⟩ := h.spot (by omega)
        cases ha
    have : l = [] := List.eq_nil_of_length_eq_zero (by have := h.len; rw [BC_length] at this; omega)
    subst this
    exact RetB.mk (World.ownsRow_nil w w.heap.size 5 1) (Below.refl _ _)
end Go.Proofs.YthicidpdgggbjaaDoor

/-
  Walks: word.Get gives the big-endian number.
  Conditions: a slice of at most 100000 bytes.
-/

namespace Go.Proofs.YthicidpdgggbjaaDoor
open Go.RowKit
set_option maxRecDepth 8000

set_option maxHeartbeats 400000 in
theorem get_any (B n c : Nat) (A : Option Addr) (l : List UInt8) (w : World) (h : Lies w B 1 A n (BC l)) (hn : n ≤ 100000) :
    Calls Tryd.prog 92 #[.slice A n c] w fun e w' => e = .returned (.int .u64 (getI l)) ∧ w = w' := by
  have hl : l.length = n := by have := h.len; rw [BC_length] at this; omega
  have HL := Lib.hid hl
  have HH := Lib.hid h
  clear hl h
  go_enter Tryd.func92, Tryd.ntmps92
  go_wp2
  go_loop [3, 8] (fun t i => ∃ k : Nat, k ≤ n ∧ i = .int .i64 k ∧ t = .int .u64 (getI (l.take k))) (fun _ i => n - (intOf i).toNat)
  case atStart => exact ⟨0, Nat.zero_le _, rfl, rfl⟩
  case round =>
    obtain ⟨k, hk, rfl, rfl⟩ := hrel
    by_cases hlt : k < n
    · obtain ⟨a, u, rfl, hb, hx, hc⟩ := HH.out.get hlt
      rw [BC_get l k (by rw [HL.out]; exact hlt)] at hx
      injection hx with hx
      subst hx
      go_wp2
      go_round
      case rel => exact ⟨k + 1, by omega, by go_num, by rw [take_snoc l k (by rw [HL.out]; exact hlt), ← getI_or]⟩
      case measure => simp [intOf]; omega
    · go_wp2
      go_ret
      exact ⟨by rw [List.take_of_length_le (by rw [HL.out]; omega)]; rfl, rfl⟩

/-- No byte but zeros. -/
def zeroB (l : List UInt8) : Bool := l.all (· == 0)
theorem zeroB_no (l : List UInt8) (k : Nat) (hk : k < l.length) (h : l[k] ≠ 0) : zeroB l = false := by
  unfold zeroB
  rw [List.all_eq_false]
  exact ⟨l[k], List.getElem_mem hk, by simpa using h⟩
theorem zeroB_yes (l : List UInt8) (h : ∀ (j : Nat) (hj : j < l.length), l[j] = 0) : zeroB l = true := by
  unfold zeroB
  rw [List.all_eq_true]
  intro b hb
  obtain ⟨j, hj, rfl⟩ := List.getElem_of_mem hb
  simpa using h j hj

set_option maxHeartbeats 400000 in
theorem allZero_any (B n c : Nat) (A : Option Addr) (l : List UInt8) (w : World) (h : Lies w B 1 A n (BC l)) (hn : n ≤ 100000) :
    Calls Tryd.prog 104 #[.slice A n c] w fun e w' => e = .returned (.bool (zeroB l)) ∧ w = w' := by
  have hl : l.length = n := by have := h.len; rw [BC_length] at this; omega
  have HL := Lib.hid hl
  have HH := Lib.hid h
  clear hl h
  go_enter Tryd.func104, Tryd.ntmps104
  go_wp2
  go_loop [7] (fun i => ∃ k : Nat, k ≤ n ∧ i = .int .i64 k ∧ Hid (∀ (j : Nat) (hj : j < l.length), j < k → l[j] = 0)) (fun i => n - (intOf i).toNat)
  case atStart => exact ⟨0, Nat.zero_le _, rfl, Lib.hid (fun j _ hj => by omega)⟩
  case round =>
    obtain ⟨k, hk, rfl, hz⟩ := hrel
    by_cases hlt : k < n
    · obtain ⟨a, u, rfl, hb, hx, hc⟩ := HH.out.get hlt
      have hkl : k < l.length := by rw [HL.out]; exact hlt
      rw [BC_get l k hkl] at hx
      injection hx with hx
      subst hx
      by_cases h0 : l[k] = 0
      · have h0' : ((l[k].toNat : Int) != 0) = false := by rw [h0]; rfl
        have H0 := Lib.hid h0
        clear h0
        go_wp2
        go_round
        case rel =>
          refine ⟨k + 1, by omega, by go_num, Lib.hid (fun j hj hjk => ?_)⟩
          by_cases e : j = k
          · subst e; exact H0.out
          · exact hz.out j hj (by omega)
        case measure => simp [intOf]; omega
      · have h0' : ((l[k].toNat : Int) != 0) = true := by
          rw [bne_iff_ne]
          intro e
          apply h0
          apply UInt8.toNat_inj.1
          simpa using e
        have H0 := Lib.hid (zeroB_no l k hkl h0)
        clear h0
        go_wp2
        go_ret
        exact ⟨by rw [H0.out]; rfl, rfl⟩
    · have H0 := Lib.hid (zeroB_yes l (fun j hj => hz.out j hj (by rw [HL.out] at hj; omega)))
      go_wp2
      go_ret
      exact ⟨by rw [H0.out]; rfl, rfl⟩
end Go.Proofs.YthicidpdgggbjaaDoor

/-
  Walks: the reference's Put (by recursion) and the program's two Put functions.
  Conditions: at most 100 bytes are put, behind at most 10000.
-/

namespace Go.Proofs.YthicidpdgggbjaaDoor
open Go.RowKit
set_option maxRecDepth 8000

set_option maxHeartbeats 400000 in
theorem wrefPut_any (k : Nat) : ∀ (n : Nat) (s : Int) (w : World), s ≤ k → -9223372036854775808 ≤ s → k ≤ 100 → n < 18446744073709551616 →
    Calls Tryd.prog 43 #[.int .u64 n, .int .i64 s] w (RetB w (putL n s.toNat)) := by
  induction k with
  | zero =>
    intro n s w hs hlo hk hn
    have h0 : s ≤ 0 := by omega
    have e : s.toNat = 0 := by omega
    rw [e]
    go_enter Tryd.func43, Tryd.ntmps43
    go_wp2_with fail
    go_ret
    exact RetB.mk (World.ownsRow_nil w w.heap.size 5 1) (Below.refl _ _)
  | succ k ih =>
    intro n s w hs hlo hk hn
    by_cases h0 : s ≤ 0
    · have e : s.toNat = 0 := by omega
      rw [e]
      go_enter Tryd.func43, Tryd.ntmps43
      go_wp2_with fail
      go_ret
      exact RetB.mk (World.ownsRow_nil w w.heap.size 5 1) (Below.refl _ _)
    · obtain ⟨i0, hi0, hz0, hz1, hz2⟩ := info_parts u8_info
      have IH := Lib.hid ih
      clear ih
      have hn0 : 0 ≤ (n : Int) := by omega
      go_enter Tryd.func43, Tryd.ntmps43
      go_wp2_with fail
      rw [show ((n : Int) / 256) = ((n / 256 : Nat) : Int) from by omega]
      refine (IH.out (n / 256) (s - 1) _ (by omega) (by omega) (by omega) (by omega)).mono ?_
      rintro e w1 ⟨A, c, rfl, ho, hb⟩
      have hl := putL_length (s - 1).toNat (n / 256)
      have e1 : (s - 1).toNat + 1 = s.toNat := by omega
      have e2 : (s - 1).toNat = s.toNat - 1 := by omega
      rw [hl] at ho ⊢
      rw [e2] at ho ⊢
      have E1 := Lib.hid e1
      have E2 := Lib.hid e2
      clear hl e1 e2
      have HO := Lib.hid ho
      clear ho
      go_wp2_with (at_builtin; refine wpList_app _ rfl (.tmp 11) (.tmp 15) _ rfl w.heap.size 5 i0 _ 1 1 Tryd.underlying59 hi0 hz0 hz1 hz2 rfl (by omega) _ _ _ rfl (HO.out.alloc _) _ _ _ _ _ rfl (lies_new _ _ _) (by intro u hu; rw [List.mem_singleton.1 hu]; rfl) (by simp only [maxLen]; omega) (by omega) (by have := hb.size; simp; omega) ?_; intro v2 w2 hown hg)
      go_ret
      refine RetB.mk (n := s.toNat - 1 + 1) (own_len hown ?_) (below_own (hb.alloc hb.size _) (HO.out.alloc _) hg (Nat.le_refl _) (by have := hb.size; simp; omega))
      rw [← E1.out, putL, BC_append, E2.out]
      simp [BC]
end Go.Proofs.YthicidpdgggbjaaDoor

/-
  Walks: the program's two Put functions.
  Conditions: at most 100 bytes are put, behind at most 10000.
-/

namespace Go.Proofs.YthicidpdgggbjaaDoor
open Go.RowKit
set_option maxRecDepth 8000

/-- What holds at the head of each round of Put's two loops: the bytes still to come complete what is there. -/
def PutR (w : World) (l : List UInt8) (n S : Nat) (top : Int) (sz out : Value) (wr : World) : Prop :=
  ∃ (s : Int) (p : List UInt8), sz = .int .i64 s ∧ s ≤ top ∧ -9223372036854775808 ≤ s ∧ p.length ≤ 100 ∧ Hid (p ++ putL n s.toNat = putL n S) ∧
    Hid (wr.ownsRow w.heap.size 5 1 out (l.length + p.length) (BC (l ++ p))) ∧ Below w.heap.size w wr

theorem putR_len {p : List UInt8} {n S k : Nat} (h : p ++ putL n k = putL n S) : p.length + k = S := by
  have := congrArg List.length h
  simpa [putL_length] using this

set_option maxHeartbeats 400000 in
theorem wput_any (B m c n : Nat) (A : Option Addr) (l : List UInt8) (s : Int) (w : World) (h : Lies w B 1 A m (BC l)) (hB : B ≤ w.heap.size) (hm : m ≤ 10000)
    (hn : n < 18446744073709551616) (hs : s ≤ 100) (hlo : -9223372036854775808 ≤ s) :
    Calls Tryd.prog 66 #[.slice A m c, .int .u64 n, .int .i64 s] w (RetB w (l ++ putL n s.toNat)) := by
  obtain ⟨i0, hi0, hz0, hz1, hz2⟩ := info_parts u8_info
  have hl : l.length = m := by have := h.len; rw [BC_length] at this; omega
  have HL := Lib.hid hl
  clear hl
  have CL := Lib.hid (clone_any B m c A l w h hB (by omega))
  clear h
  go_enter Tryd.func66, Tryd.ntmps66
  go_wp2_with (go_at_call 79; refine CL.out.mono ?_; rintro e w1 ⟨A1, c1, rfl, ho, hb⟩)
  have HO := Lib.hid ho
  clear ho
  go_loopw [2, 7] (fun sz out wr => PutR w l n s.toNat 100 sz out wr) (fun sz out wr => (intOf sz).toNat)
  case atStart =>
    exact ⟨s, [], rfl, hs, hlo, by simp, Lib.hid (by simp), Lib.hid (by simpa using HO.out), hb⟩
  case round =>
    obtain ⟨t, p, rfl, ht, htl, hp, hpp, hown, hbw⟩ := hrel
    by_cases h8 : 8 < t
    · go_wp2_with (at_builtin; refine wpList_app _ rfl (.tmp 14) (.tmp 15) _ rfl w.heap.size 5 i0 _ 1 1 Tryd.underlying59 hi0 hz0 hz1 hz2 rfl (by omega) _ _ _ rfl (hown.out.alloc _) _ _ _ _ _ rfl (lies_new _ _ _) (by intro u hu; rw [List.mem_singleton.1 hu]; rfl) (by have := HL.out; simp only [maxLen]; omega) (by have := HL.out; omega) (by have := hbw.size; simp; omega) ?_; intro v2 w2 hown2 hg)
      have hlen := putR_len hpp.out
      refine ⟨⟨t - 1, p ++ [0], rfl, by omega, by omega, by simp; omega, Lib.hid ?_, Lib.hid ?_, below_own (hbw.alloc hbw.size _) (hown.out.alloc _) hg (Nat.le_refl _) (by have := hbw.size; simp; omega)⟩, by simp [intOf]; omega⟩
      · rw [← hpp.out, show t.toNat = (t - 1).toNat + 1 from by omega, putL_high _ n hn (by omega)]
        simp
      · have e : l.length + (p ++ [0]).length = l.length + p.length + 1 := by simp; omega
        rw [e]
        exact own_len hown2 (by simp [BC])
    · go_wp2_with fail
      have h8' : t ≤ 8 := by omega
      go_loopw [2, 7] (fun sz out wr => PutR w l n s.toNat 8 sz out wr) (fun sz out wr => (intOf sz).toNat)
      case atStart => exact ⟨t, p, rfl, h8', htl, hp, hpp, hown, hbw⟩
      case round =>
        clear h8 h8' ht htl hp hpp hown hbw p
        obtain ⟨t, p, rfl, ht, htl, hp, hpp, hown, hbw⟩ := hrel
        by_cases h0 : 0 < t
        · go_wp2_with (at_builtin; refine wpList_app _ rfl (.tmp 21) (.tmp 28) _ rfl w.heap.size 5 i0 _ 1 1 Tryd.underlying59 hi0 hz0 hz1 hz2 rfl (by omega) _ _ _ rfl (hown.out.alloc _) _ _ _ _ _ rfl (lies_new _ _ _) (by intro u hu; rw [List.mem_singleton.1 hu]; rfl) (by have := HL.out; simp only [maxLen]; omega) (by have := HL.out; omega) (by have := hbw.size; simp; omega) ?_; intro v2 w2 hown2 hg)
          have hlen := putR_len hpp.out
          refine ⟨⟨t - 1, p ++ [UInt8.ofNat (n / 256 ^ (t - 1).toNat % 256)], rfl, by omega, by omega, by simp; omega, Lib.hid ?_, Lib.hid ?_, below_own (hbw.alloc hbw.size _) (hown.out.alloc _) hg (Nat.le_refl _) (by have := hbw.size; simp; omega)⟩, by simp [intOf]; omega⟩
          · rw [← hpp.out, show t.toNat = (t - 1).toNat + 1 from by omega, putL_cons]
            simp
          · have e : l.length + (p ++ [UInt8.ofNat (n / 256 ^ (t - 1).toNat % 256)]).length = l.length + p.length + 1 := by simp; omega
            rw [e]
            refine own_len hown2 ?_
            rw [put_byte n t h0, ← List.append_assoc, BC_append (l ++ p)]
            rfl
        · go_wp2_with fail
          go_ret
          have e : t.toNat = 0 := by omega
          have hpe : p = putL n s.toNat := by rw [← hpp.out, e]; simp [putL]
          subst hpe
          exact RetB.mk hown.out hbw
set_option maxHeartbeats 400000 in
theorem wput32_any (B m c n : Nat) (A : Option Addr) (l : List UInt8) (s : Int) (w : World) (h : Lies w B 1 A m (BC l)) (hB : B ≤ w.heap.size) (hm : m ≤ 10000)
    (hn32 : n < 4294967296) (hs : s ≤ 100) (hlo : -9223372036854775808 ≤ s) :
    Calls Tryd.prog 75 #[.slice A m c, .int .u32 n, .int .i64 s] w (RetB w (l ++ putL n s.toNat)) := by
  have hn : n < 18446744073709551616 := by omega
  obtain ⟨i0, hi0, hz0, hz1, hz2⟩ := info_parts u8_info
  have hl : l.length = m := by have := h.len; rw [BC_length] at this; omega
  have HL := Lib.hid hl
  clear hl
  have CL := Lib.hid (clone_any B m c A l w h hB (by omega))
  clear h
  go_enter Tryd.func75, Tryd.ntmps75
  go_wp2_with (go_at_call 79; refine CL.out.mono ?_; rintro e w1 ⟨A1, c1, rfl, ho, hb⟩)
  have HO := Lib.hid ho
  clear ho
  go_loopw [2, 7] (fun sz out wr => PutR w l n s.toNat 100 sz out wr) (fun sz out wr => (intOf sz).toNat)
  case atStart =>
    exact ⟨s, [], rfl, hs, hlo, by simp, Lib.hid (by simp), Lib.hid (by simpa using HO.out), hb⟩
  case round =>
    obtain ⟨t, p, rfl, ht, htl, hp, hpp, hown, hbw⟩ := hrel
    by_cases h8 : 8 < t
    · go_wp2_with (at_builtin; refine wpList_app _ rfl (.tmp 14) (.tmp 15) _ rfl w.heap.size 5 i0 _ 1 1 Tryd.underlying59 hi0 hz0 hz1 hz2 rfl (by omega) _ _ _ rfl (hown.out.alloc _) _ _ _ _ _ rfl (lies_new _ _ _) (by intro u hu; rw [List.mem_singleton.1 hu]; rfl) (by have := HL.out; simp only [maxLen]; omega) (by have := HL.out; omega) (by have := hbw.size; simp; omega) ?_; intro v2 w2 hown2 hg)
      have hlen := putR_len hpp.out
      refine ⟨⟨t - 1, p ++ [0], rfl, by omega, by omega, by simp; omega, Lib.hid ?_, Lib.hid ?_, below_own (hbw.alloc hbw.size _) (hown.out.alloc _) hg (Nat.le_refl _) (by have := hbw.size; simp; omega)⟩, by simp [intOf]; omega⟩
      · rw [← hpp.out, show t.toNat = (t - 1).toNat + 1 from by omega, putL_high _ n hn (by omega)]
        simp
      · have e : l.length + (p ++ [0]).length = l.length + p.length + 1 := by simp; omega
        rw [e]
        exact own_len hown2 (by simp [BC])
    · go_wp2_with fail
      have h8' : t ≤ 8 := by omega
      go_loopw [2, 7] (fun sz out wr => PutR w l n s.toNat 8 sz out wr) (fun sz out wr => (intOf sz).toNat)
      case atStart => exact ⟨t, p, rfl, h8', htl, hp, hpp, hown, hbw⟩
      case round =>
        clear h8 h8' ht htl hp hpp hown hbw p
        obtain ⟨t, p, rfl, ht, htl, hp, hpp, hown, hbw⟩ := hrel
        by_cases h0 : 0 < t
        · go_wp2_with (at_builtin; refine wpList_app _ rfl (.tmp 21) (.tmp 29) _ rfl w.heap.size 5 i0 _ 1 1 Tryd.underlying59 hi0 hz0 hz1 hz2 rfl (by omega) _ _ _ rfl (hown.out.alloc _) _ _ _ _ _ rfl (lies_new _ _ _) (by intro u hu; rw [List.mem_singleton.1 hu]; rfl) (by have := HL.out; simp only [maxLen]; omega) (by have := HL.out; omega) (by have := hbw.size; simp; omega) ?_; intro v2 w2 hown2 hg)
          have hlen := putR_len hpp.out
          refine ⟨⟨t - 1, p ++ [UInt8.ofNat (n / 256 ^ (t - 1).toNat % 256)], rfl, by omega, by omega, by simp; omega, Lib.hid ?_, Lib.hid ?_, below_own (hbw.alloc hbw.size _) (hown.out.alloc _) hg (Nat.le_refl _) (by have := hbw.size; simp; omega)⟩, by simp [intOf]; omega⟩
          · rw [← hpp.out, show t.toNat = (t - 1).toNat + 1 from by omega, putL_cons]
            simp
          · have e : l.length + (p ++ [UInt8.ofNat (n / 256 ^ (t - 1).toNat % 256)]).length = l.length + p.length + 1 := by simp; omega
            rw [e]
            refine own_len hown2 ?_
            rw [put_byte n t h0, ← List.append_assoc, BC_append (l ++ p)]
            rfl
        · go_wp2_with fail
          go_ret
          have e : t.toNat = 0 := by omega
          have hpe : p = putL n s.toNat := by rw [← hpp.out, e]; simp [putL]
          subst hpe
          exact RetB.mk hown.out hbw
set_option maxHeartbeats 400000 in
theorem wput8_any (B m c n : Nat) (A : Option Addr) (l : List UInt8) (s : Int) (w : World) (h : Lies w B 1 A m (BC l)) (hB : B ≤ w.heap.size) (hm : m ≤ 10000)
    (hn8 : n < 256) (hs : s ≤ 100) (hlo : -9223372036854775808 ≤ s) :
    Calls Tryd.prog 76 #[.slice A m c, .int .u8 n, .int .i64 s] w (RetB w (l ++ putL n s.toNat)) := by
  have hn : n < 18446744073709551616 := by omega
  obtain ⟨i0, hi0, hz0, hz1, hz2⟩ := info_parts u8_info
  have hl : l.length = m := by have := h.len; rw [BC_length] at this; omega
  have HL := Lib.hid hl
  clear hl
  have CL := Lib.hid (clone_any B m c A l w h hB (by omega))
  clear h
  go_enter Tryd.func76, Tryd.ntmps76
  go_wp2_with (go_at_call 79; refine CL.out.mono ?_; rintro e w1 ⟨A1, c1, rfl, ho, hb⟩)
  have HO := Lib.hid ho
  clear ho
  go_loopw [2, 7] (fun sz out wr => PutR w l n s.toNat 100 sz out wr) (fun sz out wr => (intOf sz).toNat)
  case atStart =>
    exact ⟨s, [], rfl, hs, hlo, by simp, Lib.hid (by simp), Lib.hid (by simpa using HO.out), hb⟩
  case round =>
    obtain ⟨t, p, rfl, ht, htl, hp, hpp, hown, hbw⟩ := hrel
    by_cases h8 : 8 < t
    · go_wp2_with (at_builtin; refine wpList_app _ rfl (.tmp 14) (.tmp 15) _ rfl w.heap.size 5 i0 _ 1 1 Tryd.underlying59 hi0 hz0 hz1 hz2 rfl (by omega) _ _ _ rfl (hown.out.alloc _) _ _ _ _ _ rfl (lies_new _ _ _) (by intro u hu; rw [List.mem_singleton.1 hu]; rfl) (by have := HL.out; simp only [maxLen]; omega) (by have := HL.out; omega) (by have := hbw.size; simp; omega) ?_; intro v2 w2 hown2 hg)
      have hlen := putR_len hpp.out
      refine ⟨⟨t - 1, p ++ [0], rfl, by omega, by omega, by simp; omega, Lib.hid ?_, Lib.hid ?_, below_own (hbw.alloc hbw.size _) (hown.out.alloc _) hg (Nat.le_refl _) (by have := hbw.size; simp; omega)⟩, by simp [intOf]; omega⟩
      · rw [← hpp.out, show t.toNat = (t - 1).toNat + 1 from by omega, putL_high _ n hn (by omega)]
        simp
      · have e : l.length + (p ++ [0]).length = l.length + p.length + 1 := by simp; omega
        rw [e]
        exact own_len hown2 (by simp [BC])
    · go_wp2_with fail
      have h8' : t ≤ 8 := by omega
      go_loopw [2, 7] (fun sz out wr => PutR w l n s.toNat 8 sz out wr) (fun sz out wr => (intOf sz).toNat)
      case atStart => exact ⟨t, p, rfl, h8', htl, hp, hpp, hown, hbw⟩
      case round =>
        clear h8 h8' ht htl hp hpp hown hbw p
        obtain ⟨t, p, rfl, ht, htl, hp, hpp, hown, hbw⟩ := hrel
        by_cases h0 : 0 < t
        · go_wp2_with (at_builtin; refine wpList_app _ rfl (.tmp 21) (.tmp 29) _ rfl w.heap.size 5 i0 _ 1 1 Tryd.underlying59 hi0 hz0 hz1 hz2 rfl (by omega) _ _ _ rfl (hown.out.alloc _) _ _ _ _ _ rfl (lies_new _ _ _) (by intro u hu; rw [List.mem_singleton.1 hu]; rfl) (by have := HL.out; simp only [maxLen]; omega) (by have := HL.out; omega) (by have := hbw.size; simp; omega) ?_; intro v2 w2 hown2 hg)
          have hlen := putR_len hpp.out
          refine ⟨⟨t - 1, p ++ [UInt8.ofNat (n / 256 ^ (t - 1).toNat % 256)], rfl, by omega, by omega, by simp; omega, Lib.hid ?_, Lib.hid ?_, below_own (hbw.alloc hbw.size _) (hown.out.alloc _) hg (Nat.le_refl _) (by have := hbw.size; simp; omega)⟩, by simp [intOf]; omega⟩
          · rw [← hpp.out, show t.toNat = (t - 1).toNat + 1 from by omega, putL_cons]
            simp
          · have e : l.length + (p ++ [UInt8.ofNat (n / 256 ^ (t - 1).toNat % 256)]).length = l.length + p.length + 1 := by simp; omega
            rw [e]
            refine own_len hown2 ?_
            rw [put_byte n t h0, ← List.append_assoc, BC_append (l ++ p)]
            rfl
        · go_wp2_with fail
          go_ret
          have e : t.toNat = 0 := by omega
          have hpe : p = putL n s.toNat := by rw [← hpp.out, e]; simp [putL]
          subst hpe
          exact RetB.mk hown.out hbw
end Go.Proofs.YthicidpdgggbjaaDoor

/-
  Walks: the program's Text and the reference's.
  Conditions: behind at most 10000 bytes.
-/

namespace Go.Proofs.YthicidpdgggbjaaDoor
open Go.RowKit
set_option maxRecDepth 8000

theorem strCells_BC (s : ByteArray) : Lib.strCells s = BC s.data.toList := rfl

set_option maxHeartbeats 400000 in
theorem text_range (m c : Nat) (A : Option Addr) (s : ByteArray) (size : Int) (w : World) (hs : size < 1 ∨ 256 < size) :
    Calls Tryd.prog 77 #[.slice A m c, .string s, .int .i64 size] w fun e w' => e = .returned (.tuple #[.slice none 0 0, .int .i64 2]) ∧ w = w' := by
  by_cases h1 : size < 1
  · go_enter Tryd.func77, Tryd.ntmps77
    go_wp2_with fail
    go_ret2
    exact ⟨rfl, rfl⟩
  · have h2 : 256 < size := by omega
    go_enter Tryd.func77, Tryd.ntmps77
    go_wp2_with fail
    go_ret2
    exact ⟨rfl, rfl⟩

set_option maxHeartbeats 400000 in
theorem text_size (m c : Nat) (A : Option Addr) (s : ByteArray) (size : Int) (w : World) (h1 : 1 ≤ size) (h2 : size ≤ 256) (h3 : size ≤ s.size) :
    Calls Tryd.prog 77 #[.slice A m c, .string s, .int .i64 size] w fun e w' => e = .returned (.tuple #[.slice none 0 0, .int .i64 9]) ∧ w = w' := by
  go_enter Tryd.func77, Tryd.ntmps77
  go_wp2_with fail
  go_ret2
  exact ⟨rfl, rfl⟩

set_option maxHeartbeats 400000 in
theorem text_ok (B m c : Nat) (A : Option Addr) (l : List UInt8) (s : ByteArray) (size : Int) (w : World) (h : Lies w B 1 A m (BC l)) (hB : B ≤ w.heap.size) (hm : m ≤ 10000)
    (h1 : 1 ≤ size) (h2 : size ≤ 256) (h3 : (s.size : Int) < size) :
    Calls Tryd.prog 77 #[.slice A m c, .string s, .int .i64 size] w fun e w' => ∃ A' n' c', e = .returned (.tuple #[.slice A' n' c', .int .i64 0]) ∧
      w'.ownsRow w.heap.size 5 1 (.slice A' n' c') n' (BC (l ++ fieldL s.data.toList size.toNat)) ∧ Below w.heap.size w w' := by
  obtain ⟨i0, hi0, hz0, hz1, hz2⟩ := info_parts u8_info
  have hl : l.length = m := by have := h.len; rw [BC_length] at this; omega
  have HL := Lib.hid hl
  clear hl
  have CL := Lib.hid (clone_any B m c A l w h hB (by omega))
  clear h
  go_enter Tryd.func77, Tryd.ntmps77
  go_wp2_with (first
    | (go_at_call 79; refine CL.out.mono ?_; rintro e w1 ⟨A1, c1, rfl, ho, hb⟩; have HO := Lib.hid ho; clear ho; have hb1 := hb.size)
    | (at_builtin; refine wpList_app _ rfl (.tmp 20) (.tmp 24) _ rfl w.heap.size 5 i0 _ 1 1 Tryd.underlying59 hi0 hz0 hz1 hz2 rfl (by omega) _ _ _ rfl (HO.out.alloc _) _ _ _ _ _ rfl (lies_new _ _ _) (by intro u hu; rw [List.mem_singleton.1 hu]; rfl) (by have := HL.out; simp only [maxLen]; omega) (by have := HL.out; omega) (by simp; omega) ?_
       intro v2 w2 ho2 hg2; have HO2 := Lib.hid ho2; clear ho2; have hbw2 := below_own (hb.alloc hb.size _) (HO.out.alloc _) hg2 (Nat.le_refl _) (by simp; omega); have hb2 := hbw2.size)
    | (at_builtin; refine Lib.wpList_append_own_string _ rfl (.tmp 26) (.tmp 27) _ _ rfl w.heap.size 5 i0 Tryd.underlying59 Tryd.underlying9 hi0 hz0 hz1 hz2 _ _ _ rfl HO2.out s rfl (by have := HL.out; simp only [maxLen]; omega) (by have := HL.out; omega) hb2 ?_
       intro v3 w3 ho3 hg3 _; have HO3 := Lib.hid ho3; clear ho3; have hbw3 := below_own hbw2 HO2.out hg3 (Nat.le_refl _) hb2; have hb3 := hbw3.size)
    | (at_builtin; refine wpList_app_zeros _ rfl (.tmp 29) (.tmp 34) _ _ rfl w.heap.size 5 i0 _ .i64 .i64 Tryd.underlying59 Tryd.underlying3 hi0 hz0 rfl rfl hz1 hz2 _ _ _ rfl HO3.out _ (size.toNat - 1 - s.size) rfl (by omega) (by have := HL.out; simp only [maxLen]; omega) (by have := HL.out; omega) hb3 ?_
       intro v4 w4 ho4 hg4; have HO4 := Lib.hid ho4; clear ho4; have hbw4 := below_own hbw3 HO3.out hg4 (Nat.le_refl _) hb3; have hb4 := hbw4.size))
  go_ret2
  obtain ⟨A4, c4, rfl, _⟩ := own_slice HO4.out
  refine ⟨A4, _, c4, rfl, own_len HO4.out ?_, hbw4⟩
  rw [strCells_BC, BC_zeros, BC_append, fieldL]
  have e : (s.size : Int) = ((UInt8.ofNat s.data.toList.length).toNat : Int) := by
    rw [Array.length_toList]
    simp [UInt8.toNat_ofNat']
    show (s.data.size : Int) = _
    have : s.data.size = s.size := rfl
    omega
  have e2 : s.data.toList.length = s.size := by rw [Array.length_toList]; rfl
  rw [e2] at e ⊢
  simp [BC]
  omega

set_option maxHeartbeats 400000 in
theorem refText_range (s : ByteArray) (size : Int) (w : World) (hs : size < 1 ∨ 256 < size) :
    Calls Tryd.prog 67 #[.string s, .int .i64 size] w fun e w' => e = .returned (.tuple #[.slice none 0 0, .int .i64 2]) ∧ w = w' := by
  by_cases h1 : size < 1
  · go_enter Tryd.func67, Tryd.ntmps67
    go_wp2_with fail
    go_ret2
    exact ⟨rfl, rfl⟩
  · have h2 : 256 < size := by omega
    go_enter Tryd.func67, Tryd.ntmps67
    go_wp2_with fail
    go_ret2
    exact ⟨rfl, rfl⟩

set_option maxHeartbeats 400000 in
theorem refText_size (s : ByteArray) (size : Int) (w : World) (h1 : 1 ≤ size) (h2 : size ≤ 256) (h3 : size ≤ s.size) :
    Calls Tryd.prog 67 #[.string s, .int .i64 size] w fun e w' => e = .returned (.tuple #[.slice none 0 0, .int .i64 9]) ∧ w = w' := by
  go_enter Tryd.func67, Tryd.ntmps67
  go_wp2_with fail
  go_ret2
  exact ⟨rfl, rfl⟩

def FillR (w : World) (s : ByteArray) (size : Nat) (out : Value) (wr : World) : Prop :=
  ∃ (A : Option Addr) (c j : Nat), out = .slice A (1 + s.size + j) c ∧ 1 + s.size + j ≤ size ∧
    Hid (wr.ownsRow w.heap.size 5 1 (.slice A (1 + s.size + j) c) (1 + s.size + j) ([Value.int .u8 s.size] ++ Lib.strCells s ++ List.replicate j (Value.int .u8 0))) ∧ Below w.heap.size w wr

def lenOf (v : Value) : Nat := match v with | .slice _ n _ => n | _ => 0

set_option maxHeartbeats 400000 in
theorem refText_ok (s : ByteArray) (size : Int) (w : World) (h1 : 1 ≤ size) (h2 : size ≤ 256) (h3 : (s.size : Int) < size) :
    Calls Tryd.prog 67 #[.string s, .int .i64 size] w fun e w' => ∃ A' n' c', e = .returned (.tuple #[.slice A' n' c', .int .i64 0]) ∧
      w'.ownsRow w.heap.size 5 1 (.slice A' n' c') n' (BC (fieldL s.data.toList size.toNat)) ∧ Below w.heap.size w w' := by
  obtain ⟨i0, hi0, hz0, hz1, hz2⟩ := info_parts u8_info
  have d1 : decide (size < 1) = false := by simp; omega
  have d2 : decide (256 < size) = false := by simp; omega
  have d3 : decide (size - 1 < (s.size : Int)) = false := by simp; omega
  go_enter Tryd.func67, Tryd.ntmps67
  go_wp2_with (at_builtin; refine Lib.wpList_append_own_string _ rfl (.tmp 22) (.tmp 23) _ _ rfl w.heap.size 5 i0 Tryd.underlying59 Tryd.underlying9 hi0 hz0 hz1 hz2 _ _ _ rfl (own_new1 w _ 5) s rfl (by simp only [maxLen]; omega) (by omega) (by simp) ?_; intro v3 w3 ho3 hg3 _; have HO3 := Lib.hid ho3; clear ho3; have hbw3 := below_own ((Below.refl _ _).alloc (Nat.le_refl _) _) (own_new1 w _ 5) hg3 (Nat.le_refl _) (by simp); have hb3 := hbw3.size)
  go_loopw [6] (fun out wr => FillR w s size.toNat out wr) (fun out wr => size.toNat - lenOf out)
  case atStart =>
    obtain ⟨A3, c3, rfl, _⟩ := own_slice HO3.out
    exact ⟨A3, c3, 0, rfl, by omega, Lib.hid (by simpa using HO3.out), hbw3⟩
  case round =>
    obtain ⟨A, c, j, rfl, hj, ho, hbw⟩ := hrel
    by_cases hlt : ((1 + s.size + j : Nat) : Int) < size
    · go_wp2_with (at_builtin; refine wpList_app _ rfl (.tmp 29) (.tmp 30) _ rfl w.heap.size 5 i0 _ 1 1 Tryd.underlying59 hi0 hz0 hz1 hz2 rfl (by omega) _ _ _ rfl (ho.out.alloc _) _ _ _ _ _ rfl (lies_new _ _ _) (by intro u hu; rw [List.mem_singleton.1 hu]; rfl) (by simp only [maxLen]; omega) (by omega) (by have := hbw.size; simp; omega) ?_; intro v2 w2 hown2 hg)
      obtain ⟨A2, c2, rfl, _⟩ := own_slice hown2
      refine ⟨⟨A2, c2, j + 1, rfl, by omega, Lib.hid (own_len hown2 ?_), below_own (hbw.alloc hbw.size _) (ho.out.alloc _) hg (Nat.le_refl _) (by have := hbw.size; simp; omega)⟩, by simp only [lenOf]; omega⟩
      rw [List.append_assoc, List.replicate_succ']
    · go_wp2_with fail
      go_ret2
      have hj2 : j = size.toNat - 1 - s.size := by omega
      refine ⟨A, _, c, rfl, own_len ho.out ?_, hbw⟩
      have e2 : s.data.toList.length = s.size := by rw [Array.length_toList]; rfl
      have e3 : ((UInt8.ofNat s.size).toNat : Int) = (s.size : Int) := by
        rw [UInt8.toNat_ofNat']
        omega
      subst hj2
      rw [strCells_BC, BC_zeros, fieldL, e2]
      simp only [BC, List.map_cons, List.map_append, List.cons_append, List.nil_append, e3]
end Go.Proofs.YthicidpdgggbjaaDoor

/-
  Walks: the reader: Read, Left, Right, Take.
  Conditions: readers over at most 10000 bytes.
-/

namespace Go.Proofs.YthicidpdgggbjaaDoor
open Go.RowKit
set_option maxRecDepth 8000

/-- Block g is a Reader with the bytes l ahead. -/
def Rdr (w : World) (g : Nat) (l : List UInt8) (failed : Bool) : Prop :=
  ∃ A c, w.heap[g]? = some (.cells #[.slice A l.length c, .bool failed] 135 (0, 0)) ∧ Lies w g 1 A l.length (BC l) ∧ l.length ≤ c ∧ c ≤ maxLen

section
variable {w w' : World} {g : Nat} {l : List UInt8} {b : Bool}
theorem Rdr.kept (h : Rdr w g l b) (hg : ∀ k, k ≤ g → w'.heap[k]? = w.heap[k]?) : Rdr w' g l b := by
  obtain ⟨A, c, hh, hl, hc, hm⟩ := h
  exact ⟨A, c, by rw [hg g (Nat.le_refl _)]; exact hh, hl.of_cells fun p hp => World.cell?_of_block (hg p.block (by omega)), hc, hm⟩
theorem Rdr.lt (h : Rdr w g l b) : g < w.heap.size := by
  obtain ⟨A, c, hh, _⟩ := h
  exact (Array.getElem?_eq_some_iff.1 hh).1
theorem Rdr.below (h : Rdr w g l b) (hb : Below w.heap.size w w') : Rdr w' g l b :=
  h.kept fun k hk => hb.block k (by have := h.lt; omega)
end

theorem grown_refl (w : World) (r : Option Nat) : w.grownBy w r := ⟨rfl, rfl, rfl, Nat.le_refl _, fun _ _ _ => rfl⟩
theorem grown_below {w w' : World} (h : Below w.heap.size w w') (r : Option Nat) : w.grownBy w' r := ⟨h.os, h.tape, h.output, h.size, fun k hk _ => h.block k hk⟩
theorem grown_set (w : World) (g i : Nat) (u : Value) : w.grownBy (w.setCell ⟨g, i, none⟩ u) (some g) :=
  ⟨rfl, rfl, rfl, by simp [World.setCell], fun k _ hne => Below.heap_setCell w _ u k (fun e => hne (by rw [e]))⟩
theorem below_grown {B g : Nat} {a w w' : World} (h : Below B a w) (hg : w.grownBy w' (some g)) (hB : B ≤ w.heap.size) (hBg : B ≤ g) : Below B a w' :=
  h.grown hg hB fun k hk => by injection hk with hk; omega
theorem heap_set (w : World) (g i : Nat) (cs : Array Value) (t : TypeId) (u : Value) (h : w.heap[g]? = some (.cells cs t (0, 0))) :
    (w.setCell ⟨g, i, none⟩ u).heap[g]? = some (.cells (cs.setIfInBounds i u) t (0, 0)) := by
  simp [World.setCell, Array.getElem?_modify, h]

set_option maxHeartbeats 400000 in
theorem read_any (B n c : Nat) (A : Option Addr) (l : List UInt8) (w : World) (h : Lies w B 1 A n (BC l)) (hB : B ≤ w.heap.size) (hn : n ≤ 100000) :
    Calls Tryd.prog 70 #[.slice A n c] w fun e w' => ∃ g, e = .returned (.pointer (some ⟨g, 0, none⟩)) ∧ w.heap.size ≤ g ∧ Rdr w' g l false ∧ Below w.heap.size w w' := by
  have CL := Lib.hid (clone_any B n c A l w h hB hn)
  clear h
  go_enter Tryd.func70, Tryd.ntmps70
  go_wp2_with (go_at_call 79; refine CL.out.mono ?_; rintro e w1 ⟨A1, c1, rfl, ho, hb⟩; have HO := Lib.hid ho; clear ho)
  go_ret
  have hl := Lies.of_own HO.out
  obtain ⟨A2, c2, e2, hc2, hm2⟩ := own_slice HO.out
  injection e2 with _ _ e3
  subst e3
  exact ⟨w1.heap.size, rfl, hb.size, ⟨A1, c1, heap_alloc_new w1 _, hl.alloc (Nat.le_refl _) _, hc2, hm2⟩, hb.alloc hb.size _⟩

set_option maxHeartbeats 400000 in
theorem left_any (g : Nat) (l : List UInt8) (b : Bool) (w : World) (h : Rdr w g l b) :
    Calls Tryd.prog 72 #[.pointer (some ⟨g, 0, none⟩)] w fun e w' => e = .returned (.int .i64 l.length) ∧ w = w' := by
  obtain ⟨A, c, hh, _, _⟩ := h
  have h0 : w.cell? ⟨g, 0, none⟩ = some (.slice A l.length c) := cell_of_row w g 0 _ _ _ hh
  clear hh
  go_enter Tryd.func72, Tryd.ntmps72
  go_wp2
  go_ret
  exact ⟨rfl, rfl⟩

set_option maxHeartbeats 400000 in
theorem right_any (g : Nat) (l : List UInt8) (b : Bool) (w : World) (h : Rdr w g l b) :
    Calls Tryd.prog 86 #[.pointer (some ⟨g, 0, none⟩)] w fun e w' => e = .returned (.bool (!b)) ∧ w = w' := by
  obtain ⟨A, c, hh, _, _⟩ := h
  have h0 : w.cell? ⟨g, 1, none⟩ = some (.bool b) := cell_of_row w g 1 _ _ _ hh
  clear hh
  go_enter Tryd.func86, Tryd.ntmps86
  go_wp2
  go_ret
  exact ⟨rfl, rfl⟩

/-- What stands behind a Take that failed. -/
def TookNone (w : World) (g : Nat) (l : List UInt8) (e : Ending) (w' : World) : Prop :=
  e = .returned (.slice none 0 0) ∧ Rdr w' g l true ∧ w.grownBy w' (some g)

set_option maxHeartbeats 400000 in
theorem take_fail (g : Nat) (l : List UInt8) (b : Bool) (k : Int) (w : World) (h : Rdr w g l b) (_hl : l.length ≤ 100000) (hk : b = true ∨ k < 0 ∨ (l.length : Int) < k) :
    Calls Tryd.prog 93 #[.pointer (some ⟨g, 0, none⟩), .int .i64 k] w (TookNone w g l) := by
  obtain ⟨A, c, hh, hli, hc, hm⟩ := h
  have h0 : w.cell? ⟨g, 0, none⟩ = some (.slice A l.length c) := cell_of_row w g 0 _ _ _ hh
  have h1 : w.cell? ⟨g, 1, none⟩ = some (.bool b) := cell_of_row w g 1 _ _ _ hh
  have hf : w.frozen? ⟨g, 1, none⟩ = false := by simp [World.frozen?, hh]
  have fin : TookNone w g l (.returned (.slice none 0 0)) (w.setCell ⟨g, 1, none⟩ (.bool true)) := by
    refine ⟨rfl, ⟨A, c, ?_, hli.setCell (Nat.le_refl _) _, hc, hm⟩, grown_set w g 1 _⟩
    rw [heap_set w g 1 _ _ _ hh]
    rfl
  have FIN := Lib.hid fin
  clear fin hh hli
  cases b with
  | true =>
    go_enter Tryd.func93, Tryd.ntmps93
    go_wp2_with fail
    go_ret
    exact FIN.out
  | false =>
    by_cases hk0 : k < 0
    · go_enter Tryd.func93, Tryd.ntmps93
      go_wp2_with fail
      go_ret
      exact FIN.out
    · have hk1 : (l.length : Int) < k := by
        rcases hk with hk | hk | hk
        · cases hk
        · omega
        · exact hk
      go_enter Tryd.func93, Tryd.ntmps93
      go_wp2_with fail
      go_ret
      exact FIN.out

def Took (w : World) (g : Nat) (l : List UInt8) (k : Nat) (e : Ending) (w' : World) : Prop :=
  ∃ A c, e = .returned (.slice A k c) ∧ w'.ownsRow w.heap.size 5 1 (.slice A k c) k (BC (l.take k)) ∧ Rdr w' g (l.drop k) false ∧ w.grownBy w' (some g)

theorem took_mk {w w1 : World} {g k c c1 c2 : Nat} {A A1 A2 : Option Addr} {l : List UInt8} (hg : g < w.heap.size)
    (hh : w.heap[g]? = some (.cells #[.slice A l.length c, .bool false] 135 (0, 0))) (hli : Lies w g 1 A l.length (BC l)) (hk : k ≤ l.length)
    (ho : w1.ownsRow w.heap.size 5 1 (.slice A1 (l.take k).length c1) (l.take k).length (BC (l.take k))) (hb : Below w.heap.size w w1)
    (hA : k < l.length → A2 = A.map (·.add k)) (hc : l.length - k ≤ c2) (hm : c2 ≤ maxLen) :
    Took w g l k (.returned (.slice A1 k c1)) (w1.setCell ⟨g, 0, none⟩ (.slice A2 (l.length - k) c2)) := by
  have hlt : (l.take k).length = k := by rw [List.length_take]; omega
  rw [hlt] at ho
  have hd : (l.drop k).length = l.length - k := by rw [List.length_drop]
  have hh1 : w1.heap[g]? = some (.cells #[.slice A l.length c, .bool false] 135 (0, 0)) := by rw [hb.block g hg]; exact hh
  refine ⟨A1, c1, rfl, ownsRow_setCell_below ho hg _, ⟨A2, c2, ?_, ?_, by rw [hd]; exact hc, hm⟩, (grown_below hb _).trans (grown_set w1 g 0 _)⟩
  · rw [heap_set w1 g 0 _ _ _ hh1, hd]
    rfl
  · have h1 : Lies w1 g 1 A l.length (BC l) := hli.under (hb.mono (Nat.le_of_lt hg))
    have h2 := (h1.setCell (p := ⟨g, 0, none⟩) (Nat.le_refl _) (.slice A2 (l.length - k) c2)).tail hk A2 hA
    rw [BC_drop] at h2
    rw [hd]
    exact h2

set_option maxHeartbeats 400000 in
theorem take_ok (g : Nat) (l : List UInt8) (k : Nat) (w : World) (h : Rdr w g l false) (hl : l.length ≤ 100000) (hk : k ≤ l.length) :
    Calls Tryd.prog 93 #[.pointer (some ⟨g, 0, none⟩), .int .i64 k] w (Took w g l k) := by
  have HR := Lib.hid h
  obtain ⟨A, c, hh, hli, hc, hm⟩ := h
  have hgs : g ≤ w.heap.size := Nat.le_of_lt HR.out.lt
  have h0 : w.cell? ⟨g, 0, none⟩ = some (.slice A l.length c) := cell_of_row w g 0 _ _ _ hh
  have h1 : w.cell? ⟨g, 1, none⟩ = some (.bool false) := cell_of_row w g 1 _ _ _ hh
  have HH := Lib.hid hh
  have hli2 : Lies w g 1 A k (BC (l.take k)) := by rw [← BC_take]; exact hli.head hk
  have CL := Lib.hid (fun c => clone_any g k c A (l.take k) w hli2 hgs (by omega))
  have HLI := Lib.hid hli
  clear hh hli hli2
  have n0 : ¬ ((k : Int) < 0) := by omega
  have n1 : ¬ ((l.length : Int) < (k : Int)) := by omega
  unfold maxLen at hm
  go_enter Tryd.func93, Tryd.ntmps93
  go_wp2_with (go_at_call 79
               refine (CL.out _).mono ?_
               rintro e w1 ⟨A1, c1, rfl, ho, hb⟩
               have HO := Lib.hid ho
               clear ho
               have hcw := hb.cell (p := ⟨g, 0, none⟩) HR.out.lt
               rw [h0] at hcw
               have hfw : w1.frozen? ⟨g, 0, none⟩ = false := by rw [hb.frozen (p := ⟨g, 0, none⟩) HR.out.lt]; simp [World.frozen?, HH.out])
  all_goals
    go_ret
    refine took_mk HR.out.lt HH.out HLI.out hk HO.out hb ?_ ?_ ?_
  · intro hlt; omega
  · omega
  · simp [maxLen]
  · intro _; rfl
  · omega
  · simp only [maxLen]; omega
end Go.Proofs.YthicidpdgggbjaaDoor

/-
  Walks: Num, Noughts, parseField, the reader's Text, the reference's IsText.
  Conditions: readers over at most 10000 bytes.
-/

namespace Go.Proofs.YthicidpdgggbjaaDoor
open Go.RowKit
set_option maxRecDepth 8000

/-- The string whose field the bytes are. -/
def parseF : List UInt8 → Option (List UInt8)
  | [] => none
  | b :: rest => if b.toNat ≤ rest.length ∧ zeroB (rest.drop b.toNat) = true then some (rest.take b.toNat) else none
def fldS (l : List UInt8) : List UInt8 := (parseF l).getD []
def fldB (l : List UInt8) : Bool := (parseF l).isSome
def FieldIs (w : World) (l : List UInt8) (e : Ending) (w' : World) : Prop :=
  e = .returned (.tuple #[.string (strOf (fldS l)), .bool (fldB l)]) ∧ Below w.heap.size w w'

set_option maxHeartbeats 400000 in
theorem parse_empty (c : Nat) (A : Option Addr) (w : World) : Calls Tryd.prog 101 #[.slice A 0 c] w (FieldIs w []) := by
  go_enter Tryd.func101, Tryd.ntmps101
  go_wp2_with fail
  go_ret2
  exact ⟨rfl, Below.refl _ _⟩

theorem Lies.drewN {w : World} {B size n : Nat} {A : Option Addr} {xs : List Value} (h : Lies w B size A n xs) (k : Nat) : Lies (w.drewN k) B size A n xs :=
  h.of_cells fun _ _ => World.cell?_of_block rfl

theorem tailAt {w : World} {B n k : Nat} {a : Addr} {b : UInt8} {rest : List UInt8} (h : Lies w B 1 (some a) n (BC (b :: rest))) (hk : k ≤ rest.length) (A' : Option Addr)
    (hA : k < rest.length → A' = some ⟨a.block, a.off + 1 + k, none⟩) : Lies w B 1 A' (n - 1 - k) (BC (rest.drop k)) := by
  have hl : rest.length + 1 = n := by have := h.len; rw [BC_length] at this; simp at this; omega
  have h1 := h.tail (k := 1 + k) (by omega) A' (by
    intro hlt
    rw [hA (by omega)]
    simp only [Option.map_some, Addr.add]
    rw [if_neg (by omega), Nat.add_assoc])
  have e1 : (BC (b :: rest)).drop (1 + k) = BC (rest.drop k) := by
    rw [BC_drop, Nat.add_comm, List.drop_succ_cons]
  rw [e1] at h1
  have e2 : n - (1 + k) = n - 1 - k := by omega
  rw [e2] at h1
  exact h1

set_option maxHeartbeats 1000000 in
theorem parse_some (B n c : Nat) (A : Option Addr) (b : UInt8) (rest : List UInt8) (w : World) (h : Lies w B 1 A n (BC (b :: rest))) (hn : n ≤ 10000) (hc : n ≤ c) (hm : c ≤ maxLen) :
    Calls Tryd.prog 101 #[.slice A n c] w (FieldIs w (b :: rest)) := by
  have hl : rest.length + 1 = n := by have := h.len; rw [BC_length] at this; simp at this; omega
  obtain ⟨a, u, rfl, hb, hx, hcell⟩ := h.get (k := 0) (by omega)
  simp [BC] at hx
  subst hx
  have hb8 := u8_lt b
  unfold maxLen at hm
  have hne : ((n : Int) == 0) = false := by rw [beq_eq_false_iff_ne]; omega
  have hn1 : (1 : Int) ≤ n := by omega
  have hn0 : (0 : Int) < n := by omega
  have HH := Lib.hid h
  have HL := Lib.hid hl
  clear h hl
  have hcell0 : w.cell? a = some (.int .u8 b.toNat) := by simpa [Addr.add] using hcell
  have hnN : 0 < n := by omega
  have hw64 : IntKind.i64.wrap (b.toNat : Int) = (b.toNat : Int) := by rw [IntKind.wrap_i64]; omega
  by_cases hlen : b.toNat ≤ n - 1
  · have d1 : decide (n - 1 < b.toNat) = false := by simp; omega
    have hcb : b.toNat ≤ c - 1 := by omega
    have hlr : b.toNat ≤ rest.length := by have := HL.out; omega
    have hcv : ∀ nq cc : Nat, (convert 59 9 (.slice (some ⟨a.block, a.off + 1, none⟩) b.toNat cc)).run Tryd.prog (w.drewN nq) = .ok (.string (strOf (rest.take b.toNat))) (w.drewN nq) := by
      intro nq cc
      have h1 := tailAt HH.out (k := 0) (Nat.zero_le _) (some ⟨a.block, a.off + 1, none⟩) (fun _ => rfl)
      have h2 : Lies (w.drewN nq) B 1 (some ⟨a.block, a.off + 1, none⟩) (n - 1 - 0) (BC rest) := h1.drewN nq
      have h3 := h2.head (k := b.toNat) (by omega)
      rw [BC_take] at h3
      exact run_conv h3 59 9 5 cc Tryd.underlying59 Tryd.underlying5 Tryd.underlying9
    have hcv1 : c = 1 → ∀ nq : Nat, (convert 59 9 (.slice (some a) 0 0)).run Tryd.prog (w.drewN nq) = .ok (.string (strOf (rest.take b.toNat))) (w.drewN nq) := by
      intro h1 nq
      have e0 : b.toNat = 0 := by omega
      rw [e0]
      exact run_conv (B := B) Lies.empty 59 9 5 0 Tryd.underlying59 Tryd.underlying5 Tryd.underlying9
    have AZ : Hid (∀ (nq m cc : Nat) (A' : Option Addr), m = n - 1 - b.toNat → (b.toNat < rest.length → A' = some ⟨a.block, a.off + 1 + b.toNat, none⟩) →
        Calls Tryd.prog 104 #[.slice A' m cc] (w.drewN nq) fun e w' => e = .returned (.bool (zeroB (rest.drop b.toNat))) ∧ w.drewN nq = w') := by
      intro nq m cc A' hm hA
      subst hm
      exact allZero_any B _ cc A' (rest.drop b.toNat) _ (show Lies (w.drewN nq) B 1 A' (n - 1 - b.toNat) _ from (tailAt HH.out hlr A' hA).drewN nq) (by omega)
    have hrl : rest.length = n - 1 := by have := HL.out; omega
    have HRL := Lib.hid hrl
    clear hrl
    by_cases hz : zeroB (rest.drop b.toNat) = true
    · have FIN : Hid (∀ k, FieldIs w (b :: rest) (.returned (.tuple #[.string (strOf (rest.take b.toNat)), .bool true])) (w.drewN k)) := by
        intro k
        refine ⟨?_, ⟨rfl, rfl, rfl, Nat.le_refl _, fun _ _ => rfl⟩⟩
        have hsome : parseF (b :: rest) = some (rest.take b.toNat) := by simp only [parseF]; rw [if_pos ⟨hlr, hz⟩]
        rw [fldS, fldB, hsome]
        rfl
      rw [hz] at AZ
      clear hz
      by_cases hc1 : c = 1
      · have hcv2 := hcv1 hc1
        obtain rfl : n = 1 := by omega
        subst hc1
        clear hcv1
        go_enter Tryd.func101, Tryd.ntmps101
        go_wp2_with fail
        go_quiet (fail)
        go_wp2_with (go_at_call 104; refine (AZ.out _ _ _ _ (by omega) (by intro hq; rw [HRL.out] at hq; omega)).mono ?_; rintro e w' ⟨rfl, rfl⟩)
        all_goals
          go_ret2
          exact FIN.out _
      · clear hcv1
        go_enter Tryd.func101, Tryd.ntmps101
        go_wp2_with fail
        go_quiet (fail)
        go_wp2_with (go_at_call 104; refine (AZ.out _ _ _ _ (by omega) (by intro hq; rw [HRL.out] at hq; first | (split <;> first | omega | rfl) | rfl | omega)).mono ?_; rintro e w' ⟨rfl, rfl⟩)
        all_goals
          go_ret2
          exact FIN.out _
    · have hz : zeroB (rest.drop b.toNat) = false := by simpa using hz
      have FIN : Hid (∀ k, FieldIs w (b :: rest) (.returned (.tuple #[.string { data := #[] }, .bool false])) (w.drewN k)) := by
        intro k
        refine ⟨?_, ⟨rfl, rfl, rfl, Nat.le_refl _, fun _ _ => rfl⟩⟩
        have hnone : parseF (b :: rest) = none := by simp only [parseF]; rw [if_neg (by rw [hz]; simp)]
        rw [fldS, fldB, hnone]
        rfl
      rw [hz] at AZ
      clear hz hcv hcv1
      by_cases hc1 : c = 1
      · obtain rfl : n = 1 := by omega
        subst hc1
        go_enter Tryd.func101, Tryd.ntmps101
        go_wp2_with fail
        go_quiet (fail)
        go_wp2_with (go_at_call 104; refine (AZ.out _ _ _ _ (by omega) (by intro hq; rw [HRL.out] at hq; omega)).mono ?_; rintro e w' ⟨rfl, rfl⟩)
        all_goals
          go_ret2
          exact FIN.out _
      · go_enter Tryd.func101, Tryd.ntmps101
        go_wp2_with fail
        go_quiet (fail)
        go_wp2_with (go_at_call 104; refine (AZ.out _ _ _ _ (by omega) (by intro hq; rw [HRL.out] at hq; first | (split <;> first | omega | rfl) | rfl | omega)).mono ?_; rintro e w' ⟨rfl, rfl⟩)
        all_goals
          go_ret2
          exact FIN.out _
  · have d1 : decide (n - 1 < b.toNat) = true := by simp; omega
    have hnone : parseF (b :: rest) = none := by
      have := HL.out
      simp only [parseF]
      rw [if_neg (by omega)]
    have FIN : Hid (∀ k, FieldIs w (b :: rest) (.returned (.tuple #[.string { data := #[] }, .bool false])) (w.drewN k)) := by
      intro k
      refine ⟨?_, ⟨rfl, rfl, rfl, Nat.le_refl _, fun _ _ => rfl⟩⟩
      rw [fldS, fldB, hnone]
      rfl
    clear hnone
    go_enter Tryd.func101, Tryd.ntmps101
    go_wp2_with fail
    go_quiet (fail)
    go_wp2_with fail
    all_goals
      go_ret2
      exact FIN.out _

theorem parse_any (B n c : Nat) (A : Option Addr) (l : List UInt8) (w : World) (h : Lies w B 1 A n (BC l)) (hn : n ≤ 10000) (hc : n ≤ c) (hm : c ≤ maxLen) :
    Calls Tryd.prog 101 #[.slice A n c] w (FieldIs w l) := by
  cases l with
  | nil =>
    have : n = 0 := by have := h.len; rw [BC_length] at this; simp at this; omega
    subst this
    exact parse_empty c A w
  | cons b rest => exact parse_some B n c A b rest w h hn hc hm

theorem Rdr.grown {w w' : World} {g : Nat} {l : List UInt8} {b : Bool} (h : Rdr w g l b) {g' : Nat} (hg : w.grownBy w' (some g')) (hlt : g < g') : Rdr w' g l b :=
  h.kept fun k hk => hg.block k (by have := h.lt; omega) (by intro e; injection e with e; omega)

/-- The reader's error state is set. -/
theorem Rdr.fail {w : World} {g : Nat} {l : List UInt8} {b : Bool} (h : Rdr w g l b) : Rdr (w.setCell ⟨g, 1, none⟩ (.bool true)) g l true := by
  obtain ⟨A, c, hh, hli, hc, hm⟩ := h
  refine ⟨A, c, ?_, hli.setCell (Nat.le_refl _) _, hc, hm⟩
  rw [heap_set w g 1 _ _ _ hh]
  rfl

def ReadText (w : World) (g : Nat) (s l : List UInt8) (b : Bool) (e : Ending) (w' : World) : Prop :=
  e = .returned (.string (strOf s)) ∧ Rdr w' g l b ∧ w.grownBy w' (some g)
def ReadNum (w : World) (g : Nat) (n : Int) (l : List UInt8) (b : Bool) (e : Ending) (w' : World) : Prop :=
  e = .returned (.int .u64 n) ∧ Rdr w' g l b ∧ w.grownBy w' (some g)

set_option maxHeartbeats 400000 in
theorem rtext_fail (g : Nat) (l : List UInt8) (b : Bool) (k : Int) (w : World) (h : Rdr w g l b) (hl : l.length ≤ 10000) (hk : b = true ∨ k < 0 ∨ (l.length : Int) < k) :
    Calls Tryd.prog 95 #[.pointer (some ⟨g, 0, none⟩), .int .i64 k] w (ReadText w g [] l true) := by
  have TF := Lib.hid (take_fail g l b k w h (by omega) hk)
  clear h hk
  go_enter Tryd.func95, Tryd.ntmps95
  go_wp2_with (first
    | (go_at_call 93; refine TF.out.mono ?_; rintro e w1 ⟨rfl, hr, hg⟩; have HR := Lib.hid hr; clear hr)
    | (go_at_call 101; refine (parse_empty 0 none w1).mono ?_; rintro e w2 ⟨rfl, hb⟩; have HB := Lib.hid hb
       have HR2 := Lib.hid (HR.out.below hb)
       obtain ⟨A2, c2, hh2, _⟩ := HR2.out
       have hc2 : w2.cell? ⟨g, 1, none⟩ = some (.bool true) := cell_of_row w2 g 1 _ _ _ hh2
       have hf2 : w2.frozen? ⟨g, 1, none⟩ = false := by simp [World.frozen?, hh2]
       clear hh2))
  go_ret
  exact ⟨rfl, HR2.out.fail, (hg.trans (grown_below HB.out _)).trans (grown_set w2 g 1 _)⟩
end Go.Proofs.YthicidpdgggbjaaDoor

/-
  Walks: the reader's Text, Num and Noughts.
  Conditions: readers over at most 10000 bytes.
-/

namespace Go.Proofs.YthicidpdgggbjaaDoor
open Go.RowKit
set_option maxRecDepth 8000

theorem took_facts {w w1 : World} {k c1 : Nat} {A1 : Option Addr} {l : List UInt8} (ho : w1.ownsRow w.heap.size 5 1 (.slice A1 k c1) k (BC (l.take k))) :
    Lies w1 w1.heap.size 1 A1 k (BC (l.take k)) ∧ k ≤ c1 ∧ c1 ≤ maxLen := by
  have h1 := Lies.of_own ho
  obtain ⟨A2, c2, e2, hc2, hm2⟩ := own_slice ho
  injection e2 with _ _ e3
  subst e3
  exact ⟨h1, hc2, hm2⟩

set_option maxHeartbeats 400000 in
theorem rtext_yes (g : Nat) (l s : List UInt8) (k : Nat) (w : World) (h : Rdr w g l false) (hl : l.length ≤ 10000) (hk : k ≤ l.length) (hp : parseF (l.take k) = some s) :
    Calls Tryd.prog 95 #[.pointer (some ⟨g, 0, none⟩), .int .i64 k] w (ReadText w g s (l.drop k) false) := by
  have TF := Lib.hid (take_ok g l k w h (by omega) hk)
  have e1 : fldS (l.take k) = s := by rw [fldS, hp]; rfl
  have e2 : fldB (l.take k) = true := by rw [fldB, hp]; rfl
  have PA : Hid (∀ (W : World) (A : Option Addr) (c : Nat), Lies W W.heap.size 1 A k (BC (l.take k)) ∧ k ≤ c ∧ c ≤ maxLen → Calls Tryd.prog 101 #[.slice A k c] W fun e w' =>
      e = .returned (.tuple #[.string (strOf s), .bool true]) ∧ Below W.heap.size W w') := by
    rintro W A c ⟨h1, h2, h3⟩
    refine (parse_any W.heap.size k c A (l.take k) W h1 (by omega) h2 h3).mono ?_
    rintro e w' ⟨he, hb⟩
    rw [e1, e2] at he
    exact ⟨he, hb⟩
  clear h hp e1 e2
  go_enter Tryd.func95, Tryd.ntmps95
  go_wp2_with (first
    | (go_at_call 93; refine TF.out.mono ?_; rintro e w1 ⟨A1, c1, rfl, ho, hr, hg⟩; have HR := Lib.hid hr; clear hr; have HO := Lib.hid ho; clear ho)
    | (go_at_call 101; refine (PA.out _ _ _ (took_facts HO.out)).mono ?_; rintro e w2 ⟨rfl, hb⟩; have HB := Lib.hid hb))
  go_ret
  exact ⟨rfl, HR.out.below HB.out, hg.trans (grown_below HB.out _)⟩

set_option maxHeartbeats 400000 in
theorem rtext_no (g : Nat) (l : List UInt8) (k : Nat) (w : World) (h : Rdr w g l false) (hl : l.length ≤ 10000) (hk : k ≤ l.length) (hp : parseF (l.take k) = none) :
    Calls Tryd.prog 95 #[.pointer (some ⟨g, 0, none⟩), .int .i64 k] w (ReadText w g [] (l.drop k) true) := by
  have TF := Lib.hid (take_ok g l k w h (by omega) hk)
  have e1 : fldS (l.take k) = [] := by rw [fldS, hp]; rfl
  have e2 : fldB (l.take k) = false := by rw [fldB, hp]; rfl
  have PA : Hid (∀ (W : World) (A : Option Addr) (c : Nat), Lies W W.heap.size 1 A k (BC (l.take k)) ∧ k ≤ c ∧ c ≤ maxLen → Calls Tryd.prog 101 #[.slice A k c] W fun e w' =>
      e = .returned (.tuple #[.string (strOf []), .bool false]) ∧ Below W.heap.size W w') := by
    rintro W A c ⟨h1, h2, h3⟩
    refine (parse_any W.heap.size k c A (l.take k) W h1 (by omega) h2 h3).mono ?_
    rintro e w' ⟨he, hb⟩
    rw [e1, e2] at he
    exact ⟨he, hb⟩
  clear h hp e1 e2
  go_enter Tryd.func95, Tryd.ntmps95
  go_wp2_with (first
    | (go_at_call 93; refine TF.out.mono ?_; rintro e w1 ⟨A1, c1, rfl, ho, hr, hg⟩; have HR := Lib.hid hr; clear hr; have HO := Lib.hid ho; clear ho)
    | (go_at_call 101; refine (PA.out _ _ _ (took_facts HO.out)).mono ?_; rintro e w2 ⟨rfl, hb⟩; have HB := Lib.hid hb
       have HR2 := Lib.hid (HR.out.below hb)
       obtain ⟨A2, c2, hh2, _⟩ := HR2.out
       have hc2 : w2.cell? ⟨g, 1, none⟩ = some (.bool false) := cell_of_row w2 g 1 _ _ _ hh2
       have hf2 : w2.frozen? ⟨g, 1, none⟩ = false := by simp [World.frozen?, hh2]
       clear hh2))
  go_ret
  exact ⟨rfl, HR2.out.fail, (hg.trans (grown_below HB.out _)).trans (grown_set w2 g 1 _)⟩

set_option maxHeartbeats 400000 in
theorem num_fail (g : Nat) (l : List UInt8) (b : Bool) (k : Int) (w : World) (h : Rdr w g l b) (hl : l.length ≤ 10000) (hk : b = true ∨ k < 0 ∨ (l.length : Int) < k) :
    Calls Tryd.prog 83 #[.pointer (some ⟨g, 0, none⟩), .int .i64 k] w (ReadNum w g 0 l true) := by
  have TF := Lib.hid (take_fail g l b k w h (by omega) hk)
  clear h hk
  go_enter Tryd.func83, Tryd.ntmps83
  go_wp2_with (first
    | (go_at_call 93; refine TF.out.mono ?_; rintro e w1 ⟨rfl, hr, hg⟩; have HR := Lib.hid hr; clear hr)
    | (go_at_call 92; refine (get_any 0 0 0 none [] w1 Lies.empty (by omega)).mono ?_; rintro e w2 ⟨rfl, rfl⟩))
  go_ret
  exact ⟨rfl, HR.out, hg⟩

set_option maxHeartbeats 400000 in
theorem num_ok (g : Nat) (l : List UInt8) (k : Nat) (w : World) (h : Rdr w g l false) (hl : l.length ≤ 10000) (hk : k ≤ l.length) :
    Calls Tryd.prog 83 #[.pointer (some ⟨g, 0, none⟩), .int .i64 k] w (ReadNum w g (getI (l.take k)) (l.drop k) false) := by
  have TF := Lib.hid (take_ok g l k w h (by omega) hk)
  clear h
  go_enter Tryd.func83, Tryd.ntmps83
  go_wp2_with (first
    | (go_at_call 93; refine TF.out.mono ?_; rintro e w1 ⟨A1, c1, rfl, ho, hr, hg⟩; have HR := Lib.hid hr; clear hr; have HO := Lib.hid ho; clear ho)
    | (go_at_call 92; refine (get_any _ _ _ _ _ w1 (took_facts HO.out).1 (by omega)).mono ?_; rintro e w2 ⟨rfl, rfl⟩))
  go_ret
  exact ⟨rfl, HR.out, hg⟩

end Go.Proofs.YthicidpdgggbjaaDoor
