/-
  What the modes' tables hold, and the plain functions of layer 10: right, tog, cov, jn, abv, nm, with the laws of a lattice over the six modes.
  Conditions: none beyond those that each theorem names.
-/
import Derived.Test.YtalkefmkophhiaaDoorRows
import Derived.WalkKit
import Derived.Below
import Derived.Deep.Draws
import Derived.Lib.Hide
import Derived.BigQuiet
import Derived.Lib.LaidU8
import Derived.OpenShut
import Derived.LaidMore
import Derived.MakeChecks
import Derived.ChangeSame
namespace Go.Proofs.YtalkefmkophhiaaDoor
open Go.RowKit

def cmpT : List (List Bool) := [[true, true, true, true, true, true], [true, true, true, true, true, false], [true, true, true, false, false, false], [true, true, false, true, false, false], [true, true, false, false, false, false], [true, false, false, false, false, false]]
def rdT : List Int := [0, 1, 1, 2, 2, 2]
def wrT : List Int := [0, 0, 1, 0, 1, 2]
def nmT : List (List UInt8) := [[110, 111, 110, 101], [105, 115], [105, 120], [115], [115, 105, 120], [120]]
def cmp (i j : Nat) : Bool := (cmpT.getD i []).getD j false
def rdN (i : Nat) : Int := rdT.getD i 0
def wrN (i : Nat) : Int := wrT.getD i 0
def nmN (i : Nat) : List UInt8 := nmT.getD i []

/-- Is it a mode? -/
def right (m : Int) : Bool := decide (0 ≤ m) && decide (m ≤ 5)
def tog (a b : Int) : Bool := right a && right b && cmp a.toNat b.toNat
def cov (a b : Int) : Bool := right a && right b && decide (rdN b.toNat ≤ rdN a.toNat) && decide (wrN b.toNat ≤ wrN a.toNat)
def jnF (a b : Int) : Nat → Nat → Int
  | 0, _ => 5
  | n + 1, k => if cov (k : Int) a = true ∧ cov (k : Int) b = true then (k : Int) else jnF a b n (k + 1)
def jn (a b : Int) : Int := jnF a b 6 0
def abv (m : Int) : Int := if m = 0 then 0 else if m = 1 ∨ m = 3 then 1 else 2
def nmS (m : Int) : ByteArray := if right m = true then ⟨(nmN m.toNat).toArray⟩ else ⟨#[]⟩

theorem right_iff (m : Int) : right m = true ↔ 0 ≤ m ∧ m ≤ 5 := by simp [right]
theorem six {m : Int} (h : right m = true) : m = 0 ∨ m = 1 ∨ m = 2 ∨ m = 3 ∨ m = 4 ∨ m = 5 := by
  rw [right_iff] at h; omega
theorem as_fin {m : Int} (h : right m = true) : ∃ u : Fin 6, m = (u.val : Int) := by
  rw [right_iff] at h; exact ⟨⟨m.toNat, by omega⟩, by simp; omega⟩
theorem notRight {m : Int} (h : right m = false) : m < 0 ∨ 5 < m := by
  have : ¬ (0 ≤ m ∧ m ≤ 5) := by rw [← right_iff, h]; simp
  omega

/-! ### the lattice -/
theorem f_sym : ∀ u v : Fin 6, tog (u.val : Int) (v.val : Int) = tog (v.val : Int) (u.val : Int) := by decide +kernel
theorem f_refl : ∀ u : Fin 6, cov (u.val : Int) (u.val : Int) = true := by decide +kernel
theorem f_up : ∀ u v : Fin 6, cov (jn (u.val : Int) (v.val : Int)) (u.val : Int) = true ∧ cov (jn (u.val : Int) (v.val : Int)) (v.val : Int) = true ∧ jn (u.val : Int) (v.val : Int) = jn (v.val : Int) (u.val : Int) ∧ right (jn (u.val : Int) (v.val : Int)) = true := by decide +kernel
theorem f_assoc : ∀ u v x : Fin 6, jn (jn (u.val : Int) (v.val : Int)) (x.val : Int) = jn (u.val : Int) (jn (v.val : Int) (x.val : Int)) := by decide +kernel
theorem f_anti : ∀ u v : Fin 6, cov (u.val : Int) (v.val : Int) = true → cov (v.val : Int) (u.val : Int) = true → u = v := by decide +kernel
theorem f_trans : ∀ u v x : Fin 6, cov (u.val : Int) (v.val : Int) = true → cov (v.val : Int) (x.val : Int) = true → cov (u.val : Int) (x.val : Int) = true := by decide +kernel
theorem f_less : ∀ u v x : Fin 6, cov (u.val : Int) (v.val : Int) = true → tog (u.val : Int) (x.val : Int) = true → tog (v.val : Int) (x.val : Int) = true := by decide +kernel
theorem f_least : ∀ u v x : Fin 6, cov (x.val : Int) (u.val : Int) = true → cov (x.val : Int) (v.val : Int) = true → cov (x.val : Int) (jn (u.val : Int) (v.val : Int)) = true := by decide +kernel
theorem f_above : ∀ u v : Fin 6, cov (u.val : Int) (v.val : Int) = true → cov (abv (u.val : Int)) (abv (v.val : Int)) = true := by decide +kernel

/-! ### the tables -/
structure Tab (w : World) : Prop where
  size : 2 < w.heap.size
  comp : ∀ i j, i < 6 → j < 6 → w.cell? ⟨0, i * 6 + j, none⟩ = some (.bool (cmp i j))
  rd : ∀ i, i < 6 → w.cell? ⟨1, i * 2, none⟩ = some (.int .i64 (rdN i))
  wr : ∀ i, i < 6 → w.cell? ⟨1, i * 2 + 1, none⟩ = some (.int .i64 (wrN i))
  nm : ∀ i, i < 6 → w.cell? ⟨2, i, none⟩ = some (.string ⟨(nmN i).toArray⟩)
theorem Tab.drewN {w : World} (h : Tab w) (n : Nat) : Tab (w.drewN n) := ⟨h.size, h.comp, h.rd, h.wr, h.nm⟩

abbrev laid3 : List (String × DataW Unit) := [("counterpane/mode.compatible", Rows.laid_counterpane_mode_compatible), ("counterpane/mode.permits", Rows.laid_counterpane_mode_permits), ("counterpane/mode.names", Rows.laid_counterpane_mode_names)]
theorem own : ownKnob Tryd.prog.godebug = none := by kernel_rfl
theorem laidOut : laidOutB Tryd.prog = true := by kernel_rfl
theorem g0 : Tryd.prog.globalNamed "counterpane/mode.compatible" = some 0 := by kernel_rfl
theorem g1 : Tryd.prog.globalNamed "counterpane/mode.permits" = some 1 := by kernel_rfl
theorem g2 : Tryd.prog.globalNamed "counterpane/mode.names" = some 2 := by kernel_rfl
theorem y0 : (Tryd.prog.globals[0]?).map (·.type) = some 30 := by kernel_rfl
theorem y1 : (Tryd.prog.globals[1]?).map (·.type) = some 33 := by kernel_rfl
theorem y2 : (Tryd.prog.globals[2]?).map (·.type) = some 34 := by kernel_rfl
theorem cB : Tryd.prog.cellsOf 4 = 1 := by kernel_rfl
theorem cI : Tryd.prog.cellsOf 3 = 1 := by kernel_rfl
theorem cS : Tryd.prog.cellsOf 9 = 1 := by kernel_rfl
theorem c6B : Tryd.prog.cellsOf 29 = 6 := by kernel_rfl
theorem cR : Tryd.prog.cellsOf 32 = 2 := by kernel_rfl

def comD : DataW Unit := .agg ((List.range 6).map fun i => .agg ((List.range 6).map fun j => .lit (.bool (cmp i j))))
def perD : DataW Unit := .agg ((List.range 6).map fun i => .agg [.lit (.int .i64 (rdN i)), .lit (.int .i64 (wrN i))])
def namD : DataW Unit := .agg ((List.range 6).map fun i => .lit (.string (nmN i)))
theorem com_is : (Rows.laid_counterpane_mode_compatible : DataW Unit) = comD := rfl
theorem per_is : (Rows.laid_counterpane_mode_permits : DataW Unit) = perD := rfl
theorem nam_is : (Rows.laid_counterpane_mode_names : DataW Unit) = namD := rfl

section
variable {H : Type} {enc : TypeId × Value → H} {P : Program} {w : World} {base : Nat} {sp : Nat → Bool} {held : Bool}
/-- An array that reads as a row of data: each element reads as its own. -/
theorem arr_at {t e : TypeId} {n fuel : Nat} {cs : List Value} {ds : List (DataW H)} {p : List MemPlace} (ht : P.underlying t = some (.array n e)) (h : DataW.trod enc P w base sp held fuel t cs = some (.agg ds, p)) (i : Nat) (hi : i < n) (d : DataW H) (hd : ds[i]? = some d) :
    ∃ m q, DataW.trod enc P w base sp held m e ((cs.drop (i * P.cellsOf e)).take (P.cellsOf e)) = some (d, q) := by
  obtain ⟨xs, m, rfl, hx, hl, hn, hall⟩ := DataW.trod_array ht h
  have h1 := hall i hi
  obtain ⟨b, hb⟩ : ∃ b, xs[i]? = some b := ⟨xs[i]'(by omega), List.getElem?_eq_getElem (by omega)⟩
  have h2 : ds = xs.map (·.1) := by have := congrArg Prod.fst hx; simpa using this
  rw [h2, List.getElem?_map, hb] at hd
  have h3 : b.1 = d := by simpa using hd
  exact ⟨m, b.2, by rw [h1, hb, ← h3]⟩
theorem drop_take_at {cs : List Value} {k n j : Nat} {v : Value} (h : ((cs.drop k).take n)[j]? = some v) : cs[k + j]? = some v := by
  rw [List.getElem?_take] at h
  split at h
  · rwa [List.getElem?_drop] at h
  · cases h
theorem lit_bool {t : TypeId} {fuel : Nat} {cs : List Value} {b : Bool} {p : List MemPlace} (ht : P.underlying t = some .bool) (h : DataW.trod enc P w base sp held fuel t cs = some (.lit (.bool b), p)) : cs[0]? = some (.bool b) := by
  obtain ⟨b', rfl, hx⟩ := DataW.trod_bool ht h
  simp at hx
  rw [hx.1]; rfl
theorem lit_int {t : TypeId} {k : IntKind} {fuel : Nat} {cs : List Value} {z : Int} {p : List MemPlace} (ht : P.underlying t = some (.int k)) (h : DataW.trod enc P w base sp held fuel t cs = some (.lit (.int k z), p)) : cs[0]? = some (.int k z) := by
  obtain ⟨z', rfl, hx, _⟩ := DataW.trod_int ht h
  simp at hx
  rw [hx.1]; rfl
theorem lit_str {t : TypeId} {fuel : Nat} {cs : List Value} {l : List UInt8} {p : List MemPlace} (ht : P.underlying t = some .string) (h : DataW.trod enc P w base sp held fuel t cs = some (.lit (.string l), p)) : cs[0]? = some (.string ⟨l.toArray⟩) := by
  obtain ⟨s, rfl, hx, _⟩ := DataW.trod_string ht h
  simp at hx
  obtain ⟨h1, -⟩ := hx
  subst h1
  rfl
end
theorem range_at {α : Type} (f : Nat → α) (i : Nat) (hi : i < 6) : ((List.range 6).map f)[i]? = some (f i) := by
  simp [hi]

theorem tab_of_laid {W : World} (h : laidMetH Tryd.prog laid3 W) : Tab W := by
  rw [MakeChecks.laidMetH_plain _ _ _ (by kernel_rfl)] at h
  have h0 := Lib.laidMet.reads h (n := "counterpane/mode.compatible") (d := comD) (by rw [← com_is]; simp)
  have h1 := Lib.laidMet.reads h (n := "counterpane/mode.permits") (d := perD) (by rw [← per_is]; simp)
  have h2 := Lib.laidMet.reads h (n := "counterpane/mode.names") (d := namD) (by rw [← nam_is]; simp)
  clear h
  obtain ⟨g, t, cs, fuel, p, hg, ht, hv, hd⟩ := h0
  obtain rfl := Option.some.inj (g0.symm.trans hg)
  obtain rfl := Option.some.inj (y0.symm.trans ht)
  have A0 := World.var?_cell g0 hv
  have B0 : ∀ i j, i < 6 → j < 6 → W.cell? ⟨0, i * 6 + j, none⟩ = some (.bool (cmp i j)) := by
    intro i j hi hj
    rw [A0, ← Array.getElem?_toList]
    obtain ⟨m, q, h1⟩ := arr_at Tryd.underlying30 hd i hi _ (range_at _ i hi)
    obtain ⟨m, q, h2⟩ := arr_at Tryd.underlying29 h1 j hj _ (range_at _ j hj)
    rw [cB, c6B] at h2
    have h3 := drop_take_at (drop_take_at (lit_bool Tryd.underlying4 h2))
    simpa using h3
  clear hd hv hg ht
  obtain ⟨g, t, cs1, fuel, p, hg, ht, hv, hd⟩ := h1
  obtain rfl := Option.some.inj (g1.symm.trans hg)
  obtain rfl := Option.some.inj (y1.symm.trans ht)
  have A1 := World.var?_cell g1 hv
  have B1 : ∀ i, i < 6 → W.cell? ⟨1, i * 2, none⟩ = some (.int .i64 (rdN i)) ∧ W.cell? ⟨1, i * 2 + 1, none⟩ = some (.int .i64 (wrN i)) := by
    intro i hi
    rw [A1, A1, ← Array.getElem?_toList, ← Array.getElem?_toList]
    obtain ⟨m, q, h1⟩ := arr_at Tryd.underlying33 hd i hi _ (range_at _ i hi)
    obtain ⟨xs, n, rfl, hx, hl, hn, hall⟩ := DataW.trod_struct Tryd.underlying32 h1
    have e0 := hall 0 _ rfl
    have e1 := hall 1 _ rfl
    obtain ⟨x0, x1, rfl⟩ : ∃ x0 x1, xs = [x0, x1] := by
      match xs, hn with
      | [a, b], _ => exact ⟨a, b, rfl⟩
    simp at hx
    obtain ⟨⟨hx0, hx1⟩, -⟩ := hx
    rw [List.getElem?_cons_zero] at e0
    rw [List.getElem?_cons_succ, List.getElem?_cons_zero] at e1
    obtain ⟨d0, q0⟩ := x0
    obtain ⟨d1, q1⟩ := x1
    simp only at hx0 hx1
    subst hx0 hx1
    rw [cR] at e0 e1
    have f0 := drop_take_at (drop_take_at (lit_int Tryd.underlying3 e0))
    have f1 := drop_take_at (drop_take_at (lit_int Tryd.underlying3 e1))
    exact ⟨by simpa using f0, by simpa using f1⟩
  clear hd hv hg ht
  obtain ⟨g, t, cs2, fuel, p, hg, ht, hv, hd⟩ := h2
  obtain rfl := Option.some.inj (g2.symm.trans hg)
  obtain rfl := Option.some.inj (y2.symm.trans ht)
  have A2 := World.var?_cell g2 hv
  have B2 : ∀ i, i < 6 → W.cell? ⟨2, i, none⟩ = some (.string ⟨(nmN i).toArray⟩) := by
    intro i hi
    rw [A2, ← Array.getElem?_toList]
    obtain ⟨m, q, h1⟩ := arr_at Tryd.underlying34 hd i hi _ (range_at _ i hi)
    rw [cS] at h1
    have h3 := drop_take_at (lit_str Tryd.underlying9 h1)
    simpa using h3
  exact ⟨World.block_lt_of_cell? W ⟨2, 0, none⟩ (B2 0 (by decide)), B0, fun i hi => (B1 i hi).1, fun i hi => (B1 i hi).2, B2⟩

theorem door_met (os : Os) (args : Array Value) : laidMetH Tryd.prog laid3 ((World.doorLaid Tryd.prog 37 os).forCall (fun _ _ => 0) ⟨#[], args, []⟩).memory :=
  laidMetH_of_parts3 (fuel := 8) (laidMet_of_run' 8 (by kernel_rfl) (by kernel_rfl)) (by kernel_rfl) (by kernel_rfl)
end Go.Proofs.YtalkefmkophhiaaDoor
