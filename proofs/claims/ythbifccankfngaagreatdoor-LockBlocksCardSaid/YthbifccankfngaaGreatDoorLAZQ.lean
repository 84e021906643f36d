/-
  A list of acts that came in reads as such.
  Conditions: none beyond those that each theorem names.
-/
import Derived.Test.YthbifccankfngaaGreatDoorL5ZQ
import Derived.Deep.Slices
import Derived.Lib.SmallJoins
import Derived.OpenShut
import Derived.WideShapes
import Derived.ProofKit
namespace Go.Proofs.YthbifccankfngaaGreatDoor
open Go.RowKit Go.Deep Go.Joins Go.ChangeShapes Go.WideShapes
set_option maxRecDepth 20000

def opV (o : Opx) : List Value := [.int .i64 o.kind, .int .u64 (o.t : Int), .int .i64 o.r.1, .int .u64 (o.r.2 : Int), .int .i64 o.m]
def OpOk (o : Opx) : Prop := U64 o.t ∧ RsOk o.r
/-- Acts that lie beside each other. -/
structure OZ (w : World) (A : Option Addr) (n : Nat) (os : List Opx) : Prop where
  len : os.length = n
  spot : 0 < n → ∃ b o, A = some ⟨b, o, none⟩ ∧ b < w.heap.size ∧ ∀ (k : Nat) (hk : k < os.length), w.rangeAt b (o + k * 5) (opV os[k])
theorem OZ.below {w w' : World} {A : Option Addr} {n : Nat} {os : List Opx} (h : OZ w A n os) (hb : Below w.heap.size w w') : OZ w' A n os := ⟨h.len, fun hn => by
  obtain ⟨b, o, h1, h2, h3⟩ := h.spot hn
  exact ⟨b, o, h1, Nat.lt_of_lt_of_le h2 hb.size, fun k hk => pl_rangeAt_block (h3 k hk) (hb.block b h2)⟩⟩
theorem OZ.at {w : World} {A : Option Addr} {n k : Nat} {os : List Opx} (h : OZ w A n os) (hk : k < n) : ∃ b o, ∃ hl : k < os.length, A = some ⟨b, o, none⟩ ∧ b < w.heap.size ∧ w.rangeAt b (o + k * 5) (opV os[k]) := by
  obtain ⟨b, o, h1, h2, h3⟩ := h.spot (by omega)
  have hl : k < os.length := by have := h.len; omega
  exact ⟨b, o, hl, h1, h2, h3 k hl⟩
theorem ceI : Tryz.prog.cellsOf 3 = 1 := by kernel_rfl
theorem ceU : Tryz.prog.cellsOf 31 = 1 := by kernel_rfl
theorem ceR : Tryz.prog.cellsOf 33 = 2 := by kernel_rfl
theorem ceOp : Tryz.prog.cellsOf 35 = 5 := by kernel_rfl
theorem wf_int {k : IntKind} {n : Int} (h : (Lit.int k n).wf = true) : k.min ≤ n ∧ n ≤ k.max := by
  unfold Lit.wf at h
  simpa using h
theorem list5 {α : Type} {l : List α} (h : l.length = 5) : ∃ a b c d e, l = [a, b, c, d, e] := by
  match l, h with
  | [a, b, c, d, e], _ => exact ⟨a, b, c, d, e, rfl⟩
theorem list4 {α : Type} {l : List α} (h : l.length = 4) : ∃ a b c d, l = [a, b, c, d] := by
  match l, h with
  | [a, b, c, d], _ => exact ⟨a, b, c, d, rfl⟩
theorem plainAt {W : World} {a : Addr} {v : Value} (h : W.cell? (a.add 0) = some v) : ∃ b off, a = ⟨b, off, none⟩ := by
  obtain ⟨b, off, spot⟩ := a
  have hs : spot = none := by simpa [Addr.add] using World.cell?_spot h
  subst hs
  exact ⟨b, off, rfl⟩
instance : Inhabited Opx := ⟨⟨0, 0, (0, 0), 0⟩⟩
section
variable {H : Type} {enc : TypeId × Value → H} {W : World} {spare : Nat → Bool} {held : Bool} {fuel : Nat} {cs : List Value} {x : DataW H × List MemPlace}
theorem inU (h : DataW.trod enc Tryz.prog W 0 spare held fuel 31 cs = some x) : ∃ n : Nat, cs = [.int .u64 (n : Int)] ∧ U64 n := by
  obtain ⟨z, e, _, wf⟩ := DataW.trod_int Tryz.underlying31 h
  have h2 := wf_int wf
  rw [show IntKind.u64.min = 0 by decide, show IntKind.u64.max = 18446744073709551615 by decide] at h2
  exact ⟨z.toNat, by rw [e]; congr 1; congr 1; omega, by show z.toNat < _; omega⟩
theorem inI (h : DataW.trod enc Tryz.prog W 0 spare held fuel 3 cs = some x) : ∃ z : Int, cs = [.int .i64 z] ∧ I64 z := by
  obtain ⟨z, e, _, wf⟩ := DataW.trod_int Tryz.underlying3 h
  have h2 := wf_int wf
  rw [show IntKind.i64.min = -9223372036854775808 by decide, show IntKind.i64.max = 9223372036854775807 by decide] at h2
  exact ⟨z, e, h2.1, by omega⟩
theorem res_of (h : DataW.trod enc Tryz.prog W 0 spare held fuel 33 cs = some x) : ∃ r : Rs, RsOk r ∧ cs = encR r := by
  obtain ⟨y0, y1, n, _, hl, g0, g1⟩ := trod_struct2 Tryz.underlying33 h
  rw [ceR] at hl
  obtain ⟨a, b, rfl⟩ : ∃ a b, cs = [a, b] := by
    match cs, hl with
    | [a, b], _ => exact ⟨a, b, rfl⟩
  simp [ceI, ceU] at g0 g1
  obtain ⟨z, e0, hz⟩ := inI g0
  obtain ⟨k, e1, hk⟩ := inU g1
  injection e0 with e0
  injection e1 with e1
  subst e0 e1
  exact ⟨(z, k), ⟨hz, hk⟩, rfl⟩
theorem op_of (h : DataW.trod enc Tryz.prog W 0 spare held fuel 35 cs = some x) : ∃ o : Opx, OpOk o ∧ cs = opV o := by
  obtain ⟨xs, n, _, _, hl, hxl, hf⟩ := DataW.trod_struct Tryz.underlying35 h
  rw [ceOp] at hl
  obtain ⟨v0, v1, v2, v3, v4, rfl⟩ := list5 hl
  obtain ⟨y0, y1, y2, y3, rfl⟩ := list4 hxl
  have g0 := hf 0 _ rfl
  have g1 := hf 1 _ rfl
  have g2 := hf 2 _ rfl
  have g3 := hf 3 _ rfl
  simp [ceI, ceU, ceR] at g0 g1 g2 g3
  obtain ⟨ki, e0, _⟩ := inI g0
  obtain ⟨t, e1, ht⟩ := inU g1
  obtain ⟨r, hr, e2⟩ := res_of g2
  obtain ⟨m, e3, _⟩ := inI g3
  injection e0 with e0
  injection e1 with e1
  injection e2 with e2 e2'
  injection e2' with e2'
  injection e3 with e3
  subst e0 e1 e2 e2' e3
  exact ⟨⟨ki, t, r, m⟩, ⟨ht, hr⟩, rfl⟩
theorem opV_length (o : Opx) : (opV o).length = 5 := rfl
theorem ops_of {v : Value} (h : DataW.trod enc Tryz.prog W 0 spare held fuel 22 [v] = some x) :
    ∃ A cap, ∃ l : List Opx, v = .slice A l.length cap ∧ OZ W A l.length l ∧ (∀ o ∈ l, OpOk o) ∧ l.length ≤ cap ∧ cap ≤ maxLen := by
  rcases open_slice Tryz.underlying22 h with ⟨hcs, _⟩ | ⟨a, len, cap, m, n, D, Pl, hcs, _, hl, hm, hmm, _, hi⟩
  · injection hcs with hcs
    subst hcs
    exact ⟨none, 0, [], rfl, ⟨rfl, fun h => absurd h (Nat.lt_irrefl 0)⟩, fun o h => by simp at h, Nat.le_refl _, by simp [maxLen]⟩
  · injection hcs with hcs
    subst hcs
    have hlm : len ≤ m := by rw [hmm]; split <;> omega
    by_cases hl0 : len = 0
    · subst hl0
      exact ⟨some a, cap, [], rfl, ⟨rfl, fun h => absurd h (Nat.lt_irrefl 0)⟩, fun o h => by simp at h, by simp, hm⟩
    rw [ceOp] at hi
    have each : ∀ i, i < len → ∃ s : Opx, (∀ j, j < 5 → W.cell? ((a.add (i * 5)).add j) = (opV s)[j]?) ∧ OpOk s := fun i hlt => by
      obtain ⟨cs', h1, h2⟩ := hi i (by omega)
      obtain ⟨_, hlen, hcell⟩ := World.cells?_some h1
      obtain ⟨s, hs1, rfl⟩ := op_of h2
      refine ⟨s, fun j hj => ?_, hs1⟩
      rw [hcell j (by omega)]
    obtain ⟨F, hF⟩ := choose_lt (α := Opx) each
    have hlen : ((List.range len).map F).length = len := by simp
    have g0 : ∀ s : Opx, (opV s)[0]? = some (.int .i64 s.kind) := fun s => rfl
    obtain ⟨b, off, rfl⟩ : ∃ b off, a = ⟨b, off, none⟩ := by
      have := (hF 0 (by omega)).1 0 (by omega)
      rw [Nat.zero_mul, Go.Deep.add_add, g0] at this
      exact plainAt this
    have hb : b < W.heap.size := by
      have := (hF 0 (by omega)).1 0 (by omega)
      rw [g0] at this
      have := World.block_lt_of_cell? W _ this
      rwa [add_block, add_block] at this
    refine ⟨some ⟨b, off, none⟩, cap, (List.range len).map F, by rw [hlen], ⟨rfl, fun _ => ⟨b, off, rfl, hb, fun k hk j v hv => ?_⟩⟩, fun r hr => ?_, by rw [hlen]; exact hl, hm⟩
    · have hk' : k < len := by rwa [hlen] at hk
      have hj : j < 5 := by have := (List.getElem?_eq_some_iff.1 hv).1; rwa [opV_length] at this
      have h3 := (hF k hk').1 j hj
      rw [add_plain, add_plain] at h3
      rw [h3, ← hv]
      simp
    · obtain ⟨i, hi', rfl⟩ := List.mem_map.1 hr
      exact (hF i (List.mem_range.1 hi')).2
end
section
variable {H : Type} {enc : TypeId × Value → H} {W : World} {spare : Nat → Bool} {held : Bool} {v : Value} {d : DataW H} {p : List MemPlace} {base : Nat}
theorem ops_in (hv : Value.okWide Tryz.prog W .any base 22 v) (h : DataW.Trod enc Tryz.prog W 0 spare held 22 v d p) :
    ∃ A cap, ∃ l : List Opx, v = .slice A l.length cap ∧ OZ W A l.length l ∧ (∀ o ∈ l, OpOk o) ∧ l.length ≤ cap ∧ cap ≤ maxLen := by
  obtain ⟨A, n, c, rfl⟩ := okWide_slice Tryz.underlying22 hv
  obtain ⟨fuel, hf⟩ := h
  have hf' : DataW.trod enc Tryz.prog W 0 spare held fuel 22 [.slice A n c] = some (d, p) := hf
  exact ops_of hf'
end
end Go.Proofs.YthbifccankfngaaGreatDoor
