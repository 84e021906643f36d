/-
  Resources in memory, row by row; the literal of one struct.
  Conditions: none beyond those that each theorem names.
-/
import Derived.Test.YthbifccankfngaaGreatDoorK19Q
namespace Go.Proofs.YthbifccankfngaaGreatDoor
open Go.RowKit Go.Shelf
set_option maxRecDepth 20000

def encR (r : Rs) : List Value := [.int .i64 r.1, .int .u64 (r.2 : Int)]
theorem wpList_lit1r {ops : Array Oper} {rest : List Oper} {o : Oper} {a : Act} {w : World} {Q : Exit → Act → World → Prop} (hgd : o.guard = none) (d : Nat) (x : Operand) (t e : TypeId) (size : Nat) (z : Value) (c : Array Value) (hop : o.dst = some d)
    (ho : o.op = .buildSlice t 1 #[(0, x)]) (hx : a.eval x = .agg c) (ht : Tryz.prog.underlying t = some (.slice e)) (hi : (Tryz.prog.info? e).map (fun i => (i.zero, i.size)) = some (some z, size)) (h0 : 0 < size) (hs : size ≤ 100000) (hc : c.size = size)
    (h : wpList Tryz.prog ops Q rest (a.put (some d) (.slice (some ⟨w.heap.size, 0, none⟩) 1 1)) (w.alloc (.cells c e))) : wpList Tryz.prog ops Q (o :: rest) a w :=
  wpList_plain hgd fun _ hK => wp_lit1r d x t e size z c hop ho hx ht hi h0 hs hc (hK _ _ h)
/-- What stands in own and waits behind the two deletes. -/
def noI (s : TS) (t : Nat) : TS := { s with ow := upd s.ow t none, wt := upd s.wt t none }
theorem Lz.rs {X : Nat → Prop} {w : World} {A : Option Addr} {n k : Nat} {l : List Rs} (h : Lz X w 2 A n (rsL l)) (hk : k < n) : ∃ b o, ∃ hl : k < l.length, A = some ⟨b, o, none⟩ ∧ b < w.heap.size ∧ w.rangeAt b (o + k * 2) (encR l[k]) := by
  have hl : k < l.length := by have := h.len; rw [rsL_length] at this; omega
  obtain ⟨b, o, h1, h2, h3, h4⟩ := h.spot (by omega)
  refine ⟨b, o, hl, h1, h3, fun j v hv => ?_⟩
  have h5 := flat2_get (l.map rsP) k (by simpa using hl)
  match j, hv with
  | 0, hv =>
    have := h4 (k * 2) _ (by simpa [rsL] using h5.1)
    simp [encR] at hv
    rw [← hv]
    simpa [rsP] using this
  | 1, hv =>
    have := h4 (k * 2 + 1) _ (by simpa [rsL] using h5.2)
    simp [encR] at hv
    rw [← hv, show o + k * 2 + 1 = o + (k * 2 + 1) by omega]
    simpa [rsP] using this
end Go.Proofs.YthbifccankfngaaGreatDoor
