/-
  What the law PlatterTears keeps.
  Conditions: none beyond those that each theorem names.
-/
import Derived.Test.YtggcfbglfmcdmaaF2
namespace Go.Proofs.Ytggcfbglfmcdmaa
open Go.RowKit

theorem exec_neq_same {op : Oper} {a : Act} (u v : Operand) (ho : op.op = .binOp .neq 48 u v 48) (x : Int) (w : World) (hu : a.eval u = .agg (secA x)) (hv : a.eval v = .agg (secA x)) :
    (execOp a.eval op).run Try.prog w = .ok (.value (.bool false)) w := by
  have := exec_neq (op := op) (a := a) u v ho x x w hu hv
  rwa [beq_self_eq_true] at this

/-- What the first loop keeps. -/
structure TL (w z : World) (g gs b9 n : Nat) (m : Int) (R : Array Value) : Prop where
  below : Below w.heap.size w z
  low : ∀ k, XX g gs b9 b9 k → w.heap.size ≤ k
  lt : ∀ k, XX g gs b9 b9 k → k < z.heap.size
  n9 : ¬ own g gs b9
  both : Both (XX g gs b9 b9) z g gs n m R
  box9 : z.heap[b9]? = some (.cells R 32 (0, 0))
section
variable {w z z' z'' : World} {g gs b9 n : Nat} {m : Int} {R R3 : Array Value}
theorem TL.l9 (h : TL w z g gs b9 n m R) : b9 < z.heap.size := h.lt b9 (.inr (.inr (.inl rfl)))
theorem TL.low_mod (h : TL w z g gs b9 n m R) (hm : Mod (own g gs) z.drew z') : Below w.heap.size w z' :=
  hm.below h.below.drew (fun k hk => h.low k (own_xx g gs b9 b9 k hk)) h.below.size
theorem TL.row9 (h : TL w z g gs b9 n m R) (hm : Mod (own g gs) z.drew z') : z'.heap[b9]? = some (.cells R 32 (0, 0)) := by
  rw [hm.block b9 h.l9 h.n9]
  exact h.box9
theorem TL.did (h : TL w z g gs b9 n m R) (hb : Both (XX g gs b9 b9) z' g gs n (m + 1) R3) (hm : Mod (own g gs) z.drew z') (h9 : z''.heap[b9]? = some (.cells R3 32 (0, 0))) (hm9 : Mod (fun k => k = b9) z' z'') :
    TL w z'' g gs b9 n (m + 1) R3 := by
  have hg : g ≠ b9 := fun e => h.n9 (.inl e.symm)
  have hgs : gs ≠ b9 := fun e => h.n9 (.inr e.symm)
  have hx9 : ∀ k, k = b9 → XX g gs b9 b9 k := fun k e => .inr (.inr (.inl e))
  exact ⟨hm9.below (h.low_mod hm) (fun k e => h.low k (hx9 k e)) (Nat.le_trans h.below.size hm.size), h.low, fun k hk => Nat.lt_of_lt_of_le (h.lt k hk) (Nat.le_trans hm.size hm9.size), h.n9, hb.kept hm9 hg hgs (fun k _ e => hx9 k e), h9⟩
end
/-- What is kept behind it. -/
structure TP (w z : World) (g gs b9 : Nat) (R : Array Value) (S : List Int) (nw fu : Int) (kp : List Bool) (dn : Bool) : Prop where
  below : Below w.heap.size w z
  low : ∀ k, XX g gs b9 b9 k → w.heap.size ≤ k
  lt : ∀ k, XX g gs b9 b9 k → k < z.heap.size
  n9 : ¬ own g gs b9
  plat : Plat (XX g gs b9 b9) z g gs S nw fu kp dn
  box9 : z.heap[b9]? = some (.cells R 32 (0, 0))
section
variable {w z z' : World} {g gs b9 : Nat} {R : Array Value} {S : List Int} {nw fu : Int} {kp : List Bool} {dn : Bool}
theorem TP.under (h : TP w z g gs b9 R S nw fu kp dn) (hb : Below z.heap.size z z') : TP w z' g gs b9 R S nw fu kp dn :=
  ⟨h.below.trans (hb.mono h.below.size), h.low, fun k hk => Nat.lt_of_lt_of_le (h.lt k hk) hb.size, h.n9, h.plat.below hb, by rw [hb.block _ (h.lt b9 (.inr (.inr (.inl rfl))))]; exact h.box9⟩
theorem TP.drew (h : TP w z g gs b9 R S nw fu kp dn) : TP w z.drew g gs b9 R S nw fu kp dn := h.under (Below.refl _ _).drew
theorem TP.turn (h : TP w z g gs b9 R S nw fu kp dn) {S' : List Int} {nw' fu' : Int} {kp' : List Bool} {dn' : Bool} (hp : Plat (XX g gs b9 b9) z' g gs S' nw' fu' kp' dn') (hm : Mod (own g gs) z z') : TP w z' g gs b9 R S' nw' fu' kp' dn' :=
  ⟨hm.below h.below (fun k hk => h.low k (own_xx g gs b9 b9 k hk)) h.below.size, h.low, fun k hk => Nat.lt_of_lt_of_le (h.lt k hk) hm.size, h.n9, hp, by rw [hm.block _ (h.lt b9 (.inr (.inr (.inl rfl)))) h.n9]; exact h.box9⟩
theorem Lz.turn {size n : Nat} {A : Option Addr} {xs : List Value} (h : Lz (XX g gs b9 b9) z size A n xs) (hm : Mod (own g gs) z z') : Lz (XX g gs b9 b9) z' size A n xs := h.kept (hm.mono (fun k _ e => own_xx g gs b9 b9 k e))
end
structure SJ (w : World) (b9 : Nat) (R : Array Value) (z : World) : Prop where
  below : Below w.heap.size w z
  box : z.heap[b9]? = some (.cells R 32 (0, 0))

/-- A new sector variable with a value. -/
theorem want_new {wr w9 : World} {x : Int} (hW : w9 = (wr.alloc (.cells (tabA 0 0) 48)).setCells wr.heap.size 0 (sec x)) : w9.rangeAt wr.heap.size 0 (sec x) ∧ Below wr.heap.size wr w9 ∧ w9.there wr.heap.size 0 64 := by
  have hth : (wr.alloc (.cells (tabA 0 0) 48)).there wr.heap.size 0 64 := there_row (cur := (tabA 0 0).toList) (heap_alloc_new wr _) (by rw [Array.length_toList, tabA_size]; omega)
  subst hW
  refine ⟨World.rangeAt_setCells_same _ _ _ _ (by rw [sec_length]; exact hth), ?_, World.there_setCells hth _ _ _⟩
  have hm : Mod (fun _ => False) wr ((wr.alloc (.cells (tabA 0 0) 48)).setCells wr.heap.size 0 (sec x)) := ((Mod.refl _ wr).alloc _).setCells (.inr (Nat.le_refl _)) _ _
  exact ⟨hm.os, hm.tape, hm.output, hm.size, fun k hk => hm.block k hk (fun h => h)⟩
theorem want_th (wr : World) : (wr.alloc (.cells (tabA 0 0) 48)).there wr.heap.size 0 64 := there_row (cur := (tabA 0 0).toList) (heap_alloc_new wr _) (by rw [Array.length_toList, tabA_size]; omega)
/-- It is stored once more. -/
theorem want_again {wr w9 w10 w11 : World} {y : Int} (hb9 : Below wr.heap.size wr w9) (ht : w9.there wr.heap.size 0 64) (hb : Below w9.heap.size w9 w10) (hl : wr.heap.size < w9.heap.size) (hW : w11 = w10.setCells wr.heap.size 0 (sec y)) :
    w11.rangeAt wr.heap.size 0 (sec y) ∧ Below wr.heap.size wr w11 := by
  have h10 : w10.there wr.heap.size 0 64 := fun j hj => by
    rw [hb.cell (p := ⟨wr.heap.size, 0 + j, none⟩) hl, hb.frozen (p := ⟨wr.heap.size, 0 + j, none⟩) hl]
    exact ht j hj
  subst hW
  refine ⟨World.rangeAt_setCells_same _ _ _ _ (by rw [sec_length]; exact h10), ?_⟩
  have b10 : Below wr.heap.size wr w10 := hb9.trans (hb.mono (by omega))
  have hm : Mod (fun k => k = wr.heap.size) w10 (w10.setCells wr.heap.size 0 (sec y)) := Mod.setCells (X := fun k => k = wr.heap.size) (Mod.refl _ w10) (.inl rfl) _ _
  exact hm.below b10 (fun k e => by omega) b10.size

def TearsR1 (w : World) (g gs b9 L : Nat) (ok i : Value) (wx : World) : Prop :=
  ∃ (k : Nat) (R : Array Value), ok = .bool true ∧ i = .int .i64 k ∧ k ≤ L ∧ Hid (TL w wx g gs b9 12 k R)
def TearsR3 (w : World) (g gs b9 L : Nat) (R : Array Value) (T : List Int) (nw : Int) (A : Option Addr) (c : Nat) (K : Option Addr) (kc : Nat) (Sr : List Int) (kl : List Bool) (An : Option Addr) (n : Nat) (i : Value) (wx : World) : Prop :=
  ∃ (k : Nat) (fu : Int) (kp : List Bool), i = .int .i64 k ∧ k ≤ L ∧ kp.length ≤ 1000 ∧ Hid (TP w wx g gs b9 R T nw fu kp true) ∧ Hid (RefAt (XX g gs b9 b9) wx A c K kc Sr kl) ∧ Hid (Lz (XX g gs b9 b9) wx 64 An n (flat T))

theorem TL.start {w w1 w2 : World} {g gs gsr : Nat} (h1 : w.heap.size ≤ g) (h2 : w.heap.size ≤ gs) (hp : Plat (fun _ => False) w1 g gs (List.replicate 12 0) 0 (-1) [] false) (b1 : Below w.heap.size w w1)
    (hl : Lz (fun b => b < w1.heap.size) w2 64 (some ⟨gsr, 0, none⟩) 12 (flat (List.replicate 12 0))) (b2 : Below w1.heap.size w1 w2) {o : Obj} {R0 : Array Value}
    (hR0 : R0 = #[.slice (some ⟨gsr, 0, none⟩) 12 12, .int .i64 0, .int .i64 (-1), .slice none 0 0, .bool false]) (ho : o = .cells R0 32) :
    TL w (w2.alloc o) g gs w2.heap.size 12 0 R0 := by
  have z : (w2.alloc o).heap.size = w2.heap.size + 1 := by simp
  have s1 := b1.size
  have s2 := b2.size
  have hlt := hp.lt
  have B2 : Below w2.heap.size w2 (w2.alloc o) := (Below.refl _ _).alloc (Nat.le_refl _) o
  have hlen : (List.replicate 12 (0 : Int)).length = 12 := List.length_replicate
  refine ⟨(b1.trans (b2.mono s1)).alloc (by omega) o, ?_, ?_, ?_, ?_, ?_⟩
  · intro k hk
    rcases hk with rfl | rfl | rfl | rfl <;> omega
  · intro k hk
    rcases hk with rfl | rfl | rfl | rfl <;> omega
  · rintro (h | h) <;> omega
  · refine ⟨List.replicate 12 0, 0, -1, [], false, some ⟨gsr, 0, none⟩, 12, -1, none, [], 0, by rw [hR0, hlen]; rfl, ⟨((hp.below b2).below B2).nil_any, ⟨?_, Lz.empty, by rw [hlen]; exact Nat.le_refl _, by simp [maxLen], Nat.le_refl _, by simp [maxLen]⟩, .inr ⟨.inr ⟨by omega, by omega⟩, fun h => absurd h (by omega)⟩, hlen, by omega, by omega, by unfold I64; omega, by unfold I64; omega, by simp, by simp⟩⟩
    rw [hlen]
    refine (hl.mono fun k hk hx => ?_).below B2
    rcases hx with rfl | rfl | rfl | rfl
    · exact hlt.1
    · exact hlt.2.1
    · omega
    · omega
  · rw [heap_alloc_new w2 o, ho]

end Go.Proofs.Ytggcfbglfmcdmaa
