/-
  Walks: entry.Rec.
  Conditions: a value of at most 15 bytes.
-/
import Derived.Test.YtpffnjnncgmgnaaA2
namespace Go.Proofs.Ytpffnjnncgmgnaa
open Go.RowKit
set_option maxRecDepth 8000

theorem strOf_size (l : List UInt8) : (strOf l).size = l.length := by simp [strOf, ByteArray.size]

/-! ### A block of cells -/
def At (w : World) (g : Nat) (t : TypeId) (cs : Array Value) : Prop := w.heap[g]? = some (.cells cs t (0, 0))
section
variable {w w' : World} {g : Nat} {t : TypeId} {cs : Array Value}
theorem At.lt (h : At w g t cs) : g < w.heap.size := (Array.getElem?_eq_some_iff.1 h).1
theorem At.cell (h : At w g t cs) (k : Nat) : w.cell? ⟨g, k, none⟩ = cs[k]? := cell_of_row w g k _ _ _ h
theorem At.frozen (h : At w g t cs) (k : Nat) : w.frozen? ⟨g, k, none⟩ = false := frozen_of_row w g k _ _ h
theorem At.under {B : Nat} (h : At w g t cs) (hb : Below B w w') (hg : g < B) : At w' g t cs := (hb.block g hg).trans h
theorem At.grown {row : Option Nat} (h : At w g t cs) (hb : w.grownBy w' row) (hg : some g ≠ row) : At w' g t cs := (hb.block g h.lt hg).trans h
theorem At.alloc (h : At w g t cs) (o : Obj) : At (w.alloc o) g t cs := (Below.heap_alloc w o g h.lt).trans h
theorem At.set (h : At w g t cs) (k : Nat) (u : Value) : At (w.setCell ⟨g, k, none⟩ u) g t (cs.setIfInBounds k u) := heap_set w g k _ _ u h
theorem At.other (h : At w g t cs) {p : Addr} (hp : g ≠ p.block) (u : Value) : At (w.setCell p u) g t cs := (Below.heap_setCell w p u g hp).trans h
end
theorem At.new (w : World) (t : TypeId) (cs : Array Value) : At (w.alloc (.cells cs t)) w.heap.size t cs := heap_alloc_new w _

/-- What the call of putNumbers in Rec comes to. -/
theorem rec_nums (id key : Nat) (w : World) (k : Nat) (hk : k = w.heap.size) (h1 : id < 18446744073709551616) (h2 : key < 18446744073709551616) :
    Calls Try.prog 57 #[.slice none 0 0, .slice (some ⟨k, 0, none⟩) 2 2] (w.alloc (.cells #[.int .u64 (id : Int), .int .u64 (key : Int)] 23)) fun e w' =>
      ∃ A c, e = .returned (.slice A 16 c) ∧ Lies w' w'.heap.size 1 A 16 (BC (putL id 8 ++ putL key 8)) ∧ Below w.heap.size w w' := by
  subst hk
  have hli := lies_new' w (UC [id, key]) 23 2 rfl
  refine (putNumbers_any w.heap.size (w.heap.size + 1) 0 0 2 2 none _ [] [id, key] _ (World.ownsRow_nil _ _ _ _) hli (by intro _ k a hk; cases hk) (by simp) (by simp) (by omega) (by omega) (by simp [h1, h2])).mono ?_
  rintro e w' ⟨A, n, c, rfl, ho, hb, _⟩
  have hl : ([] ++ numsL [id, key]).length = 16 := by simp [numsL, putL_length]
  obtain rfl : n = 16 := by have := own_n ho; omega
  refine ⟨A, c, rfl, ?_, ((Below.refl _ _).alloc (Nat.le_refl _) _).trans hb⟩
  have := Lies.of_own ho
  simpa [numsL] using this

set_option maxHeartbeats 800000 in
theorem rec_any (r : Rc) (w : World) (hr : r.ok) (hv : r.val.length ≤ 15) : Calls Try.prog 46 #[.agg #[.int .u64 (r.id : Nat), .int .u64 (r.key : Nat), .int .u32 (r.x : Nat), .int .u32 (r.y : Nat), .string (strOf r.val), .bool r.ghost]] w (RetB w (recL r)) := by
  obtain ⟨id, key, x, y, val, ghost⟩ := r
  obtain ⟨h1, h2, h3, h4⟩ := hr
  simp only at h1 h2 h3 h4 hv
  have R0 := Lib.hid (At.new w 52 #[.int .u64 (id : Int), .int .u64 (key : Int), .int .u32 (x : Int), .int .u32 (y : Int), .string (strOf val), .bool ghost])
  have l2 : (putL id 8 ++ putL key 8 ++ putL x (4 : Int).toNat).length = 20 := by simp [putL_length]
  have l3 : (putL id 8 ++ putL key 8 ++ putL x (4 : Int).toNat ++ putL y (4 : Int).toNat).length = 24 := by simp [putL_length]
  have L2 := Lib.hid l2
  have L3 := Lib.hid l3
  clear l2 l3
  cases ghost with
  | false =>
    have L4 := Lib.hid (show (putL id 8 ++ putL key 8 ++ putL x (4 : Int).toNat ++ putL y (4 : Int).toNat ++ putL 0 (1 : Int).toNat).length = 25 by simp [putL_length])
    go_enter Try.func46, Try.ntmps46
    go_wp2_with fail
    refine (rec_nums id key _ _ (by simp) h1 h2).mono ?_
    rintro e w1 ⟨A1, c1, rfl, li1, hb1⟩
    have s1 := hb1.size
    have R1 := Lib.hid (R0.out.under hb1 R0.out.lt)
    have cx : w1.cell? ⟨w.heap.size, 2, none⟩ = some (.int .u32 (x : Int)) := R1.out.cell 2
    have B1 := (((Below.refl w.heap.size w).alloc (Nat.le_refl _) _).trans (hb1.mono (by simp)))
    have I1 := Lib.hid li1
    clear li1 hb1
    go_wp2_with fail
    refine (wput32_any w1.heap.size 16 c1 x A1 (putL id 8 ++ putL key 8) 4 w1 I1.out (Nat.le_refl _) (by omega) h3 (by omega) (by omega)).mono ?_
    rintro e w2 ⟨A2, c2, rfl, ho2, hb2⟩
    rw [L2.out] at ho2 ⊢
    have s2 := hb2.size
    have R2 := Lib.hid (R1.out.under hb2 R1.out.lt)
    have cy : w2.cell? ⟨w.heap.size, 3, none⟩ = some (.int .u32 (y : Int)) := R2.out.cell 3
    have B2 := B1.trans (hb2.mono B1.size)
    have I2 := Lib.hid (Lies.of_own ho2)
    clear ho2 hb2 I1 R1 cx B1
    go_wp2_with fail
    refine (wput32_any w2.heap.size 20 c2 y A2 _ 4 w2 I2.out (Nat.le_refl _) (by omega) h4 (by omega) (by omega)).mono ?_
    rintro e w3 ⟨A3, c3, rfl, ho3, hb3⟩
    rw [L3.out] at ho3 ⊢
    have s3 := hb3.size
    have R3 := Lib.hid (R2.out.under hb3 R2.out.lt)
    have B3 := B2.trans (hb3.mono B2.size)
    have I3 := Lib.hid (Lies.of_own ho3)
    clear ho3 hb3 I2 R2 cy B2
    go_wp2_with fail
    refine (wput8_any w3.heap.size 24 c3 0 A3 _ 1 w3 I3.out (Nat.le_refl _) (by omega) (by omega) (by omega) (by omega)).mono ?_
    rintro e w4 ⟨A4, c4, rfl, ho4, hb4⟩
    rw [L4.out] at ho4 ⊢
    have s4 := hb4.size
    have R4 := Lib.hid (R3.out.under hb4 R3.out.lt)
    have cv : w4.cell? ⟨w.heap.size, 4, none⟩ = some (.string (strOf val)) := R4.out.cell 4
    have B4 := B3.trans (hb4.mono B3.size)
    have I4 := Lib.hid (Lies.of_own ho4)
    clear ho4 hb4 I3 R3 B3
    go_wp2_with fail
    refine (text_ok w4.heap.size 25 c4 A4 _ (strOf val) 16 w4 I4.out (Nat.le_refl _) (by omega) (by omega) (by omega) (by rw [strOf_size]; omega)).mono ?_
    rintro e w5 ⟨A5, n5, c5, rfl, ho5, hb5⟩
    have O5 := Lib.hid ho5
    clear ho5
    go_wp2_with fail
    go_ret
    refine RetB.mk (own_len (own_base O5.out B4.size) ?_) (B4.trans (hb5.mono B4.size))
    rw [strOf_toList]
    simp [recL, gB, putL]
  | true =>
    have L4 := Lib.hid (show (putL id 8 ++ putL key 8 ++ putL x (4 : Int).toNat ++ putL y (4 : Int).toNat ++ putL 1 (1 : Int).toNat).length = 25 by simp [putL_length])
    go_enter Try.func46, Try.ntmps46
    go_wp2_with fail
    refine (rec_nums id key _ _ (by simp) h1 h2).mono ?_
    rintro e w1 ⟨A1, c1, rfl, li1, hb1⟩
    have s1 := hb1.size
    have R1 := Lib.hid (R0.out.under hb1 R0.out.lt)
    have cx : w1.cell? ⟨w.heap.size, 2, none⟩ = some (.int .u32 (x : Int)) := R1.out.cell 2
    have B1 := (((Below.refl w.heap.size w).alloc (Nat.le_refl _) _).trans (hb1.mono (by simp)))
    have I1 := Lib.hid li1
    clear li1 hb1
    go_wp2_with fail
    refine (wput32_any w1.heap.size 16 c1 x A1 (putL id 8 ++ putL key 8) 4 w1 I1.out (Nat.le_refl _) (by omega) h3 (by omega) (by omega)).mono ?_
    rintro e w2 ⟨A2, c2, rfl, ho2, hb2⟩
    rw [L2.out] at ho2 ⊢
    have s2 := hb2.size
    have R2 := Lib.hid (R1.out.under hb2 R1.out.lt)
    have cy : w2.cell? ⟨w.heap.size, 3, none⟩ = some (.int .u32 (y : Int)) := R2.out.cell 3
    have B2 := B1.trans (hb2.mono B1.size)
    have I2 := Lib.hid (Lies.of_own ho2)
    clear ho2 hb2 I1 R1 cx B1
    go_wp2_with fail
    refine (wput32_any w2.heap.size 20 c2 y A2 _ 4 w2 I2.out (Nat.le_refl _) (by omega) h4 (by omega) (by omega)).mono ?_
    rintro e w3 ⟨A3, c3, rfl, ho3, hb3⟩
    rw [L3.out] at ho3 ⊢
    have s3 := hb3.size
    have R3 := Lib.hid (R2.out.under hb3 R2.out.lt)
    have B3 := B2.trans (hb3.mono B2.size)
    have I3 := Lib.hid (Lies.of_own ho3)
    clear ho3 hb3 I2 R2 cy B2
    go_wp2_with fail
    refine (wput8_any w3.heap.size 24 c3 1 A3 _ 1 w3 I3.out (Nat.le_refl _) (by omega) (by omega) (by omega) (by omega)).mono ?_
    rintro e w4 ⟨A4, c4, rfl, ho4, hb4⟩
    rw [L4.out] at ho4 ⊢
    have s4 := hb4.size
    have R4 := Lib.hid (R3.out.under hb4 R3.out.lt)
    have cv : w4.cell? ⟨w.heap.size, 4, none⟩ = some (.string (strOf val)) := R4.out.cell 4
    have B4 := B3.trans (hb4.mono B3.size)
    have I4 := Lib.hid (Lies.of_own ho4)
    clear ho4 hb4 I3 R3 B3
    go_wp2_with fail
    refine (text_ok w4.heap.size 25 c4 A4 _ (strOf val) 16 w4 I4.out (Nat.le_refl _) (by omega) (by omega) (by omega) (by rw [strOf_size]; omega)).mono ?_
    rintro e w5 ⟨A5, n5, c5, rfl, ho5, hb5⟩
    have O5 := Lib.hid ho5
    clear ho5
    go_wp2_with fail
    go_ret
    refine RetB.mk (own_len (own_base O5.out B4.size) ?_) (B4.trans (hb5.mono B4.size))
    rw [strOf_toList]
    simp [recL, gB, putL]
end Go.Proofs.Ytpffnjnncgmgnaa
