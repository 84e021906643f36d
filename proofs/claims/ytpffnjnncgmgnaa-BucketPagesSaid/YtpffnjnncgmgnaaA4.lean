/-
  A row of bytes that a call makes and lengthens while a box of its own stays as it was; the walk of the reference's Rec.
  Conditions: a value of at most 15 bytes.
-/
import Derived.Test.YtpffnjnncgmgnaaA3
namespace Go.Proofs.Ytpffnjnncgmgnaa
open Go.RowKit
set_option maxRecDepth 8000

/-- The call that began in world w0 has laid a box (block b), and the row v holds the bytes l. -/
structure Grow (w0 : World) (b : Nat) (t : TypeId) (cs : Array Value) (l : List UInt8) (v : Value) (w : World) : Prop where
  box : At w b t cs
  own : w.ownsRow (b + 1) 5 1 v l.length (BC l)
  below : Below b w0 w
  size : b + 1 ≤ w.heap.size
section
variable {w0 w w' : World} {b : Nat} {t : TypeId} {cs : Array Value} {l : List UInt8} {v : Value}
theorem Grow.call (h : Grow w0 b t cs l v w) (hb : Below w.heap.size w w') : Grow w0 b t cs l v w' :=
  ⟨h.box.under hb h.box.lt, own_under h.own hb (Nat.le_refl _), h.below.trans (hb.mono (Nat.le_of_lt h.box.lt)), Nat.le_trans h.size hb.size⟩
theorem Grow.alloc (h : Grow w0 b t cs l v w) (o : Obj) : Grow w0 b t cs l v (w.alloc o) := h.call ((Below.refl _ _).alloc (Nat.le_refl _) o)
theorem Grow.eq {m : List UInt8} (h : Grow w0 b t cs l v w) (e : l = m) : Grow w0 b t cs m v w := by subst e; exact h
theorem Grow.ret (h : Grow w0 b t cs l v w) (hb : b = w0.heap.size) : RetB w0 l (.returned v) w := by
  subst hb
  exact RetB.mk (own_base h.own (Nat.le_succ _)) h.below
theorem Grow.first (hb : b = w0.heap.size) (h : At w b t cs) (ho : w.ownsRow (b + 1) 5 1 v l.length (BC l)) (hbl : Below (b + 1) (w0.alloc (.cells cs t)) w) : Grow w0 b t cs l v w := by
  subst hb
  exact ⟨h, ho, ((Below.refl _ _).alloc (Nat.le_refl _) _).trans (hbl.mono (Nat.le_succ _)), h.lt⟩
theorem Grow.slice (h : Grow w0 b t cs l v w) : ∃ A n c, v = .slice A n c ∧ l.length = n := by
  obtain ⟨A, c, hv, _⟩ := own_slice h.own
  exact ⟨A, _, c, hv, rfl⟩
theorem Grow.ownN {n : Nat} (h : Grow w0 b t cs l v w) (hn : l.length = n) : w.ownsRow (b + 1) 5 1 v n (BC l) := by subst hn; exact h.own
theorem Grow.retO {l' : List UInt8} {v' : Value} (h : Grow w0 b t cs l v w) (hr : RetO w (b + 1) l' (.returned v') w') : Grow w0 b t cs l' v' w' := by
  obtain ⟨A, n, c, he, ho, hb, hs⟩ := hr
  injection he with he
  subst he
  have hn := own_n ho
  exact ⟨h.box.under hb (Nat.lt_succ_self _), by rw [hn]; exact ho, h.below.trans (hb.mono (Nat.le_succ _)), Nat.le_trans h.size hs⟩
theorem RetO.len {base n c : Nat} {A : Option Addr} (h : RetO w base l (.returned (.slice A n c)) w') : l.length = n := by
  obtain ⟨A', n', c', he, ho, _⟩ := h
  injection he with he
  injection he with _ h2
  rw [h2]
  exact own_n ho
/-- append(v, x...) onto the row. -/
theorem wpList_grow {ops : Array Oper} {rest : List Oper} {o : Oper} {a : Act} {Q : Exit → Act → World → Prop} (hgd : o.guard = none) (s x : Operand)
    (ho : o.op = .call { callee := .builtin .append, args := #[s, x], argTypes := #[67, 67] }) (hs : a.eval s = v) (G : Grow w0 b t cs l v w)
    (B : Nat) (A : Option Addr) (m c : Nat) (news : List UInt8) (hx : a.eval x = .slice A m c) (hr : Lies w B 1 A m (BC news)) (hlen : l.length ≤ 20000) (hm : m ≤ 20000)
    (h : ∀ v' w', Grow w0 b t cs (l ++ news) v' w' → wpList Try.prog ops Q rest (a.put o.dst v') w') : wpList Try.prog ops Q (o :: rest) a w := by
  obtain ⟨i0, hi0, hz0, hz1, hz2⟩ := info_parts u8_info
  have hn : news.length = m := by have := hr.len; rw [BC_length] at this; omega
  refine wpList_app w hgd s x 67 ho (b + 1) 5 i0 _ 1 1 Try.underlying67 hi0 hz0 hz1 hz2 rfl (by omega) v _ _ hs G.own B A m c _ hx hr (BC_one _) (by simp only [maxLen]; omega) (by omega) G.size ?_
  intro v' w' ho' hg
  refine h v' w' ⟨G.box.grown hg (fun e => by have := (G.own.lt _ e.symm).1; omega), ?_, below_own G.below G.own hg (Nat.le_succ _) (Nat.le_of_lt G.box.lt), Nat.le_trans G.size hg.size⟩
  rw [List.length_append, hn, BC_append]
  exact ho'
end

theorem wrap_nat {x : Nat} (h : x < 4294967296) : IntKind.u64.wrap (x : Int) = (x : Int) := by rw [IntKind.wrap_u64]; omega
theorem lies_byte (w : World) (b : UInt8) (z : Int) (t : TypeId) (hz : z = (b.toNat : Int)) : Lies (w.alloc (.cells #[.int .u8 z] t)) (w.heap.size + 1) 1 (some ⟨w.heap.size, 0, none⟩) 1 (BC [b]) := by
  subst hz
  exact lies_new w _ t

set_option maxHeartbeats 1600000 in
theorem refRec_any (r : Rc) (w : World) (hr : r.ok) (hv : r.val.length ≤ 15) : Calls Try.prog 35 #[.agg #[.int .u64 (r.id : Nat), .int .u64 (r.key : Nat), .int .u32 (r.x : Nat), .int .u32 (r.y : Nat), .string (strOf r.val), .bool r.ghost]] w (RetB w (recL r)) := by
  obtain ⟨id, key, x, y, val, ghost⟩ := r
  obtain ⟨h1, h2, h3, h4⟩ := hr
  simp only at h1 h2 h3 h4 hv
  have R0 := Lib.hid (At.new w 52 #[.int .u64 (id : Int), .int .u64 (key : Int), .int .u32 (x : Int), .int .u32 (y : Int), .string (strOf val), .bool ghost])
  have ex := wrap_nat h3
  have ey := wrap_nat h4
  have p8 : ∀ n : Nat, (putL n (8 : Int).toNat).length = 8 := fun n => putL_length 8 n
  have p4 : ∀ n : Nat, (putL n (4 : Int).toNat).length = 4 := fun n => putL_length 4 n
  have P8 := Lib.hid p8
  have P4 := Lib.hid p4
  clear p8 p4
  cases ghost with
  | false =>
    go_enter Try.func35, Try.ntmps35
    go_wp2_with fail
    refine (wrefPut_any 8 id 8 _ (by omega) (by omega) (by omega) (by omega)).mono ?_
    rintro e w1 ⟨A1, c1, rfl, ho1, hb1⟩
    rw [P8.out] at ho1 ⊢
    have G1 : Hid (Grow w w.heap.size 52 #[.int .u64 (id : Int), .int .u64 (key : Int), .int .u32 (x : Int), .int .u32 (y : Int), .string (strOf val), .bool false] (putL id (8 : Int).toNat) (.slice A1 8 c1) w1) :=
      Lib.hid (Grow.first rfl (R0.out.under hb1 R0.out.lt) (by rw [P8.out]; have := ho1; rwa [show (w.alloc (.cells #[.int .u64 (id : Int), .int .u64 (key : Int), .int .u32 (x : Int), .int .u32 (y : Int), .string (strOf val), .bool false] 52)).heap.size = w.heap.size + 1 by simp] at this) (hb1.mono (by simp)))
    clear ho1 hb1
    have cx : w1.cell? ⟨w.heap.size, 1, none⟩ = some (.int .u64 (key : Int)) := G1.out.box.cell 1
    go_wp2_with fail
    refine (wrefPut_any 8 key 8 w1 (by omega) (by omega) (by omega) (by omega)).mono ?_
    rintro e w2 ⟨A2, c2, rfl, ho2, hb2⟩
    rw [P8.out] at ho2 ⊢
    have G2 := Lib.hid (G1.out.call hb2)
    have I2 := Lib.hid (Lies.of_own ho2)
    clear ho2 hb2 G1
    go_wp2_with (at_builtin; refine wpList_grow rfl (.tmp 9) (.tmp 12) rfl rfl G2.out w2.heap.size _ _ _ _ rfl I2.out (by simp [putL_length]) (by omega) ?_; intro v3 w3 g3; have G3 := Lib.hid g3; clear g3; have cx : w3.cell? ⟨w.heap.size, 2, none⟩ = some (.int .u32 (x : Int)) := G3.out.box.cell 2)
    refine (wrefPut_any 8 x 4 w3 (by omega) (by omega) (by omega) (by omega)).mono ?_
    rintro e w4 ⟨A4, c4, rfl, ho4, hb4⟩
    rw [P4.out] at ho4 ⊢
    have G4 := Lib.hid (G3.out.call hb4)
    have I4 := Lib.hid (Lies.of_own ho4)
    clear ho4 hb4 G3
    go_wp2_with (at_builtin; refine wpList_grow rfl (.tmp 14) (.tmp 18) rfl rfl G4.out w4.heap.size _ _ _ _ rfl I4.out (by simp [putL_length]) (by omega) ?_; intro v5 w5 g5; have G5 := Lib.hid g5; clear g5; have cy : w5.cell? ⟨w.heap.size, 3, none⟩ = some (.int .u32 (y : Int)) := G5.out.box.cell 3)
    refine (wrefPut_any 8 y 4 w5 (by omega) (by omega) (by omega) (by omega)).mono ?_
    rintro e w6 ⟨A6, c6, rfl, ho6, hb6⟩
    rw [P4.out] at ho6 ⊢
    have G6 := Lib.hid (G5.out.call hb6)
    have I6 := Lib.hid (Lies.of_own ho6)
    clear ho6 hb6 G5
    go_wp2_with (first
                   | (at_builtin; refine wpList_grow rfl (.tmp 20) (.tmp 24) rfl rfl G6.out w6.heap.size _ _ _ _ rfl I6.out (by simp [putL_length]) (by omega) ?_; intro v7 w7 g7; have G7 := Lib.hid g7; clear g7; have cg : w7.cell? ⟨w.heap.size, 5, none⟩ = some (.bool false) := G7.out.box.cell 5)
                   | (at_builtin; refine wpList_grow rfl (.tmp 31) (.tmp 32) rfl rfl (G7.out.alloc _) _ _ _ _ [gB false] rfl (lies_byte _ _ _ _ rfl) (by simp [putL_length]) (by omega) ?_; intro v8 w8 g8; have G8 := Lib.hid g8; clear g8; have cv : w8.cell? ⟨w.heap.size, 4, none⟩ = some (.string (strOf val)) := G8.out.box.cell 4))
    refine (refText_ok (strOf val) 16 w8 (by omega) (by omega) (by rw [strOf_size]; omega)).mono ?_
    rintro e w9 ⟨A9, n9, c9, rfl, ho9, hb9⟩
    obtain rfl : n9 = 16 := by have := ho9.1; rw [BC_length, strOf_toList, show (16 : Int).toNat = 16 from rfl, fieldL_length _ _ (by omega)] at this; omega
    have G9 := Lib.hid (G8.out.call hb9)
    have I9 := Lib.hid (Lies.of_own ho9)
    clear ho9 hb9
    go_wp2_with (at_builtin; refine wpList_grow rfl (.tmp 40) (.tmp 41) rfl rfl G9.out w9.heap.size _ _ _ _ rfl I9.out (by simp [putL_length]) (by omega) ?_; intro v10 w10 g10)
    go_ret
    refine (g10.eq ?_).ret rfl
    rw [strOf_toList]
    simp [recL]
  | true =>
    go_enter Try.func35, Try.ntmps35
    go_wp2_with fail
    refine (wrefPut_any 8 id 8 _ (by omega) (by omega) (by omega) (by omega)).mono ?_
    rintro e w1 ⟨A1, c1, rfl, ho1, hb1⟩
    rw [P8.out] at ho1 ⊢
    have G1 : Hid (Grow w w.heap.size 52 #[.int .u64 (id : Int), .int .u64 (key : Int), .int .u32 (x : Int), .int .u32 (y : Int), .string (strOf val), .bool true] (putL id (8 : Int).toNat) (.slice A1 8 c1) w1) :=
      Lib.hid (Grow.first rfl (R0.out.under hb1 R0.out.lt) (by rw [P8.out]; have := ho1; rwa [show (w.alloc (.cells #[.int .u64 (id : Int), .int .u64 (key : Int), .int .u32 (x : Int), .int .u32 (y : Int), .string (strOf val), .bool true] 52)).heap.size = w.heap.size + 1 by simp] at this) (hb1.mono (by simp)))
    clear ho1 hb1
    have cx : w1.cell? ⟨w.heap.size, 1, none⟩ = some (.int .u64 (key : Int)) := G1.out.box.cell 1
    go_wp2_with fail
    refine (wrefPut_any 8 key 8 w1 (by omega) (by omega) (by omega) (by omega)).mono ?_
    rintro e w2 ⟨A2, c2, rfl, ho2, hb2⟩
    rw [P8.out] at ho2 ⊢
    have G2 := Lib.hid (G1.out.call hb2)
    have I2 := Lib.hid (Lies.of_own ho2)
    clear ho2 hb2 G1
    go_wp2_with (at_builtin; refine wpList_grow rfl (.tmp 9) (.tmp 12) rfl rfl G2.out w2.heap.size _ _ _ _ rfl I2.out (by simp [putL_length]) (by omega) ?_; intro v3 w3 g3; have G3 := Lib.hid g3; clear g3; have cx : w3.cell? ⟨w.heap.size, 2, none⟩ = some (.int .u32 (x : Int)) := G3.out.box.cell 2)
    refine (wrefPut_any 8 x 4 w3 (by omega) (by omega) (by omega) (by omega)).mono ?_
    rintro e w4 ⟨A4, c4, rfl, ho4, hb4⟩
    rw [P4.out] at ho4 ⊢
    have G4 := Lib.hid (G3.out.call hb4)
    have I4 := Lib.hid (Lies.of_own ho4)
    clear ho4 hb4 G3
    go_wp2_with (at_builtin; refine wpList_grow rfl (.tmp 14) (.tmp 18) rfl rfl G4.out w4.heap.size _ _ _ _ rfl I4.out (by simp [putL_length]) (by omega) ?_; intro v5 w5 g5; have G5 := Lib.hid g5; clear g5; have cy : w5.cell? ⟨w.heap.size, 3, none⟩ = some (.int .u32 (y : Int)) := G5.out.box.cell 3)
    refine (wrefPut_any 8 y 4 w5 (by omega) (by omega) (by omega) (by omega)).mono ?_
    rintro e w6 ⟨A6, c6, rfl, ho6, hb6⟩
    rw [P4.out] at ho6 ⊢
    have G6 := Lib.hid (G5.out.call hb6)
    have I6 := Lib.hid (Lies.of_own ho6)
    clear ho6 hb6 G5
    go_wp2_with (first
                   | (at_builtin; refine wpList_grow rfl (.tmp 20) (.tmp 24) rfl rfl G6.out w6.heap.size _ _ _ _ rfl I6.out (by simp [putL_length]) (by omega) ?_; intro v7 w7 g7; have G7 := Lib.hid g7; clear g7; have cg : w7.cell? ⟨w.heap.size, 5, none⟩ = some (.bool true) := G7.out.box.cell 5)
                   | (at_builtin; refine wpList_grow rfl (.tmp 28) (.tmp 29) rfl rfl (G7.out.alloc _) _ _ _ _ [gB true] rfl (lies_byte _ _ _ _ rfl) (by simp [putL_length]) (by omega) ?_; intro v8 w8 g8; have G8 := Lib.hid g8; clear g8; have cv : w8.cell? ⟨w.heap.size, 4, none⟩ = some (.string (strOf val)) := G8.out.box.cell 4))
    refine (refText_ok (strOf val) 16 w8 (by omega) (by omega) (by rw [strOf_size]; omega)).mono ?_
    rintro e w9 ⟨A9, n9, c9, rfl, ho9, hb9⟩
    obtain rfl : n9 = 16 := by have := ho9.1; rw [BC_length, strOf_toList, show (16 : Int).toNat = 16 from rfl, fieldL_length _ _ (by omega)] at this; omega
    have G9 := Lib.hid (G8.out.call hb9)
    have I9 := Lib.hid (Lies.of_own ho9)
    clear ho9 hb9
    go_wp2_with (at_builtin; refine wpList_grow rfl (.tmp 40) (.tmp 41) rfl rfl G9.out w9.heap.size _ _ _ _ rfl I9.out (by simp [putL_length]) (by omega) ?_; intro v10 w10 g10)
    go_ret
    refine (g10.eq ?_).ret rfl
    rw [strOf_toList]
    simp [recL]
end Go.Proofs.Ytpffnjnncgmgnaa
