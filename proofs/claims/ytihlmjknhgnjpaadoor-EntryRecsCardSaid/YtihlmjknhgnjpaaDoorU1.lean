/-
  Walks: the example that the laws ask comes out true.
  Conditions: none.
-/
import Derived.Test.YtihlmjknhgnjpaaDoorU0
namespace Go.Proofs.YtihlmjknhgnjpaaDoor
open Go.RowKit
set_option maxRecDepth 20000

/-- An entry in a box, with its slices, all below B. -/
structure Bx (w : World) (B b : Nat) (e : Ent) (PA : Option Addr) (np pc : Nat) (QA : Option Addr) (na qc : Nat) : Prop where
  box : At w b 29 #[.int .u64 (e.lsn : Nat), .int .i64 e.kind, .int .u64 (e.txn : Nat), .int .u64 (e.prev : Nat), .int .u64 (e.next : Nat), .int .u64 (e.rc.id : Nat), .int .u64 (e.rc.key : Nat), .int .u32 (e.rc.x : Nat), .int .u32 (e.rc.y : Nat), .string (strOf e.rc.val), .bool e.rc.ghost, .slice PA np pc, .slice QA na qc]
  lt : b < B
  el : EL w B e PA np QA na
  low : B ≤ w.heap.size
section
variable {w w' : World} {B b np pc na qc : Nat} {e : Ent} {PA QA : Option Addr}
theorem Bx.under {B' : Nat} (h : Bx w B b e PA np pc QA na qc) (hb : Below B' w w') (hB : B ≤ B') : Bx w' B b e PA np pc QA na qc :=
  ⟨h.box.under hb (by have := h.lt; omega), h.lt, h.el.under (hb.mono hB), Nat.le_trans h.low hb.size⟩
theorem Bx.alloc (h : Bx w B b e PA np pc QA na qc) (o : Obj) : Bx (w.alloc o) B b e PA np pc QA na qc := h.under ((Below.refl w.heap.size w).alloc (Nat.le_refl _) o) h.low
theorem Bx.elUp (h : Bx w B b e PA np pc QA na qc) : EL w w.heap.size e PA np QA na := h.el.up h.low
end
theorem own_set {w : World} {base g n c k : Nat} {l : List UInt8} (h : w.ownsRow base 5 1 (.slice (some ⟨g, 0, none⟩) n c) n (BC l)) (v : UInt8) :
    (w.setCell ⟨g, k, none⟩ (.int .u8 (v.toNat : Int))).ownsRow base 5 1 (.slice (some ⟨g, 0, none⟩) n c) n (BC (l.set k v)) := by
  refine ⟨by have := h.1; rw [BC_length] at this ⊢; rw [List.length_set]; exact this, ?_⟩
  rcases h.2 with ⟨h0, _⟩ | ⟨g', cap, cur, hv, hb, hg, hc, hm, hs, ht⟩
  · cases h0
  · injection hv with h1 _ h3
    injection h1 with h1
    injection h1 with h1
    subst h1 h3
    refine .inr ⟨g, c, cur.setIfInBounds k (.int .u8 (v.toNat : Int)), rfl, hb, heap_set w g k _ _ _ hg, hc, hm, by simpa using hs, ?_⟩
    rw [Array.toList_setIfInBounds, List.take_set, ht]
    simp [BC, List.map_set]
theorem own_some {w : World} {base n : Nat} {A : Option Addr} {c : Nat} {xs : List Value} (h : w.ownsRow base 5 1 (.slice A n c) n xs) (hn : 0 < n) : ∃ g, A = some ⟨g, 0, none⟩ ∧ base ≤ g ∧ g < w.heap.size ∧ n ≤ c ∧ (∀ k, w.frozen? ⟨g, k, none⟩ = false) ∧ ∀ k u, xs[k]? = some u → w.cell? ⟨g, k, none⟩ = some u := by
  have hc := @World.ownsRow.cells w base 5 1 (.slice A n c) n xs h
  rcases h.2 with ⟨_, h0⟩ | ⟨g, cap, cur, hv, hb, hg, hnc, _⟩
  · omega
  · injection hv with hA _ h3
    subst hA h3
    refine ⟨g, rfl, hb, (Array.getElem?_eq_some_iff.1 hg).1, hnc, fun k => frozen_of_row w g k _ _ hg, fun k u hu => ?_⟩
    have := hc rfl k u hu
    rwa [Addr.add_mid, Nat.zero_add] at this

theorem wpList_load_rcG {ops : Array Oper} {rest : List Oper} {op : Oper} {a : Act} {w : World} {Q : Exit → Act → World → Prop} (d : Nat) (x : Operand) (hop : op.dst = some d) (hw : Region.wanted op (yielded ops a.tmps) = true) (ho : op.op = .load 25 x) (g o : Nat) (hx : a.eval x = .pointer (some ⟨g, o, none⟩)) (r : Rc)
    (hc : w.rangeAt g o (rcL r)) (h : wpList Tryd.prog ops Q rest (a.put (some d) (.agg #[.int .u64 (r.id : Nat), .int .u64 (r.key : Nat), .int .u32 (r.x : Nat), .int .u32 (r.y : Nat), .string (strOf r.val), .bool r.ghost])) w) : wpList Tryd.prog ops Q (op :: rest) a w := by
  obtain ⟨ds, h1, h2, h3⟩ := str25
  rw [wpList, if_pos hw]
  left
  refine wp_load_mid 25 x ho g o hx (rcL r) ds hc h1 h2 h3 ?_
  rw [hop]
  exact h

set_option maxHeartbeats 6400000 in
theorem works_any (w : World) : Calls Tryd.prog 7 #[] w (RetQ w true) := by
  have BX0 : Hid (Bx (((w.alloc (.cells (imA ⟨4, p0⟩) 51)).alloc (.cells #[.int .u64 8] 22)).alloc (.cells #[.int .u64 (e0.lsn : Nat), .int .i64 e0.kind, .int .u64 (e0.txn : Nat), .int .u64 (e0.prev : Nat), .int .u64 (e0.next : Nat), .int .u64 (e0.rc.id : Nat), .int .u64 (e0.rc.key : Nat), .int .u32 (e0.rc.x : Nat), .int .u32 (e0.rc.y : Nat), .string (strOf e0.rc.val), .bool e0.rc.ghost, .slice (some ⟨w.heap.size, 0, none⟩) 1 1, .slice (some ⟨w.heap.size + 1, 0, none⟩) 1 1] 29)) (w.heap.size + 3) (w.heap.size + 2) e0 (some ⟨w.heap.size, 0, none⟩) 1 1 (some ⟨w.heap.size + 1, 0, none⟩) 1 1) := by
    refine ⟨?_, by omega, ⟨⟨rfl, fun _ => ⟨w.heap.size, 0, rfl, by omega, ?_⟩⟩, ⟨rfl, fun _ => ⟨_, rfl, by show w.heap.size + 1 < _; omega, ?_⟩⟩⟩, by simp⟩
    · have := At.new ((w.alloc (.cells (imA ⟨4, p0⟩) 51)).alloc (.cells #[.int .u64 8] 22)) 29 #[.int .u64 (e0.lsn : Nat), .int .i64 e0.kind, .int .u64 (e0.txn : Nat), .int .u64 (e0.prev : Nat), .int .u64 (e0.next : Nat), .int .u64 (e0.rc.id : Nat), .int .u64 (e0.rc.key : Nat), .int .u32 (e0.rc.x : Nat), .int .u32 (e0.rc.y : Nat), .string (strOf e0.rc.val), .bool e0.rc.ghost, .slice (some ⟨w.heap.size, 0, none⟩) 1 1, .slice (some ⟨w.heap.size + 1, 0, none⟩) 1 1]
      simpa using this
    · have := at_range (cs := imL ⟨4, p0⟩) ((((At.new w 51 (imA ⟨4, p0⟩)).alloc (.cells #[.int .u64 8] 22)).alloc (.cells #[.int .u64 (e0.lsn : Nat), .int .i64 e0.kind, .int .u64 (e0.txn : Nat), .int .u64 (e0.prev : Nat), .int .u64 (e0.next : Nat), .int .u64 (e0.rc.id : Nat), .int .u64 (e0.rc.key : Nat), .int .u32 (e0.rc.x : Nat), .int .u32 (e0.rc.y : Nat), .string (strOf e0.rc.val), .bool e0.rc.ghost, .slice (some ⟨w.heap.size, 0, none⟩) 1 1, .slice (some ⟨w.heap.size + 1, 0, none⟩) 1 1] 29)))
      rw [← flatI_single] at this
      exact this
    · have := (At.new (w.alloc (.cells (imA ⟨4, p0⟩) 51)) 22 #[.int .u64 8]).alloc (.cells #[.int .u64 (e0.lsn : Nat), .int .i64 e0.kind, .int .u64 (e0.txn : Nat), .int .u64 (e0.prev : Nat), .int .u64 (e0.next : Nat), .int .u64 (e0.rc.id : Nat), .int .u64 (e0.rc.key : Nat), .int .u32 (e0.rc.x : Nat), .int .u32 (e0.rc.y : Nat), .string (strOf e0.rc.val), .bool e0.rc.ghost, .slice (some ⟨w.heap.size, 0, none⟩) 1 1, .slice (some ⟨w.heap.size + 1, 0, none⟩) 1 1] 29)
      rw [show (w.alloc (.cells (imA ⟨4, p0⟩) 51)).heap.size = w.heap.size + 1 by simp] at this
      intro j u hu
      rw [Addr.add_mid, Nat.zero_add, this.cell]
      simpa [UC, e0] using hu
  have BW0 : Hid (Below w.heap.size w (((w.alloc (.cells (imA ⟨4, p0⟩) 51)).alloc (.cells #[.int .u64 8] 22)).alloc (.cells #[.int .u64 (e0.lsn : Nat), .int .i64 e0.kind, .int .u64 (e0.txn : Nat), .int .u64 (e0.prev : Nat), .int .u64 (e0.next : Nat), .int .u64 (e0.rc.id : Nat), .int .u64 (e0.rc.key : Nat), .int .u32 (e0.rc.x : Nat), .int .u32 (e0.rc.y : Nat), .string (strOf e0.rc.val), .bool e0.rc.ghost, .slice (some ⟨w.heap.size, 0, none⟩) 1 1, .slice (some ⟨w.heap.size + 1, 0, none⟩) 1 1] 29))) :=
    Lib.hid ((((Below.refl _ _).alloc (Nat.le_refl _) _).alloc (by simp) _).alloc (by simp; omega) _)
  have ONE := Lib.hid (ent_one e0 (some ⟨w.heap.size, 0, none⟩) 1 1 (some ⟨w.heap.size + 1, 0, none⟩) 1 1)
  go_enter Tryd.func7, Tryd.ntmps7
  go_wp2_with (first
    | refine wpList_build 13 rfl rfl 49 _ rfl #[(0, .int .u8 1), (1, .int .u8 0), (2, .int .u8 2)] (by simp only [List.map_toArray, List.map_cons, List.map_nil]; rfl) _ built49 ?_
    | refine wpList_build 14 rfl rfl 51 _ rfl #[(0, .int .i64 4), (1, .agg (pgA p0))] (by simp only [List.map_toArray, List.map_cons, List.map_nil]; rfl) _ built51 ?_
    | refine wpList_lit1 rfl (.tmp 14) 26 51 225 _ (imA ⟨4, p0⟩) rfl rfl Tryd.underlying26 im_info2 (by omega) (by omega) (imA_size _) ?_
    | refine wpList_store_new 29 (.tmp 1) (.tmp 17) rfl rfl rfl _ ((w.alloc (.cells (imA ⟨4, p0⟩) 51)).alloc (.cells #[.int .u64 8] 22)) (by simp) rfl #[.int .u64 (e0.lsn : Nat), .int .i64 e0.kind, .int .u64 (e0.txn : Nat), .int .u64 (e0.prev : Nat), .int .u64 (e0.next : Nat), .int .u64 (e0.rc.id : Nat), .int .u64 (e0.rc.key : Nat), .int .u32 (e0.rc.x : Nat), .int .u32 (e0.rc.y : Nat), .string (strOf e0.rc.val), .bool e0.rc.ghost, .slice (some ⟨w.heap.size, 0, none⟩) 1 1, .slice (some ⟨w.heap.size + 1, 0, none⟩) 1 1] #[.int .u64 0, .int .i64 0, .int .u64 0, .int .u64 0, .int .u64 0, .int .u64 0, .int .u64 0, .int .u32 0, .int .u32 0, .string ⟨#[]⟩, .bool false, .slice none 0 0, .slice none 0 0] 13 rfl str29 rfl rfl ONE.out rfl ?_
    | refine wpList_load_at 29 19 (.tmp 1) rfl rfl rfl (w.heap.size + 1 + 1) rfl #[.int .u64 (e0.lsn : Nat), .int .i64 e0.kind, .int .u64 (e0.txn : Nat), .int .u64 (e0.prev : Nat), .int .u64 (e0.next : Nat), .int .u64 (e0.rc.id : Nat), .int .u64 (e0.rc.key : Nat), .int .u32 (e0.rc.x : Nat), .int .u32 (e0.rc.y : Nat), .string (strOf e0.rc.val), .bool e0.rc.ghost, .slice (some ⟨w.heap.size, 0, none⟩) 1 1, .slice (some ⟨w.heap.size + 1, 0, none⟩) 1 1] 13 str29 rfl BX0.out.box ?_)
  generalize hW : (((w.alloc (.cells (imA ⟨4, p0⟩) 51)).alloc (.cells #[.int .u64 8] 22)).alloc (.cells #[.int .u64 (e0.lsn : Nat), .int .i64 e0.kind, .int .u64 (e0.txn : Nat), .int .u64 (e0.prev : Nat), .int .u64 (e0.next : Nat), .int .u64 (e0.rc.id : Nat), .int .u64 (e0.rc.key : Nat), .int .u32 (e0.rc.x : Nat), .int .u32 (e0.rc.y : Nat), .string (strOf e0.rc.val), .bool e0.rc.ghost, .slice (some ⟨w.heap.size, 0, none⟩) 1 1, .slice (some ⟨w.heap.size + 1, 0, none⟩) 1 1] 29)) = w1 at *
  clear hW
  refine (put_good e0 _ _ 1 1 1 1 w1 BX0.out.elUp e0_ok e0_chk).mono ?_
  rintro e w2 ⟨A2, n2, c2, rfl, ho2, hb2⟩
  obtain rfl : n2 = 93 := by rw [← own_n ho2]; exact l0_len
  have BX2 := Lib.hid (BX0.out.under hb2 BX0.out.low)
  have BW2 := Lib.hid (BW0.out.trans (hb2.mono BW0.out.size))
  obtain ⟨gb, rfl, hgb1, hgb2, hnc, _⟩ := own_some ho2 (by omega)
  have O2 := Lib.hid ho2
  have hlow := BX0.out.low
  clear ho2 hb2 BX0 BW0
  go_wp2_with fail
  refine (get_body 93 c2 _ l0 w2 89 (entL e0) (Lies.of_own O2.out) (by omega) hnc rfl l0_sum l0_take.symm).mono ?_
  intro e w3 h3
  rw [Gt, if_pos e0_isE, e0_reEnt] at h3
  obtain ⟨PA, np, pc, QA, na, qc, rfl, hel, hup, hb3⟩ := h3
  obtain rfl : np = 1 := by rw [← hel.lenP]; rfl
  obtain rfl : na = 1 := by rw [← hel.lenA]; rfl
  have BX3 := Lib.hid ((BX2.out.under hb3 BX2.out.low).alloc (.cells #[.int .u64 (e0.lsn : Nat), .int .i64 e0.kind, .int .u64 (e0.txn : Nat), .int .u64 (e0.prev : Nat), .int .u64 (e0.next : Nat), .int .u64 (e0.rc.id : Nat), .int .u64 (e0.rc.key : Nat), .int .u32 (e0.rc.x : Nat), .int .u32 (e0.rc.y : Nat), .string (strOf e0.rc.val), .bool e0.rc.ghost, .slice PA 1 pc, .slice QA 1 qc] 29))
  have BW3 := Lib.hid ((BW2.out.trans (hb3.mono BW2.out.size)).alloc (Nat.le_trans BW2.out.size hb3.size) (.cells #[.int .u64 (e0.lsn : Nat), .int .i64 e0.kind, .int .u64 (e0.txn : Nat), .int .u64 (e0.prev : Nat), .int .u64 (e0.next : Nat), .int .u64 (e0.rc.id : Nat), .int .u64 (e0.rc.key : Nat), .int .u32 (e0.rc.x : Nat), .int .u32 (e0.rc.y : Nat), .string (strOf e0.rc.val), .bool e0.rc.ghost, .slice PA 1 pc, .slice QA 1 qc] 29))
  have O3 := Lib.hid ((own_under O2.out hb3 (Nat.le_refl _)).alloc (.cells #[.int .u64 (e0.lsn : Nat), .int .i64 e0.kind, .int .u64 (e0.txn : Nat), .int .u64 (e0.prev : Nat), .int .u64 (e0.next : Nat), .int .u64 (e0.rc.id : Nat), .int .u64 (e0.rc.key : Nat), .int .u32 (e0.rc.x : Nat), .int .u32 (e0.rc.y : Nat), .string (strOf e0.rc.val), .bool e0.rc.ghost, .slice PA 1 pc, .slice QA 1 qc] 29))
  have F3 : Hid (Bx (w3.alloc (.cells #[.int .u64 (e0.lsn : Nat), .int .i64 e0.kind, .int .u64 (e0.txn : Nat), .int .u64 (e0.prev : Nat), .int .u64 (e0.next : Nat), .int .u64 (e0.rc.id : Nat), .int .u64 (e0.rc.key : Nat), .int .u32 (e0.rc.x : Nat), .int .u32 (e0.rc.y : Nat), .string (strOf e0.rc.val), .bool e0.rc.ghost, .slice PA 1 pc, .slice QA 1 qc] 29)) (w3.heap.size + 1) w3.heap.size e0 PA 1 pc QA 1 qc) :=
    Lib.hid ⟨At.new w3 29 _, by omega, (hel.under ((Below.refl _ _).alloc (Nat.le_refl _) _)).up (by omega), by simp⟩
  have UP := Lib.hid hup
  have ONF := Lib.hid (ent_one e0 PA 1 pc QA 1 qc)
  have s3 := hb3.size
  clear hel hup hb3 BX2 BW2 O2
  obtain ⟨_, hq, _, _, _, hfz, hcl⟩ := own_some O3.out (by omega)
  injection hq with hq
  injection hq with hq
  subst hq
  have cb : (w3.alloc (.cells #[.int .u64 (e0.lsn : Nat), .int .i64 e0.kind, .int .u64 (e0.txn : Nat), .int .u64 (e0.prev : Nat), .int .u64 (e0.next : Nat), .int .u64 (e0.rc.id : Nat), .int .u64 (e0.rc.key : Nat), .int .u32 (e0.rc.x : Nat), .int .u32 (e0.rc.y : Nat), .string (strOf e0.rc.val), .bool e0.rc.ghost, .slice PA 1 pc, .slice QA 1 qc] 29)).cell? ⟨gb, 5, none⟩ = some (.int .u8 0) := hcl 5 _ (by
    rw [show sealL (entL e0) = l0 from rfl]
    have := l0_five
    have h5 : 5 < l0.length := by rw [l0_len]; omega
    rw [List.getElem?_eq_getElem h5] at this
    injection this with this
    rw [BC_get l0 5 h5, this]
    rfl)
  have fb := hfz 5
  clear hcl hfz
  go_wp2_with (refine wpList_store_new 29 (.tmp 4) (.tmp 26) rfl rfl rfl w3.heap.size w3 rfl rfl #[.int .u64 (e0.lsn : Nat), .int .i64 e0.kind, .int .u64 (e0.txn : Nat), .int .u64 (e0.prev : Nat), .int .u64 (e0.next : Nat), .int .u64 (e0.rc.id : Nat), .int .u64 (e0.rc.key : Nat), .int .u32 (e0.rc.x : Nat), .int .u32 (e0.rc.y : Nat), .string (strOf e0.rc.val), .bool e0.rc.ghost, .slice PA 1 pc, .slice QA 1 qc] #[.int .u64 0, .int .i64 0, .int .u64 0, .int .u64 0, .int .u64 0, .int .u64 0, .int .u64 0, .int .u32 0, .int .u32 0, .string ⟨#[]⟩, .bool false, .slice none 0 0, .slice none 0 0] 13 rfl str29 rfl rfl ONF.out rfl ?_)
  rw [show Go.bits BinOp.xor IntKind.u8 0 1 = 1 by decide]
  have O4 : Hid (((w3.alloc (.cells #[.int .u64 (e0.lsn : Nat), .int .i64 e0.kind, .int .u64 (e0.txn : Nat), .int .u64 (e0.prev : Nat), .int .u64 (e0.next : Nat), .int .u64 (e0.rc.id : Nat), .int .u64 (e0.rc.key : Nat), .int .u32 (e0.rc.x : Nat), .int .u32 (e0.rc.y : Nat), .string (strOf e0.rc.val), .bool e0.rc.ghost, .slice PA 1 pc, .slice QA 1 qc] 29)).setCell ⟨gb, 5, none⟩ (.int .u8 1)).ownsRow w1.heap.size 5 1 (.slice (some ⟨gb, 0, none⟩) 93 c2) 93 (BC l1)) := by
    have := own_set (k := 5) O3.out 1
    rw [body0_eq] at this
    exact this
  have BX4 := Lib.hid (BX3.out.under ((Below.refl (w.heap.size + 3) _).setCell (p := ⟨gb, 5, none⟩) (by show w.heap.size + 3 ≤ gb; omega) (.int .u8 1)) (Nat.le_refl _))
  have BW4 := Lib.hid (BW3.out.setCell (p := ⟨gb, 5, none⟩) (by show w.heap.size ≤ gb; omega) (.int .u8 1))
  have F4 : Hid (Bx ((w3.alloc (.cells #[.int .u64 (e0.lsn : Nat), .int .i64 e0.kind, .int .u64 (e0.txn : Nat), .int .u64 (e0.prev : Nat), .int .u64 (e0.next : Nat), .int .u64 (e0.rc.id : Nat), .int .u64 (e0.rc.key : Nat), .int .u32 (e0.rc.x : Nat), .int .u32 (e0.rc.y : Nat), .string (strOf e0.rc.val), .bool e0.rc.ghost, .slice PA 1 pc, .slice QA 1 qc] 29)).setCell ⟨gb, 5, none⟩ (.int .u8 1)) (w3.heap.size + 1) w3.heap.size e0 PA 1 pc QA 1 qc) := by
    have hof : ∀ n' A', (∀ a, A' = some a → w2.heap.size ≤ a.block) → Off n' (.slice (some ⟨gb, 0, none⟩) 0 0) A' := fun n' A' hA _ q a hq ha => by
      injection hq with hq
      have := hA a ha
      have hq : gb = q := hq
      omega
    have hg := grown_set (w3.alloc (.cells #[.int .u64 (e0.lsn : Nat), .int .i64 e0.kind, .int .u64 (e0.txn : Nat), .int .u64 (e0.prev : Nat), .int .u64 (e0.next : Nat), .int .u64 (e0.rc.id : Nat), .int .u64 (e0.rc.key : Nat), .int .u32 (e0.rc.x : Nat), .int .u32 (e0.rc.y : Nat), .string (strOf e0.rc.val), .bool e0.rc.ghost, .slice PA 1 pc, .slice QA 1 qc] 29)) gb 5 (.int .u8 1)
    exact ⟨F3.out.box.other (by show w3.heap.size ≠ gb; omega) _, by omega, ⟨F3.out.el.pages.grown (v := .slice (some ⟨gb, 0, none⟩) 0 0) hg (by simp) (hof _ _ fun a ha => UP.out a (.inl ha)), F3.out.el.act.grown (v := .slice (some ⟨gb, 0, none⟩) 0 0) hg (hof _ _ fun a ha => UP.out a (.inr ha))⟩, by simp [World.setCell]⟩
  clear O3 BX3 BW3 F3 UP cb fb
  generalize hV : (w3.alloc (.cells #[.int .u64 (e0.lsn : Nat), .int .i64 e0.kind, .int .u64 (e0.txn : Nat), .int .u64 (e0.prev : Nat), .int .u64 (e0.next : Nat), .int .u64 (e0.rc.id : Nat), .int .u64 (e0.rc.key : Nat), .int .u32 (e0.rc.x : Nat), .int .u32 (e0.rc.y : Nat), .string (strOf e0.rc.val), .bool e0.rc.ghost, .slice PA 1 pc, .slice QA 1 qc] 29)).setCell ⟨gb, 5, none⟩ (.int .u8 1) = w4 at *
  clear hV
  refine (get_bad 93 c2 _ l1 w4 (Lies.of_own O4.out) (by omega) hnc (.inr l1_sum)).mono ?_
  rintro e w5 ⟨rfl, hb5⟩
  have BX5 := Lib.hid ((BX4.out.under hb5 BX4.out.low).alloc (.cells #[.int .u64 0, .int .i64 0, .int .u64 0, .int .u64 0, .int .u64 0, .int .u64 0, .int .u64 0, .int .u32 0, .int .u32 0, .string ⟨#[]⟩, .bool false, .slice none 0 0, .slice none 0 0] 29))
  have F5 := Lib.hid ((F4.out.under hb5 F4.out.low).alloc (.cells #[.int .u64 0, .int .i64 0, .int .u64 0, .int .u64 0, .int .u64 0, .int .u64 0, .int .u64 0, .int .u32 0, .int .u32 0, .string ⟨#[]⟩, .bool false, .slice none 0 0, .slice none 0 0] 29))
  have BW5 := Lib.hid ((BW4.out.trans (hb5.mono BW4.out.size)).alloc (Nat.le_trans BW4.out.size hb5.size) (.cells #[.int .u64 0, .int .i64 0, .int .u64 0, .int .u64 0, .int .u64 0, .int .u64 0, .int .u64 0, .int .u32 0, .int .u32 0, .string ⟨#[]⟩, .bool false, .slice none 0 0, .slice none 0 0] 29))
  have RC5 := Lib.hid (ent_rc BX5.out.box)
  clear hb5 BX4 F4 BW4 O4
  go_wp2_with (first
    | refine wpList_store_new 29 (.tmp 6) (.tmp 40) rfl rfl rfl w5.heap.size w5 rfl rfl #[.int .u64 0, .int .i64 0, .int .u64 0, .int .u64 0, .int .u64 0, .int .u64 0, .int .u64 0, .int .u32 0, .int .u32 0, .string ⟨#[]⟩, .bool false, .slice none 0 0, .slice none 0 0] #[.int .u64 0, .int .i64 0, .int .u64 0, .int .u64 0, .int .u64 0, .int .u64 0, .int .u64 0, .int .u32 0, .int .u32 0, .string ⟨#[]⟩, .bool false, .slice none 0 0, .slice none 0 0] 13 rfl str29 rfl rfl zz_one rfl ?_
    | refine wpList_load_rc 44 (.tmp 43) rfl rfl rfl (w.heap.size + 1 + 1) 5 rfl r0 RC5.out ?_)
  generalize hV : w5.alloc (.cells #[.int .u64 0, .int .i64 0, .int .u64 0, .int .u64 0, .int .u64 0, .int .u64 0, .int .u64 0, .int .u32 0, .int .u32 0, .string ⟨#[]⟩, .bool false, .slice none 0 0, .slice none 0 0] 29) = w6 at *
  clear hV RC5
  refine (rec_any r0 w6 r0_ok (by decide)).mono ?_
  intro e w7 h7
  obtain ⟨A7, n7, c7, rfl, ho7, hb7⟩ := h7.n
  obtain rfl : n7 = 41 := by rw [← own_n ho7]; exact r0_len
  have L7 := Lib.hid (Lies.of_own ho7)
  have BX7 := Lib.hid (BX5.out.under hb7 BX5.out.low)
  have F7 := Lib.hid (F5.out.under hb7 F5.out.low)
  have BW7 := Lib.hid (BW5.out.trans (hb7.mono BW5.out.size))
  clear h7 ho7 hb7 BX5 F5 BW5
  go_wp2_with fail
  refine (read_any w7.heap.size 41 c7 A7 (recL r0) w7 L7.out (Nat.le_refl _) (by omega)).mono ?_
  rintro e w8 ⟨g8, rfl, hg8, hrd8, hb8⟩
  have BX8 := Lib.hid (BX7.out.under hb8 BX7.out.low)
  have F8 := Lib.hid (F7.out.under hb8 F7.out.low)
  have BW8 := Lib.hid (BW7.out.trans (hb8.mono BW7.out.size))
  have RD8 := Lib.hid hrd8
  have l8 := BX7.out.low
  have l8f := F7.out.low
  have l8w := BW7.out.size
  clear hb8 BX7 F7 BW7 L7 hrd8
  go_wp2_with fail
  refine (readRec_any g8 (recL r0, false) w8 RD8.out (by show (recL r0).length ≤ 10000; rw [r0_len]; omega)).mono ?_
  intro e w9 h9
  rw [Rr, if_pos r0_read.1] at h9
  obtain ⟨rfl, _, hgr⟩ := h9
  rw [r0_read.2]
  have gB : ∀ B', B' ≤ g8 → B' ≤ w8.heap.size → Below B' w8 w9 := fun B' h1 h2 => (Below.refl B' w8).grown hgr h2 (fun k hk => by injection hk with hk; omega)
  have BX9 := Lib.hid ((BX8.out.under (gB _ (by omega) BX8.out.low) (Nat.le_refl _)).alloc (.cells #[.int .u64 (r0.id : Nat), .int .u64 (r0.key : Nat), .int .u32 (r0.x : Nat), .int .u32 (r0.y : Nat), .string (strOf r0.val), .bool r0.ghost] 25))
  have F9 := Lib.hid ((F8.out.under (gB _ (by omega) F8.out.low) (Nat.le_refl _)).alloc (.cells #[.int .u64 (r0.id : Nat), .int .u64 (r0.key : Nat), .int .u32 (r0.x : Nat), .int .u32 (r0.y : Nat), .string (strOf r0.val), .bool r0.ghost] 25))
  have BW9 := Lib.hid ((BW8.out.trans (gB _ (by omega) BW8.out.size)).alloc (Nat.le_trans BW8.out.size hgr.size) (.cells #[.int .u64 (r0.id : Nat), .int .u64 (r0.key : Nat), .int .u32 (r0.x : Nat), .int .u32 (r0.y : Nat), .string (strOf r0.val), .bool r0.ghost] 25))
  have R9 := Lib.hid (At.new w9 25 #[.int .u64 (r0.id : Nat), .int .u64 (r0.key : Nat), .int .u32 (r0.x : Nat), .int .u32 (r0.y : Nat), .string (strOf r0.val), .bool r0.ghost])
  clear hgr gB BX8 F8 BW8 RD8
  go_wp2_with (refine wpList_store_new 25 (.tmp 8) (.tmp 48) rfl rfl rfl w9.heap.size w9 rfl rfl #[.int .u64 (r0.id : Nat), .int .u64 (r0.key : Nat), .int .u32 (r0.x : Nat), .int .u32 (r0.y : Nat), .string (strOf r0.val), .bool r0.ghost] _ 6 rfl str25 rfl rfl (rc_one _) rfl ?_)
  generalize hV : w9.alloc (.cells #[.int .u64 (r0.id : Nat), .int .u64 (r0.key : Nat), .int .u32 (r0.x : Nat), .int .u32 (r0.y : Nat), .string (strOf r0.val), .bool r0.ghost] 25) = wa at *
  clear hV
  refine (put_bad zent none none 0 0 0 0 wa 1 ⟨LI.empty, Lies.empty⟩ (by omega) (by omega) (by decide) zent_chk rfl).mono ?_
  rintro e wb ⟨rfl, hb10⟩
  have BX10 := Lib.hid (BX9.out.under hb10 BX9.out.low)
  have F10 := Lib.hid (F9.out.under hb10 F9.out.low)
  have BW10 := Lib.hid (BW9.out.trans (hb10.mono BW9.out.size))
  have R10 := Lib.hid (R9.out.under hb10 R9.out.lt)
  clear hb10 BX9 F9 BW9 R9
  go_wp2_with (first
    | refine wpList_load_atG 29 67 (.tmp 1) rfl (by rfl) rfl (w.heap.size + 1 + 1) rfl #[.int .u64 (e0.lsn : Nat), .int .i64 e0.kind, .int .u64 (e0.txn : Nat), .int .u64 (e0.prev : Nat), .int .u64 (e0.next : Nat), .int .u64 (e0.rc.id : Nat), .int .u64 (e0.rc.key : Nat), .int .u32 (e0.rc.x : Nat), .int .u32 (e0.rc.y : Nat), .string (strOf e0.rc.val), .bool e0.rc.ghost, .slice (some ⟨w.heap.size, 0, none⟩) 1 1, .slice (some ⟨w.heap.size + 1, 0, none⟩) 1 1] 13 str29 rfl BX10.out.box ?_
    | refine wpList_load_atG 29 68 (.tmp 4) rfl (by rfl) rfl w3.heap.size rfl #[.int .u64 (e0.lsn : Nat), .int .i64 e0.kind, .int .u64 (e0.txn : Nat), .int .u64 (e0.prev : Nat), .int .u64 (e0.next : Nat), .int .u64 (e0.rc.id : Nat), .int .u64 (e0.rc.key : Nat), .int .u32 (e0.rc.x : Nat), .int .u32 (e0.rc.y : Nat), .string (strOf e0.rc.val), .bool e0.rc.ghost, .slice PA 1 pc, .slice QA 1 qc] 13 str29 rfl F10.out.box ?_)
  refine (refSame_any e0 e0 _ _ _ _ 1 1 1 1 1 pc 1 qc wb BX10.out.elUp F10.out.elUp (by omega) (by omega) (by omega) (by omega)).mono ?_
  rintro e wc ⟨rfl, hb11⟩
  rw [sameE_refl]
  have BX11 := Lib.hid (BX10.out.under hb11 BX10.out.low)
  have F11 := Lib.hid (F10.out.under hb11 F10.out.low)
  have BW11 := Lib.hid (BW10.out.trans (hb11.mono BW10.out.size))
  have R11 := Lib.hid (R10.out.under hb11 R10.out.lt)
  clear hb11 BX10 F10 BW10 R10
  have qr : ∀ W, (binOp .eql 25 (.agg #[.int .u64 (r0.id : Nat), .int .u64 (r0.key : Nat), .int .u32 (r0.x : Nat), .int .u32 (r0.y : Nat), .string (strOf r0.val), .bool r0.ghost]) (.agg #[.int .u64 (r0.id : Nat), .int .u64 (r0.key : Nat), .int .u32 (r0.x : Nat), .int .u32 (r0.y : Nat), .string (strOf r0.val), .bool r0.ghost])).run Tryd.prog W = .ok (.bool true) W := fun W => by rw [eql_rc, sameR_refl]
  have C11 := Lib.hid (ent_rc BX11.out.box)
  go_wp2_with (first
    | refine wpList_load_atG 25 79 (.tmp 8) rfl (by rfl) rfl w9.heap.size rfl #[.int .u64 (r0.id : Nat), .int .u64 (r0.key : Nat), .int .u32 (r0.x : Nat), .int .u32 (r0.y : Nat), .string (strOf r0.val), .bool r0.ghost] 6 str25 rfl R11.out ?_
    | refine wpList_load_rcG 81 (.tmp 80) rfl (by rfl) rfl (w.heap.size + 1 + 1) 5 rfl r0 C11.out ?_
    | refine wpList_load_atG 29 89 (.tmp 1) rfl (by rfl) rfl (w.heap.size + 1 + 1) rfl #[.int .u64 (e0.lsn : Nat), .int .i64 e0.kind, .int .u64 (e0.txn : Nat), .int .u64 (e0.prev : Nat), .int .u64 (e0.next : Nat), .int .u64 (e0.rc.id : Nat), .int .u64 (e0.rc.key : Nat), .int .u32 (e0.rc.x : Nat), .int .u32 (e0.rc.y : Nat), .string (strOf e0.rc.val), .bool e0.rc.ghost, .slice (some ⟨w.heap.size, 0, none⟩) 1 1, .slice (some ⟨w.heap.size + 1, 0, none⟩) 1 1] 13 str29 rfl BX11.out.box ?_
    | refine wpList_load_atG 29 90 (.tmp 4) rfl (by rfl) rfl w3.heap.size rfl #[.int .u64 (e0.lsn : Nat), .int .i64 e0.kind, .int .u64 (e0.txn : Nat), .int .u64 (e0.prev : Nat), .int .u64 (e0.next : Nat), .int .u64 (e0.rc.id : Nat), .int .u64 (e0.rc.key : Nat), .int .u32 (e0.rc.x : Nat), .int .u32 (e0.rc.y : Nat), .string (strOf e0.rc.val), .bool e0.rc.ghost, .slice PA 1 pc, .slice QA 1 qc] 13 str29 rfl F11.out.box ?_)
  refine (eSame_any e0 e0 _ _ _ _ 1 1 1 1 1 pc 1 qc wc BX11.out.elUp F11.out.elUp (by omega) (by omega) (by omega) (by omega)).mono ?_
  rintro e wd ⟨rfl, hb12⟩
  rw [sameE_refl]
  clear qr C11
  have BX12 := Lib.hid (BX11.out.under hb12 BX11.out.low)
  have F12 := Lib.hid (F11.out.under hb12 F11.out.low)
  have BW12 := Lib.hid (BW11.out.trans (hb12.mono BW11.out.size))
  have R12 := Lib.hid (R11.out.under hb12 R11.out.lt)
  clear hb12 BX11 F11 BW11 R11
  go_wp2_with (refine wpList_load_atG 29 94 (.tmp 1) rfl (by rfl) rfl (w.heap.size + 1 + 1) rfl #[.int .u64 (e0.lsn : Nat), .int .i64 e0.kind, .int .u64 (e0.txn : Nat), .int .u64 (e0.prev : Nat), .int .u64 (e0.next : Nat), .int .u64 (e0.rc.id : Nat), .int .u64 (e0.rc.key : Nat), .int .u32 (e0.rc.x : Nat), .int .u32 (e0.rc.y : Nat), .string (strOf e0.rc.val), .bool e0.rc.ghost, .slice (some ⟨w.heap.size, 0, none⟩) 1 1, .slice (some ⟨w.heap.size + 1, 0, none⟩) 1 1] 13 str29 rfl BX12.out.box ?_)
  refine (eSame_any e0 zent _ _ none none 1 1 1 1 0 0 0 0 wd BX12.out.elUp ⟨LI.empty, Lies.empty⟩ (by omega) (by omega) (by omega) (by omega)).mono ?_
  rintro e we ⟨rfl, hb13⟩
  rw [e0_sameZ]
  have BX13 := Lib.hid (BX12.out.under hb13 BX12.out.low)
  have F13 := Lib.hid (F12.out.under hb13 F12.out.low)
  have BW13 := Lib.hid (BW12.out.trans (hb13.mono BW12.out.size))
  have R13 := Lib.hid (R12.out.under hb13 R12.out.lt)
  clear hb13 BX12 F12 BW12 R12
  have C13 := Lib.hid (ent_rc BX13.out.box)
  go_wp2_with (refine wpList_load_rcG 101 (.tmp 100) rfl (by rfl) rfl (w.heap.size + 1 + 1) 5 rfl r0 C13.out ?_)
  clear C13
  refine (rec_any r0 we r0_ok (by decide)).mono ?_
  intro e wf h14
  obtain ⟨A14, n14, c14, rfl, ho14, hb14⟩ := h14.n
  obtain rfl : n14 = 41 := by rw [← own_n ho14]; exact r0_len
  clear h14 ho14
  have BX14 := Lib.hid (BX13.out.under hb14 BX13.out.low)
  have F14 := Lib.hid (F13.out.under hb14 F13.out.low)
  have BW14 := Lib.hid (BW13.out.trans (hb14.mono BW13.out.size))
  have R14 := Lib.hid (R13.out.under hb14 R13.out.lt)
  clear hb14 BX13 F13 BW13 R13
  go_wp2_with fail
  refine (bound_any 1 1 wf (by omega) (by omega)).mono ?_
  rintro e wg ⟨rfl, rfl⟩
  rw [show ((80 + 226 * 1 + 8 * 1 : Nat) : Int) = 314 from rfl]
  go_wp2_with (refine wpList_load_atG 29 111 (.tmp 1) rfl (by rfl) rfl (w.heap.size + 1 + 1) rfl #[.int .u64 (e0.lsn : Nat), .int .i64 e0.kind, .int .u64 (e0.txn : Nat), .int .u64 (e0.prev : Nat), .int .u64 (e0.next : Nat), .int .u64 (e0.rc.id : Nat), .int .u64 (e0.rc.key : Nat), .int .u32 (e0.rc.x : Nat), .int .u32 (e0.rc.y : Nat), .string (strOf e0.rc.val), .bool e0.rc.ghost, .slice (some ⟨w.heap.size, 0, none⟩) 1 1, .slice (some ⟨w.heap.size + 1, 0, none⟩) 1 1] 13 str29 rfl BX14.out.box ?_)
  refine (check_any e0 _ _ 1 1 1 1 wf BX14.out.elUp (by omega) (by omega) (by decide)).mono ?_
  rintro e wh ⟨rfl, hb15⟩
  rw [e0_chk]
  have BW15 := Lib.hid (BW14.out.trans (hb15.mono BW14.out.size))
  go_wp2_with fail
  go_ret
  exact ⟨rfl, BW15.out⟩
end Go.Proofs.YtihlmjknhgnjpaaDoor
