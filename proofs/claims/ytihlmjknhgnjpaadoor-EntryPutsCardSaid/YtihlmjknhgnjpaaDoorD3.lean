/-
  Walks: the reference's length and Put.
  Conditions: at most 1000 pages, numbers and bytes of the value.
-/
import Derived.Test.YtihlmjknhgnjpaaDoorD2
import Derived.Test.YtihlmjknhgnjpaaDoorC3
namespace Go.Proofs.YtihlmjknhgnjpaaDoor
open Go.RowKit
set_option maxRecDepth 8000

def pgA (p : Pg) : Array Value := (BC p.toList).toArray
theorem pgA_size (p : Pg) : (pgA p).size = 224 := by rw [pgA, List.size_toArray, BC_length, Vector.length_toList]
theorem pgA_get (p : Pg) (j : Nat) (h : j < 224) : (pgA p)[j]? = some (.int .u8 ((p.toList.getD j 0).toNat : Int)) := by
  rw [pgA, List.getElem?_toArray, BC_get _ j (by simpa using h), List.getD_eq_getElem?_getD, List.getElem?_eq_getElem (by simpa using h)]
  rfl
theorem wpList_load_pg {ops : Array Oper} {rest : List Oper} {op : Oper} {a : Act} {w : World} {Q : Exit → Act → World → Prop} (d : Nat) (x : Operand) (hop : op.dst = some d) (hgd : op.guard = none) (ho : op.op = .load 49 x) (g o : Nat) (hx : a.eval x = .pointer (some ⟨g, o, none⟩)) (i : Im) (q : Nat) (hq : o = q + 1)
    (hc : w.rangeAt g q (imL i)) (h : wpList Tryd.prog ops Q rest (a.put (some d) (.agg (pgA i.p))) w) : wpList Tryd.prog ops Q (op :: rest) a w := by
  obtain ⟨ds, h1, h2, h3⟩ := str49
  subst hq
  refine wpList_load_mid hgd 49 x ho g (q + 1) hx (BC i.p.toList) ds (fun j v hv => ?_) h1 h2 (by rw [BC_length, Vector.length_toList]; exact h3) ?_
  · rw [Nat.add_assoc, Nat.add_comm 1 j]
    refine hc (j + 1) v ?_
    rw [imL, List.getElem?_cons_succ]
    exact hv
  · rw [hop]
    exact h

set_option maxHeartbeats 800000 in
theorem refLen_any (p : Pg) (w : World) : Calls Tryd.prog 25 #[.agg (pgA p)] w (RetC w (stN p : Int)) := by
  have AT := Lib.hid (At.new w 49 (pgA p))
  go_enter Tryd.func25, Tryd.ntmps25
  go_wp2_with fail
  go_loop [3, 4] (fun n i => ∃ k : Nat, k ≤ 224 ∧ i = .int .i64 k ∧ n = .int .i64 (sN p.toList k : Int)) (fun _ i => 224 - (intOf i).toNat)
  case atStart => exact ⟨0, Nat.zero_le _, rfl, rfl⟩
  case round =>
    obtain ⟨k, hk, rfl, rfl⟩ := hrel
    by_cases hlt : k < 224
    · have hc : (w.alloc (.cells (pgA p) 49)).cell? ⟨w.heap.size, k, none⟩ = _ := (AT.out.cell k).trans (pgA_get p k hlt)
      have hz := u8_zero (b := p.toList.getD k 0)
      have SN := Lib.hid (show sN p.toList (k + 1) = if p.toList.getD k 0 = 0 then sN p.toList k else k + 1 from rfl)
      generalize p.toList.getD k 0 = y at *
      by_cases h0 : y = 0
      · have hd : decide (y = 0) = true := by simpa using h0
        rw [hd] at hz
        have hz2 : ((y.toNat : Int) != 0) = false := by rw [bne, hz]; rfl
        have H0 := Lib.hid h0
        clear h0 hd
        go_wp2_with fail
        go_round
        case rel => exact ⟨k + 1, by omega, by go_num, by rw [SN.out, if_pos H0.out]⟩
        case measure => simp [intOf]; omega
      · have hd : decide (y = 0) = false := by simpa using h0
        rw [hd] at hz
        have hz2 : ((y.toNat : Int) != 0) = true := by rw [bne, hz]; rfl
        have H0 := Lib.hid h0
        clear h0 hd
        go_wp2_with fail
        go_round
        case rel => exact ⟨k + 1, by omega, by go_num, by rw [SN.out, if_neg H0.out]; go_num⟩
        case measure => simp [intOf]; omega
    · obtain rfl : k = 224 := by omega
      go_wp2_with fail
      go_ret
      exact ⟨rfl, (Below.refl _ _).alloc (Nat.le_refl _) _⟩

set_option maxHeartbeats 800000 in
theorem refPut_bad (e : Ent) (PA QA : Option Addr) (np pc na qc : Nat) (w : World) (z : Int) (h : EL w w.heap.size e PA np QA na) (hnp : np ≤ 1000) (hna : na ≤ 1000) (hv : e.rc.val.length ≤ 1000) (hz : chk e = z) (hne : (z != 0) = true) :
    Calls Tryd.prog 9 #[.agg #[.int .u64 (e.lsn : Nat), .int .i64 e.kind, .int .u64 (e.txn : Nat), .int .u64 (e.prev : Nat), .int .u64 (e.next : Nat), .int .u64 (e.rc.id : Nat), .int .u64 (e.rc.key : Nat), .int .u32 (e.rc.x : Nat), .int .u32 (e.rc.y : Nat), .string (strOf e.rc.val), .bool e.rc.ghost, .slice PA np pc, .slice QA na qc]] w (NoP w z) := by
  have B1 := Lib.hid ((Below.refl w.heap.size w).alloc (Nat.le_refl _) (.cells #[.int .u64 (e.lsn : Nat), .int .i64 e.kind, .int .u64 (e.txn : Nat), .int .u64 (e.prev : Nat), .int .u64 (e.next : Nat), .int .u64 (e.rc.id : Nat), .int .u64 (e.rc.key : Nat), .int .u32 (e.rc.x : Nat), .int .u32 (e.rc.y : Nat), .string (strOf e.rc.val), .bool e.rc.ghost, .slice PA np pc, .slice QA na qc] 29))
  have CK := Lib.hid (refCheck_any e PA QA np pc na qc (w.alloc (.cells #[.int .u64 (e.lsn : Nat), .int .i64 e.kind, .int .u64 (e.txn : Nat), .int .u64 (e.prev : Nat), .int .u64 (e.next : Nat), .int .u64 (e.rc.id : Nat), .int .u64 (e.rc.key : Nat), .int .u32 (e.rc.x : Nat), .int .u32 (e.rc.y : Nat), .string (strOf e.rc.val), .bool e.rc.ghost, .slice PA np pc, .slice QA na qc] 29)) ((h.under B1.out).up (by simp)) hnp hna hv)
  rw [hz] at CK
  clear h hz
  go_enter Tryd.func9, Tryd.ntmps9
  go_wp2_with (go_at_call 12; refine CK.out.mono ?_; rintro e1 w1 ⟨rfl, hb1⟩; have B2 := Lib.hid (B1.out.trans (hb1.mono (by simp))); clear hb1)
  go_ret2
  exact ⟨rfl, B2.out⟩

/-- The row begins with the kind. -/
theorem grow_kind (e : Ent) (PA QA : Option Addr) (np pc na qc : Nat) (w w1 : World) (hlo : 1 ≤ e.kind) (hhi : e.kind ≤ 10) (hbox : At w1 w.heap.size 29 #[.int .u64 (e.lsn : Nat), .int .i64 e.kind, .int .u64 (e.txn : Nat), .int .u64 (e.prev : Nat), .int .u64 (e.next : Nat), .int .u64 (e.rc.id : Nat), .int .u64 (e.rc.key : Nat), .int .u32 (e.rc.x : Nat), .int .u32 (e.rc.y : Nat), .string (strOf e.rc.val), .bool e.rc.ghost, .slice PA np pc, .slice QA na qc]) (hb : Below w.heap.size w w1) :
    Grow w w.heap.size 29 #[.int .u64 (e.lsn : Nat), .int .i64 e.kind, .int .u64 (e.txn : Nat), .int .u64 (e.prev : Nat), .int .u64 (e.next : Nat), .int .u64 (e.rc.id : Nat), .int .u64 (e.rc.key : Nat), .int .u32 (e.rc.x : Nat), .int .u32 (e.rc.y : Nat), .string (strOf e.rc.val), .bool e.rc.ghost, .slice PA np pc, .slice QA na qc] [UInt8.ofNat e.kind.toNat] (.slice (some ⟨w1.heap.size, 0, none⟩) 1 1) (w1.alloc (.cells #[.int .u8 e.kind] 5)) := by
  have hlt := hbox.lt
  have e1 : [Value.int .u8 e.kind] = BC [UInt8.ofNat e.kind.toNat] := by
    simp only [BC, List.map_cons, List.map_nil, toNat_ofNat (show e.kind.toNat < 256 by omega)]
    rw [show ((e.kind.toNat : Nat) : Int) = e.kind by omega]
  exact ⟨hbox.alloc _, own_len (own_base (own_new1 w1 _ 5) (by omega)) e1, hb.alloc (by omega) _, by simp; omega⟩

def RPR (w : World) (cs : Array Value) (np : Nat) (l : List UInt8) (ims : List Im) (b i : Value) (wr : World) : Prop :=
  ∃ k : Nat, k ≤ np ∧ i = .int .i64 k ∧ Hid (Grow w w.heap.size 29 cs (l ++ pagesL (ims.take k)) b wr)
def RBR (w : World) (cs : Array Value) (n : Nat) (l st : List UInt8) (b i : Value) (wr : World) : Prop :=
  ∃ j : Nat, j ≤ n ∧ i = .int .i64 j ∧ Hid (Grow w w.heap.size 29 cs (l ++ st.take j) b wr)
def RAR (w : World) (cs : Array Value) (na : Nat) (l : List UInt8) (ns : List Nat) (b i : Value) (wr : World) : Prop :=
  ∃ k : Nat, k ≤ na ∧ i = .int .i64 k ∧ Hid (Grow w w.heap.size 29 cs (l ++ numsL (ns.take k)) b wr)
theorem lies_b2 (w : World) (z : Int) (n : Nat) (t : TypeId) (h0 : 0 ≤ z) (h1 : z ≤ 255) (hn : n < 256) : Lies (w.alloc (.cells #[.int .u8 z, .int .u8 (n : Int)] t)) (w.heap.size + 1) 1 (some ⟨w.heap.size, 0, none⟩) 2 (BC ([UInt8.ofNat z.toNat] ++ [UInt8.ofNat n])) := by
  have e : BC ([UInt8.ofNat z.toNat] ++ [UInt8.ofNat n]) = [.int .u8 z, .int .u8 (n : Int)] := by
    simp only [BC, List.singleton_append, List.map_cons, List.map_nil, toNat_ofNat (show z.toNat < 256 by omega), toNat_ofNat hn]
    rw [show ((z.toNat : Nat) : Int) = z by omega]
  rw [e]
  exact lies_k w _ t 2 _ rfl rfl
theorem stored_take (p : Pg) (j : Nat) (h : j < stN p) : (stored p).take (j + 1) = (stored p).take j ++ [p.toList.getD j 0] := by
  have hl := stored_length p
  have hj : j < (stored p).length := by omega
  have h2 : j < p.toList.length := by have := stN_le p; rw [Vector.length_toList]; omega
  rw [List.take_succ_eq_append_getElem hj, List.getD_eq_getElem?_getD, List.getElem?_eq_getElem h2]
  congr 2
  simp [stored]

set_option maxHeartbeats 6400000 in
theorem refPut_good (e : Ent) (PA QA : Option Addr) (np pc na qc : Nat) (w : World) (h : EL w w.heap.size e PA np QA na) (he : e.ok) (hz : chk e = 0) :
    Calls Tryd.prog 9 #[.agg #[.int .u64 (e.lsn : Nat), .int .i64 e.kind, .int .u64 (e.txn : Nat), .int .u64 (e.prev : Nat), .int .u64 (e.next : Nat), .int .u64 (e.rc.id : Nat), .int .u64 (e.rc.key : Nat), .int .u32 (e.rc.x : Nat), .int .u32 (e.rc.y : Nat), .string (strOf e.rc.val), .bool e.rc.ghost, .slice PA np pc, .slice QA na qc]] w (YesP w (sealL (entL e))) := by
  have G := chk_zero hz
  have g1 := G.lo
  have g2 := G.hi
  have g3 := G.val
  have g4 := G.pages
  have g5 := G.act
  have l1 := h.lenP
  have l2 := h.lenA
  have hen := entL_length e g3
  have hhl : (headL e).length = 33 := by simp [headL, putL_length]
  have hrl := recL_length e.rc g3
  have RA := Lib.hid (risB_all _ _ G.ris (by omega))
  rw [l1] at g4
  rw [l2] at g5
  have B0 := Lib.hid ((Below.refl w.heap.size w).alloc (Nat.le_refl _) (.cells #[.int .u64 (e.lsn : Nat), .int .i64 e.kind, .int .u64 (e.txn : Nat), .int .u64 (e.prev : Nat), .int .u64 (e.next : Nat), .int .u64 (e.rc.id : Nat), .int .u64 (e.rc.key : Nat), .int .u32 (e.rc.x : Nat), .int .u32 (e.rc.y : Nat), .string (strOf e.rc.val), .bool e.rc.ghost, .slice PA np pc, .slice QA na qc] 29))
  have CK := Lib.hid (refCheck_any e PA QA np pc na qc (w.alloc (.cells #[.int .u64 (e.lsn : Nat), .int .i64 e.kind, .int .u64 (e.txn : Nat), .int .u64 (e.prev : Nat), .int .u64 (e.next : Nat), .int .u64 (e.rc.id : Nat), .int .u64 (e.rc.key : Nat), .int .u32 (e.rc.x : Nat), .int .u32 (e.rc.y : Nat), .string (strOf e.rc.val), .bool e.rc.ghost, .slice PA np pc, .slice QA na qc] 29)) ((h.under B0.out).up (by simp)) (by omega) (by omega) (by omega))
  have X0 := Lib.hid (At.new w 29 #[.int .u64 (e.lsn : Nat), .int .i64 e.kind, .int .u64 (e.txn : Nat), .int .u64 (e.prev : Nat), .int .u64 (e.next : Nat), .int .u64 (e.rc.id : Nat), .int .u64 (e.rc.key : Nat), .int .u32 (e.rc.x : Nat), .int .u32 (e.rc.y : Nat), .string (strOf e.rc.val), .bool e.rc.ghost, .slice PA np pc, .slice QA na qc])
  rw [hz] at CK
  have HE := Lib.hid h
  have L1 := Lib.hid l1
  have L2 := Lib.hid l2
  have HEN := Lib.hid hen
  have HHL := Lib.hid hhl
  have HRL := Lib.hid hrl
  have P8 := Lib.hid (show ∀ n : Nat, (putL n (8 : Int).toNat).length = 8 from fun n => putL_length 8 n)
  clear hz h l1 l2 hen hhl hrl G
  have hwk : IntKind.u8.wrap e.kind = e.kind := by rw [IntKind.wrap_u8]; omega
  have hwp : IntKind.u8.wrap (np : Int) = np := by rw [IntKind.wrap_u8]; omega
  have hwa : IntKind.u8.wrap (na : Int) = na := by rw [IntKind.wrap_u8]; omega
  go_enter Tryd.func9, Tryd.ntmps9
  go_wp2_with fail
  refine CK.out.mono ?_
  rintro e1 w1 ⟨rfl, hb1⟩
  have X1 := Lib.hid (X0.out.under hb1 X0.out.lt)
  have B1 := Lib.hid (B0.out.trans (hb1.mono (by simp)))
  clear hb1 X0 B0 CK
  have c1 : w1.cell? ⟨w.heap.size, 1, none⟩ = some (.int .i64 e.kind) := X1.out.cell 1
  have c0 : (w1.alloc (.cells #[.int .u8 e.kind] 5)).cell? ⟨w.heap.size, 0, none⟩ = some (.int .u64 (e.lsn : Int)) := (X1.out.alloc _).cell 0
  have G1 := Lib.hid (grow_kind e PA QA np pc na qc w w1 g1 g2 X1.out B1.out)
  clear X1 B1
  go_wp2_with fail
  refine (wrefPut_any 8 e.lsn 8 _ (by omega) (by omega) (by omega) he.lsn).mono ?_
  rintro r w2 ⟨A2, c2, rfl, ho2, hb2⟩
  rw [P8.out] at ho2 ⊢
  have G2 := Lib.hid (G1.out.call hb2)
  have I2 := Lib.hid (Lies.of_own ho2)
  clear ho2 hb2 G1
  go_wp2_with ((at_builtin; refine wpList_grow rfl (.tmp 19) (.tmp 22) rfl rfl G2.out w2.heap.size _ _ _ _ rfl I2.out (by simp only [List.length_singleton]; omega) (by omega) ?_; intro v3 w3 g3; have G3 := Lib.hid g3; clear g3; have cx : w3.cell? ⟨w.heap.size, 2, none⟩ = some (.int .u64 (e.txn : Int)) := G3.out.box.cell 2))
  refine (wrefPut_any 8 e.txn 8 w3 (by omega) (by omega) (by omega) he.txn).mono ?_
  rintro r w4 ⟨A4, c4, rfl, ho4, hb4⟩
  rw [P8.out] at ho4 ⊢
  have G4 := Lib.hid (G3.out.call hb4)
  have I4 := Lib.hid (Lies.of_own ho4)
  clear ho4 hb4 G3
  go_wp2_with ((at_builtin; refine wpList_grow rfl (.tmp 24) (.tmp 27) rfl rfl G4.out w4.heap.size _ _ _ _ rfl I4.out (by simp only [List.length_append, P8.out, List.length_singleton]; omega) (by omega) ?_; intro v5 w5 g5; have G5 := Lib.hid g5; clear g5; have cx : w5.cell? ⟨w.heap.size, 3, none⟩ = some (.int .u64 (e.prev : Int)) := G5.out.box.cell 3))
  refine (wrefPut_any 8 e.prev 8 w5 (by omega) (by omega) (by omega) he.prev).mono ?_
  rintro r w6 ⟨A6, c6, rfl, ho6, hb6⟩
  rw [P8.out] at ho6 ⊢
  have G6 := Lib.hid (G5.out.call hb6)
  have I6 := Lib.hid (Lies.of_own ho6)
  clear ho6 hb6 G5
  go_wp2_with ((at_builtin; refine wpList_grow rfl (.tmp 29) (.tmp 32) rfl rfl G6.out w6.heap.size _ _ _ _ rfl I6.out (by simp only [List.length_append, P8.out, List.length_singleton]; omega) (by omega) ?_; intro v7 w7 g7; have G7 := Lib.hid g7; clear g7; have cx : w7.cell? ⟨w.heap.size, 4, none⟩ = some (.int .u64 (e.next : Int)) := G7.out.box.cell 4))
  refine (wrefPut_any 8 e.next 8 w7 (by omega) (by omega) (by omega) he.next).mono ?_
  rintro r w8 ⟨A8, c8, rfl, ho8, hb8⟩
  rw [P8.out] at ho8 ⊢
  have G8 := Lib.hid (G7.out.call hb8)
  have I8 := Lib.hid (Lies.of_own ho8)
  clear ho8 hb8 G7
  go_wp2_with (first
    | (at_builtin; refine wpList_grow rfl (.tmp 34) (.tmp 37) rfl rfl G8.out w8.heap.size _ _ _ _ rfl I8.out (by simp only [List.length_append, P8.out, List.length_singleton]; omega) (by omega) ?_; intro v9 w9 g9; have G9 := Lib.hid g9; clear g9; have RCX := Lib.hid (ent_rc G9.out.box))
    | (refine wpList_load_rc 41 (.tmp 40) rfl rfl rfl w.heap.size 5 rfl e.rc RCX.out ?_))
  refine (refRec_any e.rc w9 he.rc g3).mono ?_
  rintro r w11 ⟨A11, c11, rfl, ho11, hb11⟩
  rw [HRL.out] at ho11 ⊢
  have HH2 : Hid ([UInt8.ofNat e.kind.toNat] ++ putL e.lsn (8 : Int).toNat ++ putL e.txn (8 : Int).toNat ++ putL e.prev (8 : Int).toNat ++ putL e.next (8 : Int).toNat = headL e) := by
    show _ = _
    simp only [headL, List.append_assoc, show (8 : Int).toNat = 8 from rfl]
  rw [HH2.out] at G9
  have G11 := Lib.hid (G9.out.call hb11)
  have I11 := Lib.hid (Lies.of_own ho11)
  clear ho11 hb11 G9 HH2
  go_wp2_with (first
    | (at_builtin; refine wpList_grow rfl (.tmp 39) (.tmp 42) rfl rfl G11.out w11.heap.size _ _ _ _ rfl I11.out (by rw [HHL.out]; omega) (by omega) ?_; intro v12 w12 g12; have G12 := Lib.hid g12; clear g12; have cp : w12.cell? ⟨w.heap.size, 11, none⟩ = some (.slice PA np pc) := G12.out.box.cell 11)
    | (at_builtin; refine wpList_grow rfl (.tmp 44) (.tmp 49) rfl rfl (G12.out.alloc _) _ _ _ _ [UInt8.ofNat np] rfl (lies_b1 _ _ _ (by omega)) (by simp only [List.length_append, HHL.out, HRL.out]; omega) (by omega) ?_; intro v13 w13 g13; have G13 := Lib.hid g13; clear g13))
  have P0 := Lib.hid (show (headL e ++ recL e.rc ++ [UInt8.ofNat np]).length = 75 by simp only [List.length_append, HHL.out, HRL.out, List.length_singleton])
  clear G11 I11 G12 cp
  go_loopw [5, 6] (fun b i wr => RPR w #[.int .u64 (e.lsn : Nat), .int .i64 e.kind, .int .u64 (e.txn : Nat), .int .u64 (e.prev : Nat), .int .u64 (e.next : Nat), .int .u64 (e.rc.id : Nat), .int .u64 (e.rc.key : Nat), .int .u32 (e.rc.x : Nat), .int .u32 (e.rc.y : Nat), .string (strOf e.rc.val), .bool e.rc.ghost, .slice PA np pc, .slice QA na qc] np (headL e ++ recL e.rc ++ [UInt8.ofNat np]) e.pages b i wr) (fun _ i _ => np - (intOf i).toNat)
  case atStart => exact ⟨0, Nat.zero_le _, rfl, Lib.hid (G13.out.eq (by rw [List.take_zero]; exact (List.append_nil _).symm))⟩
  case round =>
    clear G13
    obtain ⟨k, hk, rfl, hg⟩ := hrel
    have PL := pagesL_length (e.pages.take k)
    rw [List.length_take, Nat.min_eq_left (by rw [L1.out]; exact hk)] at PL
    have HPL := Lib.hid (show ((headL e ++ recL e.rc ++ [UInt8.ofNat np]) ++ pagesL (e.pages.take k)).length ≤ 75 + 226 * k by rw [List.length_append, P0.out]; omega)
    clear PL
    have cp : wr.cell? ⟨w.heap.size, 11, none⟩ = some (.slice PA np pc) := hg.out.box.cell 11
    by_cases hlt : k < np
    · obtain ⟨b, o, hl, hPA, hbB, hra⟩ := (HE.out.pages.under hg.out.below).at hlt
      subst hPA
      have hpg := RA.out e.pages[k] (List.getElem_mem hl)
      have TS := Lib.hid (take_snocI e.pages k hl)
      have R0 : Hid (∀ W, Below w.heap.size w W → W.rangeAt b (o + k * 225) (imL e.pages[k])) := by
        intro W hW
        obtain ⟨b', o', hl', hA', _, hr'⟩ := (HE.out.pages.under hW).at hlt
        have h1 : b = b' := by injection hA' with hA'; injection hA'
        have h2 : o = o' := by injection hA' with hA'; injection hA'
        subst h1 h2
        exact hr'
      clear hra
      generalize e.pages[k] = im at *
      have RX := Lib.hid (R0.out wr hg.out.below)
      have hst := stN_le im.p
      have hwg : IntKind.u8.wrap im.page = im.page := by rw [IntKind.wrap_u8]; omega
      have hws : IntKind.u8.wrap (stN im.p : Int) = (stN im.p : Int) := by rw [IntKind.wrap_u8]; omega
      have hdk : decide ((k : Int) < (np : Int)) = true := by simp; omega
      go_wp2_with (refine wpList_load_pg 63 (.tmp 62) rfl rfl rfl b (o + k * 225 + 1) rfl im (o + k * 225) rfl RX.out ?_)
      refine (refLen_any im.p wr).mono ?_
      rintro r w14 ⟨rfl, hb14⟩
      have G14 := Lib.hid (hg.out.call hb14)
      have cp4 : w14.cell? ⟨w.heap.size, 11, none⟩ = some (.slice (some ⟨b, o, none⟩) np pc) := G14.out.box.cell 11
      have ci : w14.cell? ⟨b, o + k * 225, none⟩ = some (.int .i64 im.page) := im_page (R0.out w14 G14.out.below)
      clear hb14 hg RX cp
      go_wp2_with (at_builtin; refine wpList_grow rfl (.tmp 65) (.tmp 75) rfl rfl (G14.out.alloc _) _ _ _ _ ([UInt8.ofNat im.page.toNat] ++ [UInt8.ofNat (stN im.p)]) rfl (lies_b2 _ _ _ _ hpg.1 hpg.2 (by omega)) (by have := HPL.out; omega) (by omega) ?_; intro v15 w15 g15; have G15 := Lib.hid g15; clear g15)
      obtain ⟨L5, HL5⟩ : ∃ L5, Hid ((headL e ++ recL e.rc ++ [UInt8.ofNat np]) ++ pagesL (e.pages.take k) ++ ([UInt8.ofNat im.page.toNat] ++ [UInt8.ofNat (stN im.p)]) = L5) := ⟨_, Lib.hid rfl⟩
      rw [HL5.out] at G15
      have hL5 : Hid (L5.length ≤ 8000) := by
        show _ ≤ _
        have := HPL.out
        rw [← HL5.out, List.length_append]
        simp only [List.length_append, List.length_singleton] at this ⊢
        omega
      clear G14 cp4 ci
      go_loopw [5, 8] (fun bv i wr => RBR w #[.int .u64 (e.lsn : Nat), .int .i64 e.kind, .int .u64 (e.txn : Nat), .int .u64 (e.prev : Nat), .int .u64 (e.next : Nat), .int .u64 (e.rc.id : Nat), .int .u64 (e.rc.key : Nat), .int .u32 (e.rc.x : Nat), .int .u32 (e.rc.y : Nat), .string (strOf e.rc.val), .bool e.rc.ghost, .slice (some ⟨b, o, none⟩) np pc, .slice QA na qc] (stN im.p) L5 (stored im.p) bv i wr) (fun _ i _ => stN im.p - (intOf i).toNat)
      case atStart => exact ⟨0, Nat.zero_le _, rfl, Lib.hid (G15.out.eq (by rw [List.take_zero]; exact (List.append_nil _).symm))⟩
      case round =>
        clear G15
        obtain ⟨j, hj, rfl, hg⟩ := hrel
        by_cases hjl : j < stN im.p
        · have cp5 : wr.cell? ⟨w.heap.size, 11, none⟩ = some (.slice (some ⟨b, o, none⟩) np pc) := hg.out.box.cell 11
          have cb : wr.cell? ⟨b, o + k * 225 + 1 + j, none⟩ = _ := im_byte (j := j) (R0.out wr hg.out.below) (by omega)
          have ST := Lib.hid (stored_take im.p j hjl)
          have hLn := Lib.hid (show (L5 ++ (stored im.p).take j).length ≤ 9000 by have := hL5.out; rw [List.length_append, List.length_take]; omega)
          generalize im.p.toList.getD j 0 = y at *
          go_wp2_with (at_builtin; refine wpList_grow rfl (.tmp 82) (.tmp 91) rfl rfl (hg.out.alloc _) _ _ _ _ [y] rfl (lies_byte _ _ _ _ rfl) (by have := hLn.out; omega) (by omega) ?_; intro v16 w16 g16)
          refine ⟨⟨j + 1, by omega, by go_num, Lib.hid (g16.eq ?_)⟩, by simp [intOf]; omega⟩
          rw [ST.out, List.append_assoc]
        · obtain rfl : j = stN im.p := by omega
          have ET := Lib.hid (show (stored im.p).take (stN im.p) = stored im.p from List.take_of_length_le (by rw [stored_length]; exact Nat.le_refl _))
          go_wp2_with fail
          refine ⟨⟨k + 1, by omega, by go_num, Lib.hid (hg.out.eq ?_)⟩, by simp [intOf]; omega⟩
          rw [ET.out, ← HL5.out, TS.out, pagesL_snoc]
          simp only [pageL, List.append_assoc]
    · obtain rfl : k = np := by omega
      have hte : e.pages.take k = e.pages := List.take_of_length_le (by rw [L1.out]; exact Nat.le_refl _)
      rw [hte] at hg HPL
      have ca : wr.cell? ⟨w.heap.size, 12, none⟩ = some (.slice QA na qc) := hg.out.box.cell 12
      go_wp2_with (at_builtin; refine wpList_grow rfl (.tmp 93) (.tmp 98) rfl rfl (hg.out.alloc _) _ _ _ _ [UInt8.ofNat na] rfl (lies_b1 _ _ _ (by omega)) (by have := HPL.out; omega) (by omega) ?_; intro v17 w17 g17; have G17 := Lib.hid g17; clear g17)
      obtain ⟨L7, HL7⟩ : ∃ L7, Hid ((headL e ++ recL e.rc ++ [UInt8.ofNat k]) ++ pagesL e.pages ++ [UInt8.ofNat na] = L7) := ⟨_, Lib.hid rfl⟩
      rw [HL7.out] at G17
      have hL7 : Hid (L7.length ≤ 6000) := by
        show _ ≤ _
        have := HPL.out
        rw [← HL7.out, List.length_append, List.length_singleton]
        omega
      clear hg ca
      go_loopw [5, 9] (fun b i wr => RAR w #[.int .u64 (e.lsn : Nat), .int .i64 e.kind, .int .u64 (e.txn : Nat), .int .u64 (e.prev : Nat), .int .u64 (e.next : Nat), .int .u64 (e.rc.id : Nat), .int .u64 (e.rc.key : Nat), .int .u32 (e.rc.x : Nat), .int .u32 (e.rc.y : Nat), .string (strOf e.rc.val), .bool e.rc.ghost, .slice PA k pc, .slice QA na qc] na L7 e.act b i wr) (fun _ i _ => na - (intOf i).toNat)
      case atStart => exact ⟨0, Nat.zero_le _, rfl, Lib.hid (G17.out.eq (by rw [List.take_zero]; exact (List.append_nil _).symm))⟩
      case round =>
        clear G17
        obtain ⟨j, hj, rfl, hg⟩ := hrel
        have ca : wr.cell? ⟨w.heap.size, 12, none⟩ = some (.slice QA na qc) := hg.out.box.cell 12
        by_cases hjl : j < na
        · obtain ⟨a, u, rfl, hb, hx, hc⟩ := (HE.out.act.under hg.out.below).get hjl
          have hjl2 : j < e.act.length := by rw [L2.out]; exact hjl
          rw [UC_get e.act j hjl2] at hx
          injection hx with hx
          subst hx
          have hx64 := he.act e.act[j] (List.getElem_mem hjl2)
          have TS := Lib.hid (take_snocN e.act j hjl2)
          have hLn := Lib.hid (show (L7 ++ numsL (e.act.take j)).length ≤ 9000 by have := hL7.out; rw [List.length_append, numsL_length, List.length_take]; omega)
          generalize e.act[j] = x at *
          go_wp2_with fail
          refine (wrefPut_any 8 x 8 wr (by omega) (by omega) (by omega) hx64).mono ?_
          rintro r w18 ⟨A18, c18, rfl, ho18, hb18⟩
          rw [P8.out] at ho18 ⊢
          have G18 := Lib.hid (hg.out.call hb18)
          have I18 := Lib.hid (Lies.of_own ho18)
          clear ho18 hb18 hg
          go_wp2_with (at_builtin; refine wpList_grow rfl (.tmp 107) (.tmp 113) rfl rfl G18.out w18.heap.size _ _ _ _ rfl I18.out (by have := hLn.out; omega) (by omega) ?_; intro v19 w19 g19)
          refine ⟨⟨j + 1, by omega, by go_num, Lib.hid (g19.eq ?_)⟩, by simp [intOf]; omega⟩
          rw [TS.out, numsL_snoc, List.append_assoc]
          rfl
        · obtain rfl : j = na := by omega
          have hta : e.act.take j = e.act := List.take_of_length_le (by rw [L2.out]; exact Nat.le_refl _)
          have EE := entL_eq e k j L1.out L2.out
          have G20 := Lib.hid (hg.out.eq (m := entL e) (by rw [hta, ← HL7.out]; exact EE))
          clear EE hg
          obtain ⟨A20, n20, c20, hv20, hn20⟩ := G20.out.slice
          subst hv20
          have N20 := Lib.hid hn20
          have hn8 : n20 ≤ 9000 := by have := HEN.out; rw [L1.out, L2.out, hn20] at this; omega
          clear hn20
          go_wp2_with fail
          refine (refPut_any wr.heap.size n20 c20 A20 (entL e) wr (Lies.of_own (G20.out.ownN N20.out)) (Nat.le_refl _) (by omega)).mono ?_
          intro r w21 hr21
          obtain ⟨A21, n21, c21, rfl, ho21, hb21⟩ := hr21.n
          have O21 := Lib.hid ho21
          clear ho21 hr21
          go_wp2_with fail
          go_ret2
          exact ⟨A21, n21, c21, rfl, own_base O21.out G20.out.below.size, G20.out.below.trans (hb21.mono G20.out.below.size)⟩
end Go.Proofs.YtihlmjknhgnjpaaDoor
