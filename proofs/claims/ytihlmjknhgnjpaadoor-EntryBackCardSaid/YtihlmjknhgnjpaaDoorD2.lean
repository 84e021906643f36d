/-
  Walks: entry.Put.
  Conditions: at most 1000 pages, numbers and bytes of the value.
-/
import Derived.Test.YtihlmjknhgnjpaaDoorD1
namespace Go.Proofs.YtihlmjknhgnjpaaDoor
open Go.RowKit
set_option maxRecDepth 8000

/-- A code comes back, and no bytes. -/
def NoP (w : World) (z : Int) (e : Ending) (w' : World) : Prop := e = .returned (.tuple #[.slice none 0 0, .int .i64 z]) ∧ Below w.heap.size w w'
/-- Bytes come back, in a row of their own. -/
def YesP (w : World) (l : List UInt8) (e : Ending) (w' : World) : Prop :=
  ∃ A n c, e = .returned (.tuple #[.slice A n c, .int .i64 0]) ∧ w'.ownsRow w.heap.size 5 1 (.slice A n c) n (BC l) ∧ Below w.heap.size w w'

set_option maxHeartbeats 800000 in
theorem put_bad (e : Ent) (PA QA : Option Addr) (np pc na qc : Nat) (w : World) (z : Int) (h : EL w w.heap.size e PA np QA na) (hnp : np ≤ 1000) (hna : na ≤ 1000) (hv : e.rc.val.length ≤ 1000) (hz : chk e = z) (hne : (z != 0) = true) :
    Calls Tryd.prog 8 #[.agg #[.int .u64 (e.lsn : Nat), .int .i64 e.kind, .int .u64 (e.txn : Nat), .int .u64 (e.prev : Nat), .int .u64 (e.next : Nat), .int .u64 (e.rc.id : Nat), .int .u64 (e.rc.key : Nat), .int .u32 (e.rc.x : Nat), .int .u32 (e.rc.y : Nat), .string (strOf e.rc.val), .bool e.rc.ghost, .slice PA np pc, .slice QA na qc]] w (NoP w z) := by
  have B1 := Lib.hid ((Below.refl w.heap.size w).alloc (Nat.le_refl _) (.cells #[.int .u64 (e.lsn : Nat), .int .i64 e.kind, .int .u64 (e.txn : Nat), .int .u64 (e.prev : Nat), .int .u64 (e.next : Nat), .int .u64 (e.rc.id : Nat), .int .u64 (e.rc.key : Nat), .int .u32 (e.rc.x : Nat), .int .u32 (e.rc.y : Nat), .string (strOf e.rc.val), .bool e.rc.ghost, .slice PA np pc, .slice QA na qc] 29))
  have CK := Lib.hid (check_any e PA QA np pc na qc (w.alloc (.cells #[.int .u64 (e.lsn : Nat), .int .i64 e.kind, .int .u64 (e.txn : Nat), .int .u64 (e.prev : Nat), .int .u64 (e.next : Nat), .int .u64 (e.rc.id : Nat), .int .u64 (e.rc.key : Nat), .int .u32 (e.rc.x : Nat), .int .u32 (e.rc.y : Nat), .string (strOf e.rc.val), .bool e.rc.ghost, .slice PA np pc, .slice QA na qc] 29)) ((h.under B1.out).up (by simp)) hnp hna hv)
  rw [hz] at CK
  clear h hz
  go_enter Tryd.func8, Tryd.ntmps8
  go_wp2_with (go_at_call 11; refine CK.out.mono ?_; rintro e1 w1 ⟨rfl, hb1⟩; have B2 := Lib.hid (B1.out.trans (hb1.mono (by simp))); clear hb1)
  go_ret2
  exact ⟨rfl, B2.out⟩

def rcL (r : Rc) : List Value := [.int .u64 (r.id : Nat), .int .u64 (r.key : Nat), .int .u32 (r.x : Nat), .int .u32 (r.y : Nat), .string (strOf r.val), .bool r.ghost]
theorem wpList_load_rc {ops : Array Oper} {rest : List Oper} {op : Oper} {a : Act} {w : World} {Q : Exit → Act → World → Prop} (d : Nat) (x : Operand) (hop : op.dst = some d) (hgd : op.guard = none) (ho : op.op = .load 25 x) (g o : Nat) (hx : a.eval x = .pointer (some ⟨g, o, none⟩)) (r : Rc)
    (hc : w.rangeAt g o (rcL r)) (h : wpList Tryd.prog ops Q rest (a.put (some d) (.agg #[.int .u64 (r.id : Nat), .int .u64 (r.key : Nat), .int .u32 (r.x : Nat), .int .u32 (r.y : Nat), .string (strOf r.val), .bool r.ghost])) w) : wpList Tryd.prog ops Q (op :: rest) a w := by
  obtain ⟨ds, h1, h2, h3⟩ := str25
  refine wpList_load_mid hgd 25 x ho g o hx (rcL r) ds hc h1 h2 h3 ?_
  rw [hop]
  exact h
theorem ent_rc {w : World} {g : Nat} {e : Ent} {PA QA : Option Addr} {np pc na qc : Nat} (h : At w g 29 #[.int .u64 (e.lsn : Nat), .int .i64 e.kind, .int .u64 (e.txn : Nat), .int .u64 (e.prev : Nat), .int .u64 (e.next : Nat), .int .u64 (e.rc.id : Nat), .int .u64 (e.rc.key : Nat), .int .u32 (e.rc.x : Nat), .int .u32 (e.rc.y : Nat), .string (strOf e.rc.val), .bool e.rc.ghost, .slice PA np pc, .slice QA na qc]) : w.rangeAt g 5 (rcL e.rc) := fun j v hv => by
  rw [h.cell]
  match j, hv with
  | 0, hv => exact hv
  | 1, hv => exact hv
  | 2, hv => exact hv
  | 3, hv => exact hv
  | 4, hv => exact hv
  | 5, hv => exact hv
/-- The first call of putNumbers in Put. -/
theorem put_head (e : Ent) (PA QA : Option Addr) (np pc na qc : Nat) (w w1 : World) (k2 : Nat) (hk2 : k2 = w1.heap.size + 1) (he : e.ok) (hlo : 1 ≤ e.kind) (hhi : e.kind ≤ 10) (hbox : At w1 w.heap.size 29 #[.int .u64 (e.lsn : Nat), .int .i64 e.kind, .int .u64 (e.txn : Nat), .int .u64 (e.prev : Nat), .int .u64 (e.next : Nat), .int .u64 (e.rc.id : Nat), .int .u64 (e.rc.key : Nat), .int .u32 (e.rc.x : Nat), .int .u32 (e.rc.y : Nat), .string (strOf e.rc.val), .bool e.rc.ghost, .slice PA np pc, .slice QA na qc]) (hb : Below w.heap.size w w1) :
    Calls Tryd.prog 21 #[.slice (some ⟨w1.heap.size, 0, none⟩) 1 1, .slice (some ⟨k2, 0, none⟩) 4 4] ((w1.alloc (.cells #[.int .u8 e.kind] 5)).alloc (.cells #[.int .u64 (e.lsn : Int), .int .u64 (e.txn : Int), .int .u64 (e.prev : Int), .int .u64 (e.next : Int)] 22)) fun r w' =>
      ∃ v, r = .returned v ∧ Grow w w.heap.size 29 #[.int .u64 (e.lsn : Nat), .int .i64 e.kind, .int .u64 (e.txn : Nat), .int .u64 (e.prev : Nat), .int .u64 (e.next : Nat), .int .u64 (e.rc.id : Nat), .int .u64 (e.rc.key : Nat), .int .u32 (e.rc.x : Nat), .int .u32 (e.rc.y : Nat), .string (strOf e.rc.val), .bool e.rc.ghost, .slice PA np pc, .slice QA na qc] (headL e) v w' := by
  subst hk2
  have hlt := hbox.lt
  have e1 : [Value.int .u8 e.kind] = BC [UInt8.ofNat e.kind.toNat] := by
    simp only [BC, List.map_cons, List.map_nil, toNat_ofNat (show e.kind.toNat < 256 by omega)]
    rw [show ((e.kind.toNat : Nat) : Int) = e.kind by omega]
  have ow : ((w1.alloc (.cells #[.int .u8 e.kind] 5)).alloc (.cells #[.int .u64 (e.lsn : Int), .int .u64 (e.txn : Int), .int .u64 (e.prev : Int), .int .u64 (e.next : Int)] 22)).ownsRow (w.heap.size + 1) 5 1 (.slice (some ⟨w1.heap.size, 0, none⟩) 1 1) 1 (BC [UInt8.ofNat e.kind.toNat]) :=
    (own_len (own_base (own_new1 w1 _ 5) (by omega)) e1).alloc _
  have ln := lies_k (w1.alloc (.cells #[.int .u8 e.kind] 5)) (UC [e.lsn, e.txn, e.prev, e.next]) 22 4 (w1.heap.size + 1) rfl (by simp)
  refine (putNumbers_any (w.heap.size + 1) _ 1 1 4 4 _ _ _ [e.lsn, e.txn, e.prev, e.next] _ ow ln (by intro _ k a hk ha; injection ha with ha; injection hk with hk; subst ha hk; simp) (by simp) (by simp; omega) (by omega) (by omega) (by simp [he.lsn, he.txn, he.prev, he.next])).mono ?_
  intro r w' hr
  obtain ⟨A, n, c, rfl, ho, hb', hs⟩ := id hr
  have hn := own_n ho
  have el : [UInt8.ofNat e.kind.toNat] ++ numsL [e.lsn, e.txn, e.prev, e.next] = headL e := by simp [numsL, headL]
  rw [el] at ho hn
  refine ⟨_, rfl, ?_⟩
  exact ⟨((hbox.alloc _).alloc _).under hb' (Nat.lt_succ_self _), by rw [hn]; exact ho, (((hb.alloc (by omega) _).alloc (by simp; omega) _)).trans (hb'.mono (by omega)), by simp at hs; omega⟩

theorem entL_eq (e : Ent) (np na : Nat) (hp : e.pages.length = np) (ha : e.act.length = na) : headL e ++ recL e.rc ++ [UInt8.ofNat np] ++ pagesL e.pages ++ [UInt8.ofNat na] ++ numsL e.act = entL e := by
  subst hp ha
  simp only [entL, List.append_assoc]

def PPR (w : World) (cs : Array Value) (PA : Option Addr) (np : Nat) (l : List UInt8) (ims : List Im) (b i : Value) (wr : World) : Prop :=
  ∃ k : Nat, k ≤ np ∧ i = .int .i64 k ∧ Hid (Grow w w.heap.size 29 cs (l ++ pagesL (ims.take k)) b wr) ∧ Hid (LI wr w.heap.size PA np ims)

theorem take_snocI (l : List Im) (k : Nat) (h : k < l.length) : l.take (k + 1) = l.take k ++ [l[k]] := by
  rw [List.take_succ_eq_append_getElem h]
theorem lies_b1 (w : World) (n : Nat) (t : TypeId) (hn : n < 256) : Lies (w.alloc (.cells #[.int .u8 (n : Int)] t)) (w.heap.size + 1) 1 (some ⟨w.heap.size, 0, none⟩) 1 (BC [UInt8.ofNat n]) :=
  lies_byte w _ _ t (by rw [toNat_ofNat hn])

set_option maxHeartbeats 3200000 in
theorem put_good (e : Ent) (PA QA : Option Addr) (np pc na qc : Nat) (w : World) (h : EL w w.heap.size e PA np QA na) (he : e.ok) (hz : chk e = 0) :
    Calls Tryd.prog 8 #[.agg #[.int .u64 (e.lsn : Nat), .int .i64 e.kind, .int .u64 (e.txn : Nat), .int .u64 (e.prev : Nat), .int .u64 (e.next : Nat), .int .u64 (e.rc.id : Nat), .int .u64 (e.rc.key : Nat), .int .u32 (e.rc.x : Nat), .int .u32 (e.rc.y : Nat), .string (strOf e.rc.val), .bool e.rc.ghost, .slice PA np pc, .slice QA na qc]] w (YesP w (sealL (entL e))) := by
  have G := chk_zero hz
  have g1 := G.lo
  have g2 := G.hi
  have g3 := G.val
  have g4 := G.pages
  have g5 := G.act
  have l1 := h.lenP
  have l2 := h.lenA
  have hen := entL_length e g3
  have hhl : (headL e).length = 33 := by simp [headL, putL_length]
  have hrl := recL_length e.rc g3
  have RA := Lib.hid (risB_all _ _ G.ris (by omega))
  rw [l1] at g4
  rw [l2] at g5
  have B0 := Lib.hid ((Below.refl w.heap.size w).alloc (Nat.le_refl _) (.cells #[.int .u64 (e.lsn : Nat), .int .i64 e.kind, .int .u64 (e.txn : Nat), .int .u64 (e.prev : Nat), .int .u64 (e.next : Nat), .int .u64 (e.rc.id : Nat), .int .u64 (e.rc.key : Nat), .int .u32 (e.rc.x : Nat), .int .u32 (e.rc.y : Nat), .string (strOf e.rc.val), .bool e.rc.ghost, .slice PA np pc, .slice QA na qc] 29))
  have CK := Lib.hid (check_any e PA QA np pc na qc (w.alloc (.cells #[.int .u64 (e.lsn : Nat), .int .i64 e.kind, .int .u64 (e.txn : Nat), .int .u64 (e.prev : Nat), .int .u64 (e.next : Nat), .int .u64 (e.rc.id : Nat), .int .u64 (e.rc.key : Nat), .int .u32 (e.rc.x : Nat), .int .u32 (e.rc.y : Nat), .string (strOf e.rc.val), .bool e.rc.ghost, .slice PA np pc, .slice QA na qc] 29)) ((h.under B0.out).up (by simp)) (by omega) (by omega) (by omega))
  have X0 := Lib.hid (At.new w 29 #[.int .u64 (e.lsn : Nat), .int .i64 e.kind, .int .u64 (e.txn : Nat), .int .u64 (e.prev : Nat), .int .u64 (e.next : Nat), .int .u64 (e.rc.id : Nat), .int .u64 (e.rc.key : Nat), .int .u32 (e.rc.x : Nat), .int .u32 (e.rc.y : Nat), .string (strOf e.rc.val), .bool e.rc.ghost, .slice PA np pc, .slice QA na qc])
  rw [hz] at CK
  have HE := Lib.hid h
  have L1 := Lib.hid l1
  have L2 := Lib.hid l2
  have HEN := Lib.hid hen
  have HHL := Lib.hid hhl
  have HRL := Lib.hid hrl
  clear hz h l1 l2 hen hhl hrl G
  have hwk : IntKind.u8.wrap e.kind = e.kind := by rw [IntKind.wrap_u8]; omega
  have hwp : IntKind.u8.wrap (np : Int) = np := by rw [IntKind.wrap_u8]; omega
  have hwa : IntKind.u8.wrap (na : Int) = na := by rw [IntKind.wrap_u8]; omega
  go_enter Tryd.func8, Tryd.ntmps8
  go_wp2_with fail
  refine CK.out.mono ?_
  rintro e1 w1 ⟨rfl, hb1⟩
  have X1 := Lib.hid (X0.out.under hb1 X0.out.lt)
  have B1 := Lib.hid (B0.out.trans (hb1.mono (by simp)))
  have E1 := Lib.hid (HE.out.under B1.out)
  clear hb1 X0 B0 CK
  have c1 : w1.cell? ⟨w.heap.size, 1, none⟩ = some (.int .i64 e.kind) := X1.out.cell 1
  have c0 : (w1.alloc (.cells #[.int .u8 e.kind] 5)).cell? ⟨w.heap.size, 0, none⟩ = some (.int .u64 (e.lsn : Int)) := (X1.out.alloc _).cell 0
  have c2 : (w1.alloc (.cells #[.int .u8 e.kind] 5)).cell? ⟨w.heap.size, 2, none⟩ = some (.int .u64 (e.txn : Int)) := (X1.out.alloc _).cell 2
  have c3 : (w1.alloc (.cells #[.int .u8 e.kind] 5)).cell? ⟨w.heap.size, 3, none⟩ = some (.int .u64 (e.prev : Int)) := (X1.out.alloc _).cell 3
  have c4 : (w1.alloc (.cells #[.int .u8 e.kind] 5)).cell? ⟨w.heap.size, 4, none⟩ = some (.int .u64 (e.next : Int)) := (X1.out.alloc _).cell 4
  go_wp2_with fail
  refine (put_head e PA QA np pc na qc w w1 _ (by first | rfl | simp) he g1 g2 X1.out B1.out).mono ?_
  rintro r w2 ⟨v2, rfl, G2⟩
  have E2 := Lib.hid (HE.out.under G2.below)
  replace G2 := Lib.hid G2
  have RC := Lib.hid (ent_rc G2.out.box)
  clear X1 B1 E1 c0 c1 c2 c3 c4
  go_wp2_with (refine wpList_load_rc 30 (.tmp 29) rfl rfl rfl w.heap.size 5 rfl e.rc RC.out ?_)
  refine (rec_any e.rc w2 he.rc g3).mono ?_
  rintro r w3 ⟨A3, n3, rfl, ho3, hb3⟩
  rw [HRL.out] at ho3 ⊢
  have G3 := Lib.hid (G2.out.call hb3)
  have I3 := Lib.hid (Lies.of_own ho3)
  clear ho3 hb3 G2 RC
  go_wp2_with (first
    | (at_builtin; refine wpList_grow rfl (.tmp 28) (.tmp 31) rfl rfl G3.out w3.heap.size _ _ _ _ rfl I3.out (by rw [HHL.out]; omega) (by omega) ?_
       intro v4 w4 g4'
       have G4 := Lib.hid g4'
       have cp : w4.cell? ⟨w.heap.size, 11, none⟩ = some (.slice PA np pc) := G4.out.box.cell 11
       clear g4')
    | (at_builtin; refine wpList_grow rfl (.tmp 33) (.tmp 38) rfl rfl (G4.out.alloc _) _ _ _ _ [UInt8.ofNat np] rfl (lies_b1 _ _ _ (by omega)) (by simp [HHL.out, HRL.out]) (by omega) ?_
       intro v5 w5 g5'
       have G5 := Lib.hid g5'
       have cq : w5.cell? ⟨w.heap.size, 11, none⟩ = some (.slice PA np pc) := G5.out.box.cell 11
       clear g5'))
  have E5 := Lib.hid (HE.out.under G5.out.below)
  have P0 := Lib.hid (show (headL e ++ recL e.rc ++ [UInt8.ofNat np]).length = 75 by simp [HHL.out, HRL.out])
  clear G3 I3 G4 cp E2
  go_loopw [5, 43] (fun b i wr => PPR w #[.int .u64 (e.lsn : Nat), .int .i64 e.kind, .int .u64 (e.txn : Nat), .int .u64 (e.prev : Nat), .int .u64 (e.next : Nat), .int .u64 (e.rc.id : Nat), .int .u64 (e.rc.key : Nat), .int .u32 (e.rc.x : Nat), .int .u32 (e.rc.y : Nat), .string (strOf e.rc.val), .bool e.rc.ghost, .slice PA np pc, .slice QA na qc] PA np (headL e ++ recL e.rc ++ [UInt8.ofNat np]) e.pages b i wr) (fun _ i _ => np - (intOf i).toNat)
  case atStart => exact ⟨0, Nat.zero_le _, rfl, Lib.hid (G5.out.eq (by simp [pagesL])), Lib.hid E5.out.pages⟩
  case round =>
    clear G5 E5 cq
    obtain ⟨k, hk, rfl, hg, hli⟩ := hrel
    have PL := pagesL_length (e.pages.take k)
    rw [List.length_take, Nat.min_eq_left (by rw [L1.out]; exact hk)] at PL
    have HPL := Lib.hid (show ((headL e ++ recL e.rc ++ [UInt8.ofNat np]) ++ pagesL (e.pages.take k)).length ≤ 75 + 226 * k by rw [List.length_append, P0.out]; omega)
    clear PL
    by_cases hlt : k < np
    · obtain ⟨b, o, hl, rfl, hbB, hra⟩ := hli.out.at hlt
      have hpg := RA.out e.pages[k] (List.getElem_mem hl)
      have TS := Lib.hid (take_snocI e.pages k hl)
      have RX := Lib.hid hra
      clear hra
      generalize e.pages[k] = im at *
      obtain ⟨A, n, c, hv, hn⟩ := hg.out.slice
      subst hv
      have HN := Lib.hid hn
      have hn1 : n ≤ 9000 := by have := HPL.out; omega
      clear hn
      have NX := Lib.hid (At.new wr 51 (imA im))
      go_wp2_with (first
        | refine wpList_load_im 46 (.tmp 45) rfl rfl rfl b (o + k * 225) rfl im RX.out ?_
        | refine wpList_store_new 51 (.tmp 7) (.tmp 46) rfl rfl rfl wr.heap.size wr rfl rfl (imA im) Tryd.zeroCells51 225 rfl str51 (imA_size _) Tryd.zeroCells51_size (imA_one _) rfl ?_
        | refine wpList_load_at 51 48 (.tmp 7) rfl rfl rfl wr.heap.size rfl (imA im) 225 str51 (imA_size _) NX.out ?_)
      refine (putPage_any (w.heap.size + 1) n c A _ im (wr.alloc (.cells (imA im) 51)) ((hg.out.alloc _).ownN HN.out) (hg.out.alloc _).size (by omega) hpg.1 hpg.2).mono ?_
      intro r w6 hr6
      obtain ⟨A6, n6, c6, rfl, _⟩ := id hr6
      have G6 := Lib.hid ((hg.out.alloc _).retO hr6)
      clear hr6
      go_wp2_with fail
      refine ⟨⟨k + 1, by omega, by go_num, Lib.hid (G6.out.eq ?_), Lib.hid (HE.out.pages.under G6.out.below)⟩, by simp [intOf]; omega⟩
      rw [TS.out, pagesL_snoc, List.append_assoc]
    · obtain rfl : k = np := by omega
      have hte : e.pages.take k = e.pages := List.take_of_length_le (by rw [L1.out]; exact Nat.le_refl _)
      rw [hte] at hg HPL
      have ca : wr.cell? ⟨w.heap.size, 12, none⟩ = some (.slice QA na qc) := hg.out.box.cell 12
      go_wp2_with (at_builtin; refine wpList_grow rfl (.tmp 51) (.tmp 56) rfl rfl (hg.out.alloc _) _ _ _ _ [UInt8.ofNat na] rfl (lies_b1 _ _ _ (by omega)) (by have := HPL.out; omega) (by omega) ?_
                   intro v7 w7 g7
                   obtain ⟨A7, n7, c7, hv7, hn7⟩ := g7.slice
                   subst hv7
                   have N7 := Lib.hid hn7
                   have hn71 : n7 ≤ 9000 := by have := HPL.out; rw [List.length_append] at hn7; simp only [List.length_singleton] at hn7; omega
                   clear hn7
                   have G7 := Lib.hid g7
                   have cb : w7.cell? ⟨w.heap.size, 12, none⟩ = some (.slice QA na qc) := G7.out.box.cell 12
                   clear g7)
      have O7 := G7.out.own.lt
      refine (putNumbers_any (w.heap.size + 1) w.heap.size n7 c7 na qc A7 QA _ e.act w7 (G7.out.ownN N7.out) (HE.out.act.under G7.out.below) ?_ (by have := G7.out.size; omega) G7.out.size (by omega) (by omega) he.act).mono ?_
      · intro h0 q a hq ha
        obtain ⟨a', ha', hlt', _⟩ := HE.out.act.spot h0
        rw [ha] at ha'
        injection ha' with ha'
        subst ha'
        have := (O7 q hq).1
        omega
      intro r w8 hr8
      obtain ⟨A8, n8, c8, rfl, _⟩ := id hr8
      have EE := entL_eq e k na L1.out L2.out
      have G8 := Lib.hid ((G7.out.retO hr8).eq EE)
      rw [EE] at hr8
      have N8 := Lib.hid (hr8.len)
      clear EE
      have hn8 : n8 ≤ 9000 := by have := HEN.out; rw [L1.out, L2.out, N8.out] at this; omega
      clear hr8 G7 O7 cb ca
      go_wp2_with fail
      refine (put_any w8.heap.size n8 c8 A8 (entL e) w8 (Lies.of_own (G8.out.ownN N8.out)) (Nat.le_refl _) (by omega)).mono ?_
      intro r w9 hr9
      obtain ⟨A9, n9, c9, rfl, ho9, hb9⟩ := hr9.n
      clear hr9
      have O9 := Lib.hid ho9
      clear ho9
      go_wp2_with fail
      go_ret2
      exact ⟨A9, _, c9, rfl, own_base O9.out G8.out.below.size, G8.out.below.trans (hb9.mono G8.out.below.size)⟩
end Go.Proofs.YtihlmjknhgnjpaaDoor
