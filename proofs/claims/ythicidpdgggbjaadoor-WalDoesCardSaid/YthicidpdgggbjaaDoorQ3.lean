/- Texts behind one another: D2 T1 C3 D3 S0 T2 T3 T4 Lit T5. -/
import Derived.Test.YthicidpdgggbjaaDoorQ2
import Derived.Defers
import Derived.ChangeKeysEq
import Derived.Laws.StructEq
import Derived.Laws.IdiomCopy
import Derived.Laws.Tables
import Derived.Test.YthicidpdgggbjaaDoorQ1
import Derived.Deep.WholeRow
/-
  Walks: entry.Put.
  Conditions: at most 1000 pages, numbers and bytes of the value.
-/

namespace Go.Proofs.YthicidpdgggbjaaDoor
open Go.RowKit
set_option maxRecDepth 8000

/-- A code comes back, and no bytes. -/
def NoP (w : World) (z : Int) (e : Ending) (w' : World) : Prop := e = .returned (.tuple #[.slice none 0 0, .int .i64 z]) ∧ Below w.heap.size w w'
/-- Bytes come back, in a row of their own. -/
def YesP (w : World) (l : List UInt8) (e : Ending) (w' : World) : Prop :=
  ∃ A n c, e = .returned (.tuple #[.slice A n c, .int .i64 0]) ∧ w'.ownsRow w.heap.size 5 1 (.slice A n c) n (BC l) ∧ Below w.heap.size w w'

set_option maxHeartbeats 800000 in
theorem put_bad (e : Ent) (PA QA : Option Addr) (np pc na qc : Nat) (w : World) (z : Int) (h : EL w w.heap.size e PA np QA na) (hnp : np ≤ 1000) (hna : na ≤ 1000) (hv : e.rc.val.length ≤ 1000) (hz : chk e = z) (hne : (z != 0) = true) :
    Calls Tryd.prog 33 #[.agg #[.int .u64 (e.lsn : Nat), .int .i64 e.kind, .int .u64 (e.txn : Nat), .int .u64 (e.prev : Nat), .int .u64 (e.next : Nat), .int .u64 (e.rc.id : Nat), .int .u64 (e.rc.key : Nat), .int .u32 (e.rc.x : Nat), .int .u32 (e.rc.y : Nat), .string (strOf e.rc.val), .bool e.rc.ghost, .slice PA np pc, .slice QA na qc]] w (NoP w z) := by
  have B1 := Lib.hid ((Below.refl w.heap.size w).alloc (Nat.le_refl _) (.cells #[.int .u64 (e.lsn : Nat), .int .i64 e.kind, .int .u64 (e.txn : Nat), .int .u64 (e.prev : Nat), .int .u64 (e.next : Nat), .int .u64 (e.rc.id : Nat), .int .u64 (e.rc.key : Nat), .int .u32 (e.rc.x : Nat), .int .u32 (e.rc.y : Nat), .string (strOf e.rc.val), .bool e.rc.ghost, .slice PA np pc, .slice QA na qc] 42))
  have CK := Lib.hid (check_any e PA QA np pc na qc (w.alloc (.cells #[.int .u64 (e.lsn : Nat), .int .i64 e.kind, .int .u64 (e.txn : Nat), .int .u64 (e.prev : Nat), .int .u64 (e.next : Nat), .int .u64 (e.rc.id : Nat), .int .u64 (e.rc.key : Nat), .int .u32 (e.rc.x : Nat), .int .u32 (e.rc.y : Nat), .string (strOf e.rc.val), .bool e.rc.ghost, .slice PA np pc, .slice QA na qc] 42)) ((h.under B1.out).up (by simp)) hnp hna hv)
  rw [hz] at CK
  clear h hz
  go_enter Tryd.func33, Tryd.ntmps33
  go_wp2_with (go_at_call 54; refine CK.out.mono ?_; rintro e1 w1 ⟨rfl, hb1⟩; have B2 := Lib.hid (B1.out.trans (hb1.mono (by simp))); clear hb1)
  go_ret2
  exact ⟨rfl, B2.out⟩

def rcL (r : Rc) : List Value := [.int .u64 (r.id : Nat), .int .u64 (r.key : Nat), .int .u32 (r.x : Nat), .int .u32 (r.y : Nat), .string (strOf r.val), .bool r.ghost]
theorem wpList_load_rc {ops : Array Oper} {rest : List Oper} {op : Oper} {a : Act} {w : World} {Q : Exit → Act → World → Prop} (d : Nat) (x : Operand) (hop : op.dst = some d) (hgd : op.guard = none) (ho : op.op = .load 38 x) (g o : Nat) (hx : a.eval x = .pointer (some ⟨g, o, none⟩)) (r : Rc)
    (hc : w.rangeAt g o (rcL r)) (h : wpList Tryd.prog ops Q rest (a.put (some d) (.agg #[.int .u64 (r.id : Nat), .int .u64 (r.key : Nat), .int .u32 (r.x : Nat), .int .u32 (r.y : Nat), .string (strOf r.val), .bool r.ghost])) w) : wpList Tryd.prog ops Q (op :: rest) a w := by
  obtain ⟨ds, h1, h2, h3⟩ := str25
  refine wpList_load_mid hgd 38 x ho g o hx (rcL r) ds hc h1 h2 h3 ?_
  rw [hop]
  exact h
theorem ent_rc {w : World} {g : Nat} {e : Ent} {PA QA : Option Addr} {np pc na qc : Nat} (h : At w g 42 #[.int .u64 (e.lsn : Nat), .int .i64 e.kind, .int .u64 (e.txn : Nat), .int .u64 (e.prev : Nat), .int .u64 (e.next : Nat), .int .u64 (e.rc.id : Nat), .int .u64 (e.rc.key : Nat), .int .u32 (e.rc.x : Nat), .int .u32 (e.rc.y : Nat), .string (strOf e.rc.val), .bool e.rc.ghost, .slice PA np pc, .slice QA na qc]) : w.rangeAt g 5 (rcL e.rc) := fun j v hv => by
  rw [h.cell]
  match j, hv with
  | 0, hv => exact hv
  | 1, hv => exact hv
  | 2, hv => exact hv
  | 3, hv => exact hv
  | 4, hv => exact hv
  | 5, hv => exact hv
/-- The first call of putNumbers in Put. -/
theorem put_head (e : Ent) (PA QA : Option Addr) (np pc na qc : Nat) (w w1 : World) (k2 : Nat) (hk2 : k2 = w1.heap.size + 1) (he : e.ok) (hlo : 1 ≤ e.kind) (hhi : e.kind ≤ 10) (hbox : At w1 w.heap.size 42 #[.int .u64 (e.lsn : Nat), .int .i64 e.kind, .int .u64 (e.txn : Nat), .int .u64 (e.prev : Nat), .int .u64 (e.next : Nat), .int .u64 (e.rc.id : Nat), .int .u64 (e.rc.key : Nat), .int .u32 (e.rc.x : Nat), .int .u32 (e.rc.y : Nat), .string (strOf e.rc.val), .bool e.rc.ghost, .slice PA np pc, .slice QA na qc]) (hb : Below w.heap.size w w1) :
    Calls Tryd.prog 55 #[.slice (some ⟨w1.heap.size, 0, none⟩) 1 1, .slice (some ⟨k2, 0, none⟩) 4 4] ((w1.alloc (.cells #[.int .u8 e.kind] 5)).alloc (.cells #[.int .u64 (e.lsn : Int), .int .u64 (e.txn : Int), .int .u64 (e.prev : Int), .int .u64 (e.next : Int)] 35)) fun r w' =>
      ∃ v, r = .returned v ∧ Grow w w.heap.size 42 #[.int .u64 (e.lsn : Nat), .int .i64 e.kind, .int .u64 (e.txn : Nat), .int .u64 (e.prev : Nat), .int .u64 (e.next : Nat), .int .u64 (e.rc.id : Nat), .int .u64 (e.rc.key : Nat), .int .u32 (e.rc.x : Nat), .int .u32 (e.rc.y : Nat), .string (strOf e.rc.val), .bool e.rc.ghost, .slice PA np pc, .slice QA na qc] (headL e) v w' := by
  subst hk2
  have hlt := hbox.lt
  have e1 : [Value.int .u8 e.kind] = BC [UInt8.ofNat e.kind.toNat] := by
    simp only [BC, List.map_cons, List.map_nil, toNat_ofNat (show e.kind.toNat < 256 by omega)]
    rw [show ((e.kind.toNat : Nat) : Int) = e.kind by omega]
  have ow : ((w1.alloc (.cells #[.int .u8 e.kind] 5)).alloc (.cells #[.int .u64 (e.lsn : Int), .int .u64 (e.txn : Int), .int .u64 (e.prev : Int), .int .u64 (e.next : Int)] 35)).ownsRow (w.heap.size + 1) 5 1 (.slice (some ⟨w1.heap.size, 0, none⟩) 1 1) 1 (BC [UInt8.ofNat e.kind.toNat]) :=
    (own_len (own_base (own_new1 w1 _ 5) (by omega)) e1).alloc _
  have ln := lies_k (w1.alloc (.cells #[.int .u8 e.kind] 5)) (UC [e.lsn, e.txn, e.prev, e.next]) 35 4 (w1.heap.size + 1) rfl (by simp)
  refine (putNumbers_any (w.heap.size + 1) _ 1 1 4 4 _ _ _ [e.lsn, e.txn, e.prev, e.next] _ ow ln (by intro _ k a hk ha; injection ha with ha; injection hk with hk; subst ha hk; simp) (by simp) (by simp; omega) (by omega) (by omega) (by simp [he.lsn, he.txn, he.prev, he.next])).mono ?_
  intro r w' hr
  obtain ⟨A, n, c, rfl, ho, hb', hs⟩ := id hr
  have hn := own_n ho
  have el : [UInt8.ofNat e.kind.toNat] ++ numsL [e.lsn, e.txn, e.prev, e.next] = headL e := by simp [numsL, headL]
  rw [el] at ho hn
  refine ⟨_, rfl, ?_⟩
  exact ⟨((hbox.alloc _).alloc _).under hb' (Nat.lt_succ_self _), by rw [hn]; exact ho, (((hb.alloc (by omega) _).alloc (by simp; omega) _)).trans (hb'.mono (by omega)), by simp at hs; omega⟩

theorem entL_eq (e : Ent) (np na : Nat) (hp : e.pages.length = np) (ha : e.act.length = na) : headL e ++ recL e.rc ++ [UInt8.ofNat np] ++ pagesL e.pages ++ [UInt8.ofNat na] ++ numsL e.act = entL e := by
  subst hp ha
  simp only [entL, List.append_assoc]

def PPR (w : World) (cs : Array Value) (PA : Option Addr) (np : Nat) (l : List UInt8) (ims : List Im) (b i : Value) (wr : World) : Prop :=
  ∃ k : Nat, k ≤ np ∧ i = .int .i64 k ∧ Hid (Grow w w.heap.size 42 cs (l ++ pagesL (ims.take k)) b wr) ∧ Hid (LI wr w.heap.size PA np ims)

theorem take_snocI (l : List Im) (k : Nat) (h : k < l.length) : l.take (k + 1) = l.take k ++ [l[k]] := by
  rw [List.take_succ_eq_append_getElem h]
theorem lies_b1 (w : World) (n : Nat) (t : TypeId) (hn : n < 256) : Lies (w.alloc (.cells #[.int .u8 (n : Int)] t)) (w.heap.size + 1) 1 (some ⟨w.heap.size, 0, none⟩) 1 (BC [UInt8.ofNat n]) :=
  lies_byte w _ _ t (by rw [toNat_ofNat hn])

set_option maxHeartbeats 3200000 in
theorem put_good (e : Ent) (PA QA : Option Addr) (np pc na qc : Nat) (w : World) (h : EL w w.heap.size e PA np QA na) (he : e.ok) (hz : chk e = 0) :
    Calls Tryd.prog 33 #[.agg #[.int .u64 (e.lsn : Nat), .int .i64 e.kind, .int .u64 (e.txn : Nat), .int .u64 (e.prev : Nat), .int .u64 (e.next : Nat), .int .u64 (e.rc.id : Nat), .int .u64 (e.rc.key : Nat), .int .u32 (e.rc.x : Nat), .int .u32 (e.rc.y : Nat), .string (strOf e.rc.val), .bool e.rc.ghost, .slice PA np pc, .slice QA na qc]] w (YesP w (sealL (entL e))) := by
  have G := chk_zero hz
  have g1 := G.lo
  have g2 := G.hi
  have g3 := G.val
  have g4 := G.pages
  have g5 := G.act
  have l1 := h.lenP
  have l2 := h.lenA
  have hen := entL_length e g3
  have hhl : (headL e).length = 33 := by simp [headL, putL_length]
  have hrl := recL_length e.rc g3
  have RA := Lib.hid (risB_all _ _ G.ris (by omega))
  rw [l1] at g4
  rw [l2] at g5
  have B0 := Lib.hid ((Below.refl w.heap.size w).alloc (Nat.le_refl _) (.cells #[.int .u64 (e.lsn : Nat), .int .i64 e.kind, .int .u64 (e.txn : Nat), .int .u64 (e.prev : Nat), .int .u64 (e.next : Nat), .int .u64 (e.rc.id : Nat), .int .u64 (e.rc.key : Nat), .int .u32 (e.rc.x : Nat), .int .u32 (e.rc.y : Nat), .string (strOf e.rc.val), .bool e.rc.ghost, .slice PA np pc, .slice QA na qc] 42))
  have CK := Lib.hid (check_any e PA QA np pc na qc (w.alloc (.cells #[.int .u64 (e.lsn : Nat), .int .i64 e.kind, .int .u64 (e.txn : Nat), .int .u64 (e.prev : Nat), .int .u64 (e.next : Nat), .int .u64 (e.rc.id : Nat), .int .u64 (e.rc.key : Nat), .int .u32 (e.rc.x : Nat), .int .u32 (e.rc.y : Nat), .string (strOf e.rc.val), .bool e.rc.ghost, .slice PA np pc, .slice QA na qc] 42)) ((h.under B0.out).up (by simp)) (by omega) (by omega) (by omega))
  have X0 := Lib.hid (At.new w 42 #[.int .u64 (e.lsn : Nat), .int .i64 e.kind, .int .u64 (e.txn : Nat), .int .u64 (e.prev : Nat), .int .u64 (e.next : Nat), .int .u64 (e.rc.id : Nat), .int .u64 (e.rc.key : Nat), .int .u32 (e.rc.x : Nat), .int .u32 (e.rc.y : Nat), .string (strOf e.rc.val), .bool e.rc.ghost, .slice PA np pc, .slice QA na qc])
  rw [hz] at CK
  have HE := Lib.hid h
  have L1 := Lib.hid l1
  have L2 := Lib.hid l2
  have HEN := Lib.hid hen
  have HHL := Lib.hid hhl
  have HRL := Lib.hid hrl
  clear hz h l1 l2 hen hhl hrl G
  have hwk : IntKind.u8.wrap e.kind = e.kind := by rw [IntKind.wrap_u8]; omega
  have hwp : IntKind.u8.wrap (np : Int) = np := by rw [IntKind.wrap_u8]; omega
  have hwa : IntKind.u8.wrap (na : Int) = na := by rw [IntKind.wrap_u8]; omega
  go_enter Tryd.func33, Tryd.ntmps33
  go_wp2_with fail
  refine CK.out.mono ?_
  rintro e1 w1 ⟨rfl, hb1⟩
  have X1 := Lib.hid (X0.out.under hb1 X0.out.lt)
  have B1 := Lib.hid (B0.out.trans (hb1.mono (by simp)))
  have E1 := Lib.hid (HE.out.under B1.out)
  clear hb1 X0 B0 CK
  have c1 : w1.cell? ⟨w.heap.size, 1, none⟩ = some (.int .i64 e.kind) := X1.out.cell 1
  have c0 : (w1.alloc (.cells #[.int .u8 e.kind] 5)).cell? ⟨w.heap.size, 0, none⟩ = some (.int .u64 (e.lsn : Int)) := (X1.out.alloc _).cell 0
  have c2 : (w1.alloc (.cells #[.int .u8 e.kind] 5)).cell? ⟨w.heap.size, 2, none⟩ = some (.int .u64 (e.txn : Int)) := (X1.out.alloc _).cell 2
  have c3 : (w1.alloc (.cells #[.int .u8 e.kind] 5)).cell? ⟨w.heap.size, 3, none⟩ = some (.int .u64 (e.prev : Int)) := (X1.out.alloc _).cell 3
  have c4 : (w1.alloc (.cells #[.int .u8 e.kind] 5)).cell? ⟨w.heap.size, 4, none⟩ = some (.int .u64 (e.next : Int)) := (X1.out.alloc _).cell 4
  go_wp2_with fail
  refine (put_head e PA QA np pc na qc w w1 _ (by first | rfl | simp) he g1 g2 X1.out B1.out).mono ?_
  rintro r w2 ⟨v2, rfl, G2⟩
  have E2 := Lib.hid (HE.out.under G2.below)
  replace G2 := Lib.hid G2
  have RC := Lib.hid (ent_rc G2.out.box)
  clear X1 B1 E1 c0 c1 c2 c3 c4
  go_wp2_with (refine wpList_load_rc 30 (.tmp 29) rfl rfl rfl w.heap.size 5 rfl e.rc RC.out ?_)
  refine (rec_any e.rc w2 he.rc g3).mono ?_
  rintro r w3 ⟨A3, n3, rfl, ho3, hb3⟩
  rw [HRL.out] at ho3 ⊢
  have G3 := Lib.hid (G2.out.call hb3)
  have I3 := Lib.hid (Lies.of_own ho3)
  clear ho3 hb3 G2 RC
  go_wp2_with (first
    | (at_builtin; refine wpList_grow rfl (.tmp 28) (.tmp 31) rfl rfl G3.out w3.heap.size _ _ _ _ rfl I3.out (by rw [HHL.out]; omega) (by omega) ?_
       intro v4 w4 g4'
       have G4 := Lib.hid g4'
       have cp : w4.cell? ⟨w.heap.size, 11, none⟩ = some (.slice PA np pc) := G4.out.box.cell 11
       clear g4')
    | (at_builtin; refine wpList_grow rfl (.tmp 33) (.tmp 38) rfl rfl (G4.out.alloc _) _ _ _ _ [UInt8.ofNat np] rfl (lies_b1 _ _ _ (by omega)) (by simp [HHL.out, HRL.out]) (by omega) ?_
       intro v5 w5 g5'
       have G5 := Lib.hid g5'
       have cq : w5.cell? ⟨w.heap.size, 11, none⟩ = some (.slice PA np pc) := G5.out.box.cell 11
       clear g5'))
  have E5 := Lib.hid (HE.out.under G5.out.below)
  have P0 := Lib.hid (show (headL e ++ recL e.rc ++ [UInt8.ofNat np]).length = 75 by simp [HHL.out, HRL.out])
  clear G3 I3 G4 cp E2
  go_loopw [5, 43] (fun b i wr => PPR w #[.int .u64 (e.lsn : Nat), .int .i64 e.kind, .int .u64 (e.txn : Nat), .int .u64 (e.prev : Nat), .int .u64 (e.next : Nat), .int .u64 (e.rc.id : Nat), .int .u64 (e.rc.key : Nat), .int .u32 (e.rc.x : Nat), .int .u32 (e.rc.y : Nat), .string (strOf e.rc.val), .bool e.rc.ghost, .slice PA np pc, .slice QA na qc] PA np (headL e ++ recL e.rc ++ [UInt8.ofNat np]) e.pages b i wr) (fun _ i _ => np - (intOf i).toNat)
  case atStart => exact ⟨0, Nat.zero_le _, rfl, Lib.hid (G5.out.eq (by simp [pagesL])), Lib.hid E5.out.pages⟩
  case round =>
    clear G5 E5 cq
    obtain ⟨k, hk, rfl, hg, hli⟩ := hrel
    have PL := pagesL_length (e.pages.take k)
    rw [List.length_take, Nat.min_eq_left (by rw [L1.out]; exact hk)] at PL
    have HPL := Lib.hid (show ((headL e ++ recL e.rc ++ [UInt8.ofNat np]) ++ pagesL (e.pages.take k)).length ≤ 75 + 226 * k by rw [List.length_append, P0.out]; omega)
    clear PL
    by_cases hlt : k < np
    · obtain ⟨b, o, hl, rfl, hbB, hra⟩ := hli.out.at hlt
      have hpg := RA.out e.pages[k] (List.getElem_mem hl)
      have TS := Lib.hid (take_snocI e.pages k hl)
      have RX := Lib.hid hra
      clear hra
      generalize e.pages[k] = im at *
      obtain ⟨A, n, c, hv, hn⟩ := hg.out.slice
      subst hv
      have HN := Lib.hid hn
      have hn1 : n ≤ 9000 := by have := HPL.out; omega
      clear hn
      have NX := Lib.hid (At.new wr 98 (imA im))
      go_wp2_with (first
        | refine wpList_load_im 46 (.tmp 45) rfl rfl rfl b (o + k * 225) rfl im RX.out ?_
        | refine wpList_store_new 98 (.tmp 7) (.tmp 46) rfl rfl rfl wr.heap.size wr rfl rfl (imA im) Tryd.zeroCells98 225 rfl str51 (imA_size _) Tryd.zeroCells98_size (imA_one _) rfl ?_
        | refine wpList_load_at 98 48 (.tmp 7) rfl rfl rfl wr.heap.size rfl (imA im) 225 str51 (imA_size _) NX.out ?_)
      refine (putPage_any (w.heap.size + 1) n c A _ im (wr.alloc (.cells (imA im) 98)) ((hg.out.alloc _).ownN HN.out) (hg.out.alloc _).size (by omega) hpg.1 hpg.2).mono ?_
      intro r w6 hr6
      obtain ⟨A6, n6, c6, rfl, _⟩ := id hr6
      have G6 := Lib.hid ((hg.out.alloc _).retO hr6)
      clear hr6
      go_wp2_with fail
      refine ⟨⟨k + 1, by omega, by go_num, Lib.hid (G6.out.eq ?_), Lib.hid (HE.out.pages.under G6.out.below)⟩, by simp [intOf]; omega⟩
      rw [TS.out, pagesL_snoc, List.append_assoc]
    · obtain rfl : k = np := by omega
      have hte : e.pages.take k = e.pages := List.take_of_length_le (by rw [L1.out]; exact Nat.le_refl _)
      rw [hte] at hg HPL
      have ca : wr.cell? ⟨w.heap.size, 12, none⟩ = some (.slice QA na qc) := hg.out.box.cell 12
      go_wp2_with (at_builtin; refine wpList_grow rfl (.tmp 51) (.tmp 56) rfl rfl (hg.out.alloc _) _ _ _ _ [UInt8.ofNat na] rfl (lies_b1 _ _ _ (by omega)) (by have := HPL.out; omega) (by omega) ?_
                   intro v7 w7 g7
                   obtain ⟨A7, n7, c7, hv7, hn7⟩ := g7.slice
                   subst hv7
                   have N7 := Lib.hid hn7
                   have hn71 : n7 ≤ 9000 := by have := HPL.out; rw [List.length_append] at hn7; simp only [List.length_singleton] at hn7; omega
                   clear hn7
                   have G7 := Lib.hid g7
                   have cb : w7.cell? ⟨w.heap.size, 12, none⟩ = some (.slice QA na qc) := G7.out.box.cell 12
                   clear g7)
      have O7 := G7.out.own.lt
      refine (putNumbers_any (w.heap.size + 1) w.heap.size n7 c7 na qc A7 QA _ e.act w7 (G7.out.ownN N7.out) (HE.out.act.under G7.out.below) ?_ (by have := G7.out.size; omega) G7.out.size (by omega) (by omega) he.act).mono ?_
      · intro h0 q a hq ha
        obtain ⟨a', ha', hlt', _⟩ := HE.out.act.spot h0
        rw [ha] at ha'
        injection ha' with ha'
        subst ha'
        have := (O7 q hq).1
        omega
      intro r w8 hr8
      obtain ⟨A8, n8, c8, rfl, _⟩ := id hr8
      have EE := entL_eq e k na L1.out L2.out
      have G8 := Lib.hid ((G7.out.retO hr8).eq EE)
      rw [EE] at hr8
      have N8 := Lib.hid (hr8.len)
      clear EE
      have hn8 : n8 ≤ 9000 := by have := HEN.out; rw [L1.out, L2.out, N8.out] at this; omega
      clear hr8 G7 O7 cb ca
      go_wp2_with fail
      refine (put_any w8.heap.size n8 c8 A8 (entL e) w8 (Lies.of_own (G8.out.ownN N8.out)) (Nat.le_refl _) (by omega)).mono ?_
      intro r w9 hr9
      obtain ⟨A9, n9, c9, rfl, ho9, hb9⟩ := hr9.n
      clear hr9
      have O9 := Lib.hid ho9
      clear ho9
      go_wp2_with fail
      go_ret2
      exact ⟨A9, _, c9, rfl, own_base O9.out G8.out.below.size, G8.out.below.trans (hb9.mono G8.out.below.size)⟩
end Go.Proofs.YthicidpdgggbjaaDoor

/-
  Walks: the deferred closure of ReadRec, and ReadRec.
  Conditions: readers over at most 10000 bytes.
-/

namespace Go.Proofs.YthicidpdgggbjaaDoor
open Go.RowKit
set_option maxRecDepth 8000

theorem pair_one (x y : Value) (hx : x.oneCell' = true) (hy : y.oneCell' = true) : (#[x, y] : Array Value).all (·.oneCell') = true := by simp [hx, hy]

theorem rc_one (r : Rc) : (#[.int .u64 (r.id : Nat), .int .u64 (r.key : Nat), .int .u32 (r.x : Nat), .int .u32 (r.y : Nat), .string (strOf r.val), .bool r.ghost] : Array Value).all (·.oneCell') = true :=
  all_oneCell_toArray (cs := rcL r) (by intro v hv; simp only [rcL, List.mem_cons, List.not_mem_nil, or_false] at hv; rcases hv with rfl | rfl | rfl | rfl | rfl | rfl <;> rfl)

theorem clo_yes (ok bef rec rp : Nat) (u : FrameMode) (w : World) (h : w.cell? ⟨ok, 0, none⟩ = some (.bool true)) :
    CallsD Tryd.prog 94 #[.pointer (some ⟨ok, 0, none⟩), .pointer (some ⟨bef, 0, none⟩), .pointer (some ⟨rec, 0, none⟩), .pointer (some ⟨rp, 0, none⟩)] u w fun e u' w' => u' = u ∧ (e = .returned (.tuple #[]) ∧ w' = w) := by
  go_enter_d Tryd.func94, Tryd.ntmps94
  go_wp2
  go_end0
  exact ⟨rfl, rfl⟩

/-- What the closure leaves: the record zero, the reader as it was. -/
def Undid (w : World) (rec g : Nat) (cs : Array Value) (w' : World) : Prop :=
  At w' rec 38 #[.int .u64 (zrc.id : Nat), .int .u64 (zrc.key : Nat), .int .u32 (zrc.x : Nat), .int .u32 (zrc.y : Nat), .string (strOf zrc.val), .bool zrc.ghost] ∧ At w' g 135 cs ∧ (∀ k, k < w.heap.size → k ≠ rec → k ≠ g → w'.heap[k]? = w.heap[k]?) ∧ w'.os = w.os ∧ w'.tape = w.tape ∧ w'.output = w.output ∧ w.heap.size ≤ w'.heap.size

set_option maxHeartbeats 800000 in
theorem clo_no (ok bef rec rp g : Nat) (u : FrameMode) (w : World) (v b : Value) (old old2 : Array Value) (h : w.cell? ⟨ok, 0, none⟩ = some (.bool false)) (hr : w.cell? ⟨rp, 0, none⟩ = some (.pointer (some ⟨g, 0, none⟩)))
    (hb : At w bef 135 #[v, b]) (hv : v.oneCell' = true) (hv2 : b.oneCell' = true) (hrec : At w rec 38 old) (hg : At w g 135 old2) (ho : old.size = 6) (ho2 : old2.size = 2) (hne : rec ≠ g) :
    CallsD Tryd.prog 94 #[.pointer (some ⟨ok, 0, none⟩), .pointer (some ⟨bef, 0, none⟩), .pointer (some ⟨rec, 0, none⟩), .pointer (some ⟨rp, 0, none⟩)] u w fun e u' w' => u' = u ∧ (e = .returned (.tuple #[]) ∧ Undid w rec g #[v, b] w') := by
  have HB := Lib.hid hb
  have HR := Lib.hid hrec
  have HG := Lib.hid hg
  clear hb hrec hg
  go_enter_d Tryd.func94, Tryd.ntmps94
  go_wp2_with (first
    | refine wpList_load_at 135 8 (.tmp 1) rfl rfl rfl bef rfl #[v, b] 2 str69 rfl HB.out ?_
    | (refine wpList_store_at 38 (.tmp 2) (.tmp 7) rfl rfl rfl rec rfl #[.int .u64 (zrc.id : Nat), .int .u64 (zrc.key : Nat), .int .u32 (zrc.x : Nat), .int .u32 (zrc.y : Nat), .string (strOf zrc.val), .bool zrc.ghost] old 6 rfl str25 rfl ho (rc_one _) HR.out ?_
       intro w1 h1 g1
       have H1 := Lib.hid h1
       have G1 := Lib.hid (HG.out.grown g1 (by intro e; injection e with e; exact hne e.symm))
       clear h1)
    | (refine wpList_store_at 135 (.tmp 9) (.tmp 8) rfl rfl rfl g rfl #[v, b] old2 2 rfl str69 rfl ho2 (pair_one v b hv hv2) G1.out ?_
       intro w2 h2 g2))
  go_end0
  refine ⟨rfl, H1.out.grown g2 (by intro e; injection e with e; exact hne e), h2, fun k hk h3 h4 => ?_, g2.os.trans g1.os, g2.tape.trans g1.tape, g2.output.trans g1.output, Nat.le_trans g1.size g2.size⟩
  rw [g2.block k (by have := g1.size; omega) (by intro e; injection e with e; exact h4 e), g1.block k hk (by intro e; injection e with e; exact h3 e)]
end Go.Proofs.YthicidpdgggbjaaDoor

/-
  Walks: the reference's Check.
  Conditions: at most 1000 pages, numbers and bytes of the value.
-/

namespace Go.Proofs.YthicidpdgggbjaaDoor
open Go.RowKit
set_option maxRecDepth 8000

set_option maxHeartbeats 1600000 in
theorem refCheck_any (e : Ent) (PA QA : Option Addr) (np pc na qc : Nat) (w : World) (h : EL w w.heap.size e PA np QA na) (hnp : np ≤ 1000) (hna : na ≤ 1000) (hv : e.rc.val.length ≤ 1000) :
    Calls Tryd.prog 44 #[.agg #[.int .u64 (e.lsn : Nat), .int .i64 e.kind, .int .u64 (e.txn : Nat), .int .u64 (e.prev : Nat), .int .u64 (e.next : Nat), .int .u64 (e.rc.id : Nat), .int .u64 (e.rc.key : Nat), .int .u32 (e.rc.x : Nat), .int .u32 (e.rc.y : Nat), .string (strOf e.rc.val), .bool e.rc.ghost, .slice PA np pc, .slice QA na qc]] w (RetC w (chk e)) := by
  have h1 := h.lenP
  have h2 := h.lenA
  have hs := strOf_size e.rc.val
  have B1 := Lib.hid ((Below.refl w.heap.size w).alloc (Nat.le_refl _) (.cells #[.int .u64 (e.lsn : Nat), .int .i64 e.kind, .int .u64 (e.txn : Nat), .int .u64 (e.prev : Nat), .int .u64 (e.next : Nat), .int .u64 (e.rc.id : Nat), .int .u64 (e.rc.key : Nat), .int .u32 (e.rc.x : Nat), .int .u32 (e.rc.y : Nat), .string (strOf e.rc.val), .bool e.rc.ghost, .slice PA np pc, .slice QA na qc] 42))
  have HP := Lib.hid (h.pages.alloc (Nat.le_refl _) (.cells #[.int .u64 (e.lsn : Nat), .int .i64 e.kind, .int .u64 (e.txn : Nat), .int .u64 (e.prev : Nat), .int .u64 (e.next : Nat), .int .u64 (e.rc.id : Nat), .int .u64 (e.rc.key : Nat), .int .u32 (e.rc.x : Nat), .int .u32 (e.rc.y : Nat), .string (strOf e.rc.val), .bool e.rc.ghost, .slice PA np pc, .slice QA na qc] 42))
  have fin : ∀ z : Int, chk e = z → RetC w (chk e) (.returned (.int .i64 z)) (w.alloc (.cells #[.int .u64 (e.lsn : Nat), .int .i64 e.kind, .int .u64 (e.txn : Nat), .int .u64 (e.prev : Nat), .int .u64 (e.next : Nat), .int .u64 (e.rc.id : Nat), .int .u64 (e.rc.key : Nat), .int .u32 (e.rc.x : Nat), .int .u32 (e.rc.y : Nat), .string (strOf e.rc.val), .bool e.rc.ghost, .slice PA np pc, .slice QA na qc] 42)) := fun z hz => ⟨by rw [hz], B1.out⟩
  have FIN := Lib.hid fin
  clear fin h
  by_cases k1 : e.kind < 1
  · have C := Lib.hid (show chk e = 1 by rw [chk, if_pos (.inl k1)])
    go_enter Tryd.func44, Tryd.ntmps44
    go_wp2_with fail
    go_ret
    exact FIN.out _ C.out
  by_cases k2 : 10 < e.kind
  · have C := Lib.hid (show chk e = 1 by rw [chk, if_pos (.inr k2)])
    go_enter Tryd.func44, Tryd.ntmps44
    go_wp2_with fail
    go_ret
    exact FIN.out _ C.out
  have K := Lib.hid (show ¬ (e.kind < 1 ∨ 10 < e.kind) by omega)
  by_cases k3 : 15 < e.rc.val.length
  · have C := Lib.hid (show chk e = 9 by rw [chk, if_neg K.out, if_pos k3])
    go_enter Tryd.func44, Tryd.ntmps44
    go_wp2_with fail
    go_ret
    exact FIN.out _ C.out
  by_cases k4 : 24 < np
  · have C := Lib.hid (show chk e = 13 by rw [chk, if_neg K.out, if_neg k3, if_pos (.inl (by omega))])
    go_enter Tryd.func44, Tryd.ntmps44
    go_wp2_with fail
    go_ret
    exact FIN.out _ C.out
  by_cases k5 : 64 < na
  · have C := Lib.hid (show chk e = 13 by rw [chk, if_neg K.out, if_neg k3, if_pos (.inr (by omega))])
    go_enter Tryd.func44, Tryd.ntmps44
    go_wp2_with fail
    go_ret
    exact FIN.out _ C.out
  have C := Lib.hid (show chk e = if risB (-1) e.pages = true then 0 else 2 by rw [chk, if_neg K.out, if_neg k3, if_neg (by omega)])
  have H1 := Lib.hid h1
  clear h1 B1
  go_enter Tryd.func44, Tryd.ntmps44
  go_wp2_with fail
  go_loop [3, 4] (fun p i => ∃ (k : Nat) (last : Int), k ≤ np ∧ i = .int .i64 k ∧ p = .int .i64 last ∧ Hid (risB last (e.pages.drop k) = risB (-1) e.pages)) (fun _ i => np - (intOf i).toNat)
  case atStart => exact ⟨0, -1, Nat.zero_le _, rfl, rfl, Lib.hid rfl⟩
  case round =>
    obtain ⟨k, last, hk, rfl, rfl, hr⟩ := hrel
    by_cases hlt : k < np
    · obtain ⟨b, o, hl, rfl, hbB, hra⟩ := HP.out.at hlt
      have hc := im_page hra
      have EQ1 := Lib.hid (fun h => ris_no (last := last) hl h)
      have EQ2 := Lib.hid (fun h => ris_yes (last := last) hl h)
      clear hra
      generalize e.pages[k] = im at *
      by_cases j1 : im.page ≤ last
      · go_wp2_with fail
        go_ret
        exact FIN.out _ (by rw [C.out, ← hr.out, EQ1.out (.inl j1)]; rfl)
      · by_cases j2 : 255 < im.page
        · go_wp2_with fail
          go_ret
          exact FIN.out _ (by rw [C.out, ← hr.out, EQ1.out (.inr j2)]; rfl)
        · go_wp2_with fail
          go_round
          case rel => exact ⟨k + 1, im.page, by omega, by go_num, rfl, Lib.hid (by rw [← hr.out, EQ2.out (by omega)])⟩
          case measure => simp [intOf]; omega
    · go_wp2_with fail
      go_ret
      obtain rfl : k = np := by omega
      have e' : e.pages.drop k = [] := List.drop_of_length_le (by rw [H1.out]; exact Nat.le_refl _)
      have := hr.out
      rw [e'] at this
      exact FIN.out _ (by rw [C.out, ← this]; rfl)
end Go.Proofs.YthicidpdgggbjaaDoor

/-
  Walks: the reference's length and Put.
  Conditions: at most 1000 pages, numbers and bytes of the value.
-/

namespace Go.Proofs.YthicidpdgggbjaaDoor
open Go.RowKit
set_option maxRecDepth 8000

def pgA (p : Pg) : Array Value := (BC p.toList).toArray
theorem pgA_size (p : Pg) : (pgA p).size = 224 := by rw [pgA, List.size_toArray, BC_length, Vector.length_toList]
theorem pgA_get (p : Pg) (j : Nat) (h : j < 224) : (pgA p)[j]? = some (.int .u8 ((p.toList.getD j 0).toNat : Int)) := by
  rw [pgA, List.getElem?_toArray, BC_get _ j (by simpa using h), List.getD_eq_getElem?_getD, List.getElem?_eq_getElem (by simpa using h)]
  rfl
theorem wpList_load_pg {ops : Array Oper} {rest : List Oper} {op : Oper} {a : Act} {w : World} {Q : Exit → Act → World → Prop} (d : Nat) (x : Operand) (hop : op.dst = some d) (hgd : op.guard = none) (ho : op.op = .load 96 x) (g o : Nat) (hx : a.eval x = .pointer (some ⟨g, o, none⟩)) (i : Im) (q : Nat) (hq : o = q + 1)
    (hc : w.rangeAt g q (imL i)) (h : wpList Tryd.prog ops Q rest (a.put (some d) (.agg (pgA i.p))) w) : wpList Tryd.prog ops Q (op :: rest) a w := by
  obtain ⟨ds, h1, h2, h3⟩ := str49
  subst hq
  refine wpList_load_mid hgd 96 x ho g (q + 1) hx (BC i.p.toList) ds (fun j v hv => ?_) h1 h2 (by rw [BC_length, Vector.length_toList]; exact h3) ?_
  · rw [Nat.add_assoc, Nat.add_comm 1 j]
    refine hc (j + 1) v ?_
    rw [imL, List.getElem?_cons_succ]
    exact hv
  · rw [hop]
    exact h

set_option maxHeartbeats 800000 in
theorem refLen_any (p : Pg) (w : World) : Calls Tryd.prog 46 #[.agg (pgA p)] w (RetC w (stN p : Int)) := by
  have AT := Lib.hid (At.new w 96 (pgA p))
  go_enter Tryd.func46, Tryd.ntmps46
  go_wp2_with fail
  go_loop [3, 4] (fun n i => ∃ k : Nat, k ≤ 224 ∧ i = .int .i64 k ∧ n = .int .i64 (sN p.toList k : Int)) (fun _ i => 224 - (intOf i).toNat)
  case atStart => exact ⟨0, Nat.zero_le _, rfl, rfl⟩
  case round =>
    obtain ⟨k, hk, rfl, rfl⟩ := hrel
    by_cases hlt : k < 224
    · have hc : (w.alloc (.cells (pgA p) 96)).cell? ⟨w.heap.size, k, none⟩ = _ := (AT.out.cell k).trans (pgA_get p k hlt)
      have hz := u8_zero (b := p.toList.getD k 0)
      have SN := Lib.hid (show sN p.toList (k + 1) = if p.toList.getD k 0 = 0 then sN p.toList k else k + 1 from rfl)
      generalize p.toList.getD k 0 = y at *
      by_cases h0 : y = 0
      · have hd : decide (y = 0) = true := by simpa using h0
        rw [hd] at hz
        have hz2 : ((y.toNat : Int) != 0) = false := by rw [bne, hz]; rfl
        have H0 := Lib.hid h0
        clear h0 hd
        go_wp2_with fail
        go_round
        case rel => exact ⟨k + 1, by omega, by go_num, by rw [SN.out, if_pos H0.out]⟩
        case measure => simp [intOf]; omega
      · have hd : decide (y = 0) = false := by simpa using h0
        rw [hd] at hz
        have hz2 : ((y.toNat : Int) != 0) = true := by rw [bne, hz]; rfl
        have H0 := Lib.hid h0
        clear h0 hd
        go_wp2_with fail
        go_round
        case rel => exact ⟨k + 1, by omega, by go_num, by rw [SN.out, if_neg H0.out]; go_num⟩
        case measure => simp [intOf]; omega
    · obtain rfl : k = 224 := by omega
      go_wp2_with fail
      go_ret
      exact ⟨rfl, (Below.refl _ _).alloc (Nat.le_refl _) _⟩

set_option maxHeartbeats 800000 in
theorem refPut_bad (e : Ent) (PA QA : Option Addr) (np pc na qc : Nat) (w : World) (z : Int) (h : EL w w.heap.size e PA np QA na) (hnp : np ≤ 1000) (hna : na ≤ 1000) (hv : e.rc.val.length ≤ 1000) (hz : chk e = z) (hne : (z != 0) = true) :
    Calls Tryd.prog 22 #[.agg #[.int .u64 (e.lsn : Nat), .int .i64 e.kind, .int .u64 (e.txn : Nat), .int .u64 (e.prev : Nat), .int .u64 (e.next : Nat), .int .u64 (e.rc.id : Nat), .int .u64 (e.rc.key : Nat), .int .u32 (e.rc.x : Nat), .int .u32 (e.rc.y : Nat), .string (strOf e.rc.val), .bool e.rc.ghost, .slice PA np pc, .slice QA na qc]] w (NoP w z) := by
  have B1 := Lib.hid ((Below.refl w.heap.size w).alloc (Nat.le_refl _) (.cells #[.int .u64 (e.lsn : Nat), .int .i64 e.kind, .int .u64 (e.txn : Nat), .int .u64 (e.prev : Nat), .int .u64 (e.next : Nat), .int .u64 (e.rc.id : Nat), .int .u64 (e.rc.key : Nat), .int .u32 (e.rc.x : Nat), .int .u32 (e.rc.y : Nat), .string (strOf e.rc.val), .bool e.rc.ghost, .slice PA np pc, .slice QA na qc] 42))
  have CK := Lib.hid (refCheck_any e PA QA np pc na qc (w.alloc (.cells #[.int .u64 (e.lsn : Nat), .int .i64 e.kind, .int .u64 (e.txn : Nat), .int .u64 (e.prev : Nat), .int .u64 (e.next : Nat), .int .u64 (e.rc.id : Nat), .int .u64 (e.rc.key : Nat), .int .u32 (e.rc.x : Nat), .int .u32 (e.rc.y : Nat), .string (strOf e.rc.val), .bool e.rc.ghost, .slice PA np pc, .slice QA na qc] 42)) ((h.under B1.out).up (by simp)) hnp hna hv)
  rw [hz] at CK
  clear h hz
  go_enter Tryd.func22, Tryd.ntmps22
  go_wp2_with (go_at_call 44; refine CK.out.mono ?_; rintro e1 w1 ⟨rfl, hb1⟩; have B2 := Lib.hid (B1.out.trans (hb1.mono (by simp))); clear hb1)
  go_ret2
  exact ⟨rfl, B2.out⟩

/-- The row begins with the kind. -/
theorem grow_kind (e : Ent) (PA QA : Option Addr) (np pc na qc : Nat) (w w1 : World) (hlo : 1 ≤ e.kind) (hhi : e.kind ≤ 10) (hbox : At w1 w.heap.size 42 #[.int .u64 (e.lsn : Nat), .int .i64 e.kind, .int .u64 (e.txn : Nat), .int .u64 (e.prev : Nat), .int .u64 (e.next : Nat), .int .u64 (e.rc.id : Nat), .int .u64 (e.rc.key : Nat), .int .u32 (e.rc.x : Nat), .int .u32 (e.rc.y : Nat), .string (strOf e.rc.val), .bool e.rc.ghost, .slice PA np pc, .slice QA na qc]) (hb : Below w.heap.size w w1) :
    Grow w w.heap.size 42 #[.int .u64 (e.lsn : Nat), .int .i64 e.kind, .int .u64 (e.txn : Nat), .int .u64 (e.prev : Nat), .int .u64 (e.next : Nat), .int .u64 (e.rc.id : Nat), .int .u64 (e.rc.key : Nat), .int .u32 (e.rc.x : Nat), .int .u32 (e.rc.y : Nat), .string (strOf e.rc.val), .bool e.rc.ghost, .slice PA np pc, .slice QA na qc] [UInt8.ofNat e.kind.toNat] (.slice (some ⟨w1.heap.size, 0, none⟩) 1 1) (w1.alloc (.cells #[.int .u8 e.kind] 5)) := by
  have hlt := hbox.lt
  have e1 : [Value.int .u8 e.kind] = BC [UInt8.ofNat e.kind.toNat] := by
    simp only [BC, List.map_cons, List.map_nil, toNat_ofNat (show e.kind.toNat < 256 by omega)]
    rw [show ((e.kind.toNat : Nat) : Int) = e.kind by omega]
  exact ⟨hbox.alloc _, own_len (own_base (own_new1 w1 _ 5) (by omega)) e1, hb.alloc (by omega) _, by simp; omega⟩

def RPR (w : World) (cs : Array Value) (np : Nat) (l : List UInt8) (ims : List Im) (b i : Value) (wr : World) : Prop :=
  ∃ k : Nat, k ≤ np ∧ i = .int .i64 k ∧ Hid (Grow w w.heap.size 42 cs (l ++ pagesL (ims.take k)) b wr)
def RBR (w : World) (cs : Array Value) (n : Nat) (l st : List UInt8) (b i : Value) (wr : World) : Prop :=
  ∃ j : Nat, j ≤ n ∧ i = .int .i64 j ∧ Hid (Grow w w.heap.size 42 cs (l ++ st.take j) b wr)
def RAR (w : World) (cs : Array Value) (na : Nat) (l : List UInt8) (ns : List Nat) (b i : Value) (wr : World) : Prop :=
  ∃ k : Nat, k ≤ na ∧ i = .int .i64 k ∧ Hid (Grow w w.heap.size 42 cs (l ++ numsL (ns.take k)) b wr)
theorem lies_b2 (w : World) (z : Int) (n : Nat) (t : TypeId) (h0 : 0 ≤ z) (h1 : z ≤ 255) (hn : n < 256) : Lies (w.alloc (.cells #[.int .u8 z, .int .u8 (n : Int)] t)) (w.heap.size + 1) 1 (some ⟨w.heap.size, 0, none⟩) 2 (BC ([UInt8.ofNat z.toNat] ++ [UInt8.ofNat n])) := by
  have e : BC ([UInt8.ofNat z.toNat] ++ [UInt8.ofNat n]) = [.int .u8 z, .int .u8 (n : Int)] := by
    simp only [BC, List.singleton_append, List.map_cons, List.map_nil, toNat_ofNat (show z.toNat < 256 by omega), toNat_ofNat hn]
    rw [show ((z.toNat : Nat) : Int) = z by omega]
  rw [e]
  exact lies_k w _ t 2 _ rfl rfl
theorem stored_take (p : Pg) (j : Nat) (h : j < stN p) : (stored p).take (j + 1) = (stored p).take j ++ [p.toList.getD j 0] := by
  have hl := stored_length p
  have hj : j < (stored p).length := by omega
  have h2 : j < p.toList.length := by have := stN_le p; rw [Vector.length_toList]; omega
  rw [List.take_succ_eq_append_getElem hj, List.getD_eq_getElem?_getD, List.getElem?_eq_getElem h2]
  congr 2
  simp [stored]

set_option maxHeartbeats 6400000 in
theorem refPut_good (e : Ent) (PA QA : Option Addr) (np pc na qc : Nat) (w : World) (h : EL w w.heap.size e PA np QA na) (he : e.ok) (hz : chk e = 0) :
    Calls Tryd.prog 22 #[.agg #[.int .u64 (e.lsn : Nat), .int .i64 e.kind, .int .u64 (e.txn : Nat), .int .u64 (e.prev : Nat), .int .u64 (e.next : Nat), .int .u64 (e.rc.id : Nat), .int .u64 (e.rc.key : Nat), .int .u32 (e.rc.x : Nat), .int .u32 (e.rc.y : Nat), .string (strOf e.rc.val), .bool e.rc.ghost, .slice PA np pc, .slice QA na qc]] w (YesP w (sealL (entL e))) := by
  have G := chk_zero hz
  have g1 := G.lo
  have g2 := G.hi
  have g3 := G.val
  have g4 := G.pages
  have g5 := G.act
  have l1 := h.lenP
  have l2 := h.lenA
  have hen := entL_length e g3
  have hhl : (headL e).length = 33 := by simp [headL, putL_length]
  have hrl := recL_length e.rc g3
  have RA := Lib.hid (risB_all _ _ G.ris (by omega))
  rw [l1] at g4
  rw [l2] at g5
  have B0 := Lib.hid ((Below.refl w.heap.size w).alloc (Nat.le_refl _) (.cells #[.int .u64 (e.lsn : Nat), .int .i64 e.kind, .int .u64 (e.txn : Nat), .int .u64 (e.prev : Nat), .int .u64 (e.next : Nat), .int .u64 (e.rc.id : Nat), .int .u64 (e.rc.key : Nat), .int .u32 (e.rc.x : Nat), .int .u32 (e.rc.y : Nat), .string (strOf e.rc.val), .bool e.rc.ghost, .slice PA np pc, .slice QA na qc] 42))
  have CK := Lib.hid (refCheck_any e PA QA np pc na qc (w.alloc (.cells #[.int .u64 (e.lsn : Nat), .int .i64 e.kind, .int .u64 (e.txn : Nat), .int .u64 (e.prev : Nat), .int .u64 (e.next : Nat), .int .u64 (e.rc.id : Nat), .int .u64 (e.rc.key : Nat), .int .u32 (e.rc.x : Nat), .int .u32 (e.rc.y : Nat), .string (strOf e.rc.val), .bool e.rc.ghost, .slice PA np pc, .slice QA na qc] 42)) ((h.under B0.out).up (by simp)) (by omega) (by omega) (by omega))
  have X0 := Lib.hid (At.new w 42 #[.int .u64 (e.lsn : Nat), .int .i64 e.kind, .int .u64 (e.txn : Nat), .int .u64 (e.prev : Nat), .int .u64 (e.next : Nat), .int .u64 (e.rc.id : Nat), .int .u64 (e.rc.key : Nat), .int .u32 (e.rc.x : Nat), .int .u32 (e.rc.y : Nat), .string (strOf e.rc.val), .bool e.rc.ghost, .slice PA np pc, .slice QA na qc])
  rw [hz] at CK
  have HE := Lib.hid h
  have L1 := Lib.hid l1
  have L2 := Lib.hid l2
  have HEN := Lib.hid hen
  have HHL := Lib.hid hhl
  have HRL := Lib.hid hrl
  have P8 := Lib.hid (show ∀ n : Nat, (putL n (8 : Int).toNat).length = 8 from fun n => putL_length 8 n)
  clear hz h l1 l2 hen hhl hrl G
  have hwk : IntKind.u8.wrap e.kind = e.kind := by rw [IntKind.wrap_u8]; omega
  have hwp : IntKind.u8.wrap (np : Int) = np := by rw [IntKind.wrap_u8]; omega
  have hwa : IntKind.u8.wrap (na : Int) = na := by rw [IntKind.wrap_u8]; omega
  go_enter Tryd.func22, Tryd.ntmps22
  go_wp2_with fail
  refine CK.out.mono ?_
  rintro e1 w1 ⟨rfl, hb1⟩
  have X1 := Lib.hid (X0.out.under hb1 X0.out.lt)
  have B1 := Lib.hid (B0.out.trans (hb1.mono (by simp)))
  clear hb1 X0 B0 CK
  have c1 : w1.cell? ⟨w.heap.size, 1, none⟩ = some (.int .i64 e.kind) := X1.out.cell 1
  have c0 : (w1.alloc (.cells #[.int .u8 e.kind] 5)).cell? ⟨w.heap.size, 0, none⟩ = some (.int .u64 (e.lsn : Int)) := (X1.out.alloc _).cell 0
  have G1 := Lib.hid (grow_kind e PA QA np pc na qc w w1 g1 g2 X1.out B1.out)
  clear X1 B1
  go_wp2_with fail
  refine (wrefPut_any 8 e.lsn 8 _ (by omega) (by omega) (by omega) he.lsn).mono ?_
  rintro r w2 ⟨A2, c2, rfl, ho2, hb2⟩
  rw [P8.out] at ho2 ⊢
  have G2 := Lib.hid (G1.out.call hb2)
  have I2 := Lib.hid (Lies.of_own ho2)
  clear ho2 hb2 G1
  go_wp2_with ((at_builtin; refine wpList_grow rfl (.tmp 19) (.tmp 22) rfl rfl G2.out w2.heap.size _ _ _ _ rfl I2.out (by simp only [List.length_singleton]; omega) (by omega) ?_; intro v3 w3 g3; have G3 := Lib.hid g3; clear g3; have cx : w3.cell? ⟨w.heap.size, 2, none⟩ = some (.int .u64 (e.txn : Int)) := G3.out.box.cell 2))
  refine (wrefPut_any 8 e.txn 8 w3 (by omega) (by omega) (by omega) he.txn).mono ?_
  rintro r w4 ⟨A4, c4, rfl, ho4, hb4⟩
  rw [P8.out] at ho4 ⊢
  have G4 := Lib.hid (G3.out.call hb4)
  have I4 := Lib.hid (Lies.of_own ho4)
  clear ho4 hb4 G3
  go_wp2_with ((at_builtin; refine wpList_grow rfl (.tmp 24) (.tmp 27) rfl rfl G4.out w4.heap.size _ _ _ _ rfl I4.out (by simp only [List.length_append, P8.out, List.length_singleton]; omega) (by omega) ?_; intro v5 w5 g5; have G5 := Lib.hid g5; clear g5; have cx : w5.cell? ⟨w.heap.size, 3, none⟩ = some (.int .u64 (e.prev : Int)) := G5.out.box.cell 3))
  refine (wrefPut_any 8 e.prev 8 w5 (by omega) (by omega) (by omega) he.prev).mono ?_
  rintro r w6 ⟨A6, c6, rfl, ho6, hb6⟩
  rw [P8.out] at ho6 ⊢
  have G6 := Lib.hid (G5.out.call hb6)
  have I6 := Lib.hid (Lies.of_own ho6)
  clear ho6 hb6 G5
  go_wp2_with ((at_builtin; refine wpList_grow rfl (.tmp 29) (.tmp 32) rfl rfl G6.out w6.heap.size _ _ _ _ rfl I6.out (by simp only [List.length_append, P8.out, List.length_singleton]; omega) (by omega) ?_; intro v7 w7 g7; have G7 := Lib.hid g7; clear g7; have cx : w7.cell? ⟨w.heap.size, 4, none⟩ = some (.int .u64 (e.next : Int)) := G7.out.box.cell 4))
  refine (wrefPut_any 8 e.next 8 w7 (by omega) (by omega) (by omega) he.next).mono ?_
  rintro r w8 ⟨A8, c8, rfl, ho8, hb8⟩
  rw [P8.out] at ho8 ⊢
  have G8 := Lib.hid (G7.out.call hb8)
  have I8 := Lib.hid (Lies.of_own ho8)
  clear ho8 hb8 G7
  go_wp2_with (first
    | (at_builtin; refine wpList_grow rfl (.tmp 34) (.tmp 37) rfl rfl G8.out w8.heap.size _ _ _ _ rfl I8.out (by simp only [List.length_append, P8.out, List.length_singleton]; omega) (by omega) ?_; intro v9 w9 g9; have G9 := Lib.hid g9; clear g9; have RCX := Lib.hid (ent_rc G9.out.box))
    | (refine wpList_load_rc 41 (.tmp 40) rfl rfl rfl w.heap.size 5 rfl e.rc RCX.out ?_))
  refine (refRec_any e.rc w9 he.rc g3).mono ?_
  rintro r w11 ⟨A11, c11, rfl, ho11, hb11⟩
  rw [HRL.out] at ho11 ⊢
  have HH2 : Hid ([UInt8.ofNat e.kind.toNat] ++ putL e.lsn (8 : Int).toNat ++ putL e.txn (8 : Int).toNat ++ putL e.prev (8 : Int).toNat ++ putL e.next (8 : Int).toNat = headL e) := by
    show _ = _
    simp only [headL, List.append_assoc, show (8 : Int).toNat = 8 from rfl]
  rw [HH2.out] at G9
  have G11 := Lib.hid (G9.out.call hb11)
  have I11 := Lib.hid (Lies.of_own ho11)
  clear ho11 hb11 G9 HH2
  go_wp2_with (first
    | (at_builtin; refine wpList_grow rfl (.tmp 39) (.tmp 42) rfl rfl G11.out w11.heap.size _ _ _ _ rfl I11.out (by rw [HHL.out]; omega) (by omega) ?_; intro v12 w12 g12; have G12 := Lib.hid g12; clear g12; have cp : w12.cell? ⟨w.heap.size, 11, none⟩ = some (.slice PA np pc) := G12.out.box.cell 11)
    | (at_builtin; refine wpList_grow rfl (.tmp 44) (.tmp 49) rfl rfl (G12.out.alloc _) _ _ _ _ [UInt8.ofNat np] rfl (lies_b1 _ _ _ (by omega)) (by simp only [List.length_append, HHL.out, HRL.out]; omega) (by omega) ?_; intro v13 w13 g13; have G13 := Lib.hid g13; clear g13))
  have P0 := Lib.hid (show (headL e ++ recL e.rc ++ [UInt8.ofNat np]).length = 75 by simp only [List.length_append, HHL.out, HRL.out, List.length_singleton])
  clear G11 I11 G12 cp
  go_loopw [5, 6] (fun b i wr => RPR w #[.int .u64 (e.lsn : Nat), .int .i64 e.kind, .int .u64 (e.txn : Nat), .int .u64 (e.prev : Nat), .int .u64 (e.next : Nat), .int .u64 (e.rc.id : Nat), .int .u64 (e.rc.key : Nat), .int .u32 (e.rc.x : Nat), .int .u32 (e.rc.y : Nat), .string (strOf e.rc.val), .bool e.rc.ghost, .slice PA np pc, .slice QA na qc] np (headL e ++ recL e.rc ++ [UInt8.ofNat np]) e.pages b i wr) (fun _ i _ => np - (intOf i).toNat)
  case atStart => exact ⟨0, Nat.zero_le _, rfl, Lib.hid (G13.out.eq (by rw [List.take_zero]; exact (List.append_nil _).symm))⟩
  case round =>
    clear G13
    obtain ⟨k, hk, rfl, hg⟩ := hrel
    have PL := pagesL_length (e.pages.take k)
    rw [List.length_take, Nat.min_eq_left (by rw [L1.out]; exact hk)] at PL
    have HPL := Lib.hid (show ((headL e ++ recL e.rc ++ [UInt8.ofNat np]) ++ pagesL (e.pages.take k)).length ≤ 75 + 226 * k by rw [List.length_append, P0.out]; omega)
    clear PL
    have cp : wr.cell? ⟨w.heap.size, 11, none⟩ = some (.slice PA np pc) := hg.out.box.cell 11
    by_cases hlt : k < np
    · obtain ⟨b, o, hl, hPA, hbB, hra⟩ := (HE.out.pages.under hg.out.below).at hlt
      subst hPA
      have hpg := RA.out e.pages[k] (List.getElem_mem hl)
      have TS := Lib.hid (take_snocI e.pages k hl)
      have R0 : Hid (∀ W, Below w.heap.size w W → W.rangeAt b (o + k * 225) (imL e.pages[k])) := by
        intro W hW
        obtain ⟨b', o', hl', hA', _, hr'⟩ := (HE.out.pages.under hW).at hlt
        have h1 : b = b' := by injection hA' with hA'; injection hA'
        have h2 : o = o' := by injection hA' with hA'; injection hA'
        subst h1 h2
        exact hr'
      clear hra
      generalize e.pages[k] = im at *
      have RX := Lib.hid (R0.out wr hg.out.below)
      have hst := stN_le im.p
      have hwg : IntKind.u8.wrap im.page = im.page := by rw [IntKind.wrap_u8]; omega
      have hws : IntKind.u8.wrap (stN im.p : Int) = (stN im.p : Int) := by rw [IntKind.wrap_u8]; omega
      have hdk : decide ((k : Int) < (np : Int)) = true := by simp; omega
      go_wp2_with (refine wpList_load_pg 63 (.tmp 62) rfl rfl rfl b (o + k * 225 + 1) rfl im (o + k * 225) rfl RX.out ?_)
      refine (refLen_any im.p wr).mono ?_
      rintro r w14 ⟨rfl, hb14⟩
      have G14 := Lib.hid (hg.out.call hb14)
      have cp4 : w14.cell? ⟨w.heap.size, 11, none⟩ = some (.slice (some ⟨b, o, none⟩) np pc) := G14.out.box.cell 11
      have ci : w14.cell? ⟨b, o + k * 225, none⟩ = some (.int .i64 im.page) := im_page (R0.out w14 G14.out.below)
      clear hb14 hg RX cp
      go_wp2_with (at_builtin; refine wpList_grow rfl (.tmp 65) (.tmp 75) rfl rfl (G14.out.alloc _) _ _ _ _ ([UInt8.ofNat im.page.toNat] ++ [UInt8.ofNat (stN im.p)]) rfl (lies_b2 _ _ _ _ hpg.1 hpg.2 (by omega)) (by have := HPL.out; omega) (by omega) ?_; intro v15 w15 g15; have G15 := Lib.hid g15; clear g15)
      obtain ⟨L5, HL5⟩ : ∃ L5, Hid ((headL e ++ recL e.rc ++ [UInt8.ofNat np]) ++ pagesL (e.pages.take k) ++ ([UInt8.ofNat im.page.toNat] ++ [UInt8.ofNat (stN im.p)]) = L5) := ⟨_, Lib.hid rfl⟩
      rw [HL5.out] at G15
      have hL5 : Hid (L5.length ≤ 8000) := by
        show _ ≤ _
        have := HPL.out
        rw [← HL5.out, List.length_append]
        simp only [List.length_append, List.length_singleton] at this ⊢
        omega
      clear G14 cp4 ci
      go_loopw [5, 8] (fun bv i wr => RBR w #[.int .u64 (e.lsn : Nat), .int .i64 e.kind, .int .u64 (e.txn : Nat), .int .u64 (e.prev : Nat), .int .u64 (e.next : Nat), .int .u64 (e.rc.id : Nat), .int .u64 (e.rc.key : Nat), .int .u32 (e.rc.x : Nat), .int .u32 (e.rc.y : Nat), .string (strOf e.rc.val), .bool e.rc.ghost, .slice (some ⟨b, o, none⟩) np pc, .slice QA na qc] (stN im.p) L5 (stored im.p) bv i wr) (fun _ i _ => stN im.p - (intOf i).toNat)
      case atStart => exact ⟨0, Nat.zero_le _, rfl, Lib.hid (G15.out.eq (by rw [List.take_zero]; exact (List.append_nil _).symm))⟩
      case round =>
        clear G15
        obtain ⟨j, hj, rfl, hg⟩ := hrel
        by_cases hjl : j < stN im.p
        · have cp5 : wr.cell? ⟨w.heap.size, 11, none⟩ = some (.slice (some ⟨b, o, none⟩) np pc) := hg.out.box.cell 11
          have cb : wr.cell? ⟨b, o + k * 225 + 1 + j, none⟩ = _ := im_byte (j := j) (R0.out wr hg.out.below) (by omega)
          have ST := Lib.hid (stored_take im.p j hjl)
          have hLn := Lib.hid (show (L5 ++ (stored im.p).take j).length ≤ 9000 by have := hL5.out; rw [List.length_append, List.length_take]; omega)
          generalize im.p.toList.getD j 0 = y at *
          go_wp2_with (at_builtin; refine wpList_grow rfl (.tmp 82) (.tmp 91) rfl rfl (hg.out.alloc _) _ _ _ _ [y] rfl (lies_byte _ _ _ _ rfl) (by have := hLn.out; omega) (by omega) ?_; intro v16 w16 g16)
          refine ⟨⟨j + 1, by omega, by go_num, Lib.hid (g16.eq ?_)⟩, by simp [intOf]; omega⟩
          rw [ST.out, List.append_assoc]
        · obtain rfl : j = stN im.p := by omega
          have ET := Lib.hid (show (stored im.p).take (stN im.p) = stored im.p from List.take_of_length_le (by rw [stored_length]; exact Nat.le_refl _))
          go_wp2_with fail
          refine ⟨⟨k + 1, by omega, by go_num, Lib.hid (hg.out.eq ?_)⟩, by simp [intOf]; omega⟩
          rw [ET.out, ← HL5.out, TS.out, pagesL_snoc]
          simp only [pageL, List.append_assoc]
    · obtain rfl : k = np := by omega
      have hte : e.pages.take k = e.pages := List.take_of_length_le (by rw [L1.out]; exact Nat.le_refl _)
      rw [hte] at hg HPL
      have ca : wr.cell? ⟨w.heap.size, 12, none⟩ = some (.slice QA na qc) := hg.out.box.cell 12
      go_wp2_with (at_builtin; refine wpList_grow rfl (.tmp 93) (.tmp 98) rfl rfl (hg.out.alloc _) _ _ _ _ [UInt8.ofNat na] rfl (lies_b1 _ _ _ (by omega)) (by have := HPL.out; omega) (by omega) ?_; intro v17 w17 g17; have G17 := Lib.hid g17; clear g17)
      obtain ⟨L7, HL7⟩ : ∃ L7, Hid ((headL e ++ recL e.rc ++ [UInt8.ofNat k]) ++ pagesL e.pages ++ [UInt8.ofNat na] = L7) := ⟨_, Lib.hid rfl⟩
      rw [HL7.out] at G17
      have hL7 : Hid (L7.length ≤ 6000) := by
        show _ ≤ _
        have := HPL.out
        rw [← HL7.out, List.length_append, List.length_singleton]
        omega
      clear hg ca
      go_loopw [5, 9] (fun b i wr => RAR w #[.int .u64 (e.lsn : Nat), .int .i64 e.kind, .int .u64 (e.txn : Nat), .int .u64 (e.prev : Nat), .int .u64 (e.next : Nat), .int .u64 (e.rc.id : Nat), .int .u64 (e.rc.key : Nat), .int .u32 (e.rc.x : Nat), .int .u32 (e.rc.y : Nat), .string (strOf e.rc.val), .bool e.rc.ghost, .slice PA k pc, .slice QA na qc] na L7 e.act b i wr) (fun _ i _ => na - (intOf i).toNat)
      case atStart => exact ⟨0, Nat.zero_le _, rfl, Lib.hid (G17.out.eq (by rw [List.take_zero]; exact (List.append_nil _).symm))⟩
      case round =>
        clear G17
        obtain ⟨j, hj, rfl, hg⟩ := hrel
        have ca : wr.cell? ⟨w.heap.size, 12, none⟩ = some (.slice QA na qc) := hg.out.box.cell 12
        by_cases hjl : j < na
        · obtain ⟨a, u, rfl, hb, hx, hc⟩ := (HE.out.act.under hg.out.below).get hjl
          have hjl2 : j < e.act.length := by rw [L2.out]; exact hjl
          rw [UC_get e.act j hjl2] at hx
          injection hx with hx
          subst hx
          have hx64 := he.act e.act[j] (List.getElem_mem hjl2)
          have TS := Lib.hid (take_snocN e.act j hjl2)
          have hLn := Lib.hid (show (L7 ++ numsL (e.act.take j)).length ≤ 9000 by have := hL7.out; rw [List.length_append, numsL_length, List.length_take]; omega)
          generalize e.act[j] = x at *
          go_wp2_with fail
          refine (wrefPut_any 8 x 8 wr (by omega) (by omega) (by omega) hx64).mono ?_
          rintro r w18 ⟨A18, c18, rfl, ho18, hb18⟩
          rw [P8.out] at ho18 ⊢
          have G18 := Lib.hid (hg.out.call hb18)
          have I18 := Lib.hid (Lies.of_own ho18)
          clear ho18 hb18 hg
          go_wp2_with (at_builtin; refine wpList_grow rfl (.tmp 107) (.tmp 113) rfl rfl G18.out w18.heap.size _ _ _ _ rfl I18.out (by have := hLn.out; omega) (by omega) ?_; intro v19 w19 g19)
          refine ⟨⟨j + 1, by omega, by go_num, Lib.hid (g19.eq ?_)⟩, by simp [intOf]; omega⟩
          rw [TS.out, numsL_snoc, List.append_assoc]
          rfl
        · obtain rfl : j = na := by omega
          have hta : e.act.take j = e.act := List.take_of_length_le (by rw [L2.out]; exact Nat.le_refl _)
          have EE := entL_eq e k j L1.out L2.out
          have G20 := Lib.hid (hg.out.eq (m := entL e) (by rw [hta, ← HL7.out]; exact EE))
          clear EE hg
          obtain ⟨A20, n20, c20, hv20, hn20⟩ := G20.out.slice
          subst hv20
          have N20 := Lib.hid hn20
          have hn8 : n20 ≤ 9000 := by have := HEN.out; rw [L1.out, L2.out, hn20] at this; omega
          clear hn20
          go_wp2_with fail
          refine (refPut_any wr.heap.size n20 c20 A20 (entL e) wr (Lies.of_own (G20.out.ownN N20.out)) (Nat.le_refl _) (by omega)).mono ?_
          intro r w21 hr21
          obtain ⟨A21, n21, c21, rfl, ho21, hb21⟩ := hr21.n
          have O21 := Lib.hid ho21
          clear ho21 hr21
          go_wp2_with fail
          go_ret2
          exact ⟨A21, n21, c21, rfl, own_base O21.out G20.out.below.size, G20.out.below.trans (hb21.mono G20.out.below.size)⟩
end Go.Proofs.YthicidpdgggbjaaDoor

/-
  Laws on comparing pages, records and rows of bytes as the program's '==' does.
  Conditions: none beyond those that each theorem names.
-/

namespace Go.Proofs.YthicidpdgggbjaaDoor
open Go.RowKit
set_option maxRecDepth 8000

section
variable {P : Program}
theorem eqItems_bytes (d : Nat) {e : TypeId} (he : P.underlying e = some (.int .u8)) (a b : List UInt8) (w : World) : ∀ is : List Nat, (∀ i ∈ is, i < a.length ∧ i < b.length) →
    (Op.eqItems (d + 1) e 1 (BC a).toArray (BC b).toArray is).run P w = .ok (is.all fun i => a.getD i 0 == b.getD i 0) w
  | [], _ => by simp [Op.eqItems]
  | i :: is, h => by
    obtain ⟨hi1, hi2⟩ := h i (by simp)
    have hagg : (isAgg e).run P w = .ok false w := by
      unfold isAgg
      rw [Sem.run_bind, run_underlying he w]
      simp
    have p1 : ∀ x : List UInt8, i < x.length → (part e (BC x).toArray (i * 1)).run P w = .ok (.int .u8 ((x.getD i 0).toNat : Int)) w := fun x hx => by
      simp only [part, Sem.run_bind, hagg, Result.andThen_ok, Nat.mul_one, List.getElem?_toArray, BC_get x i hx]
      simp [List.getD, hx]
    have hq : (((a.getD i 0).toNat : Int) == ((b.getD i 0).toNat : Int)) = (a.getD i 0 == b.getD i 0) := by
      rw [Bool.eq_iff_iff, beq_iff_eq, beq_iff_eq]
      constructor
      · intro h; exact UInt8.toNat_inj.1 (by omega)
      · intro h; rw [h]
    simp only [Op.eqItems, Sem.run_bind, p1 a hi1, p1 b hi2, Result.andThen_ok, run_equalIn_int w d e .u8 .u8 _ _ he]
    rw [hq]
    have ih := eqItems_bytes d he a b w is (fun j hj => h j (by simp [hj]))
    rw [List.all_cons]
    cases hab : (a.getD i 0 == b.getD i 0) with
    | true => simpa using ih
    | false => simp
end
theorem all_same (a b : List UInt8) (n : Nat) (ha : a.length = n) (hb : b.length = n) : ((List.range n).all fun i => a.getD i 0 == b.getD i 0) = (a == b) := by
  rw [Bool.eq_iff_iff, List.all_eq_true, beq_iff_eq]
  constructor
  · intro h
    apply List.ext_getElem (by omega)
    intro i h1 h2
    have := h i (by simp; omega)
    simpa [List.getD, h1, h2] using this
  · rintro rfl i _
    simp
theorem info5 : ∃ i, Tryd.prog.info? 5 = some i := Option.isSome_iff_exists.1 (show (Tryd.prog.info? 5).isSome = true by kernel_rfl)
theorem cells5 : Tryd.prog.cellsOf 5 = 1 := by kernel_rfl
theorem equalIn_pg (d : Nat) (a b : Pg) (w : World) : (Op.equalIn (d + 2) 96 (.agg (pgA a)) (.agg (pgA b))).run Tryd.prog w = .ok (a == b) w := by
  obtain ⟨i, hi⟩ := info5
  have hb : (a.toList == b.toList) = (a == b) := by rw [Bool.eq_iff_iff, beq_iff_eq, beq_iff_eq, Vector.toList_inj]
  rw [run_equalIn_array w (d + 1) _ _ Tryd.underlying96 hi, cells5, pgA, pgA, eqItems_bytes d Tryd.underlying5 a.toList b.toList w _ (fun i hi => by simp at hi; simpa using hi), all_same a.toList b.toList 224 (by simp) (by simp), hb]
theorem imA_tail (i : Im) : (imA i).extract 1 225 = pgA i.p := by
  apply Array.ext'
  rw [imA, pgA]
  simp [imL]
  exact List.take_of_length_le (by rw [BC_length, Vector.length_toList]; exact Nat.le_refl _)
theorem part_page (i : Im) (w : World) : (part 3 (imA i) 0).run Tryd.prog w = .ok (.int .i64 i.page) w := by
  have hagg : (isAgg 3).run Tryd.prog w = .ok false w := by
    unfold isAgg
    rw [Sem.run_bind, run_underlying Tryd.underlying3 w]
    simp
  simp only [part, Sem.run_bind, hagg, Result.andThen_ok, imA_page]
  simp
theorem part_p (i : Im) (w : World) : (part 96 (imA i) 1).run Tryd.prog w = .ok (.agg (pgA i.p)) w := by
  have hagg : (isAgg 96).run Tryd.prog w = .ok true w := by
    unfold isAgg
    rw [Sem.run_bind, run_underlying Tryd.underlying96 w]
    simp
  obtain ⟨_, _, _, h3⟩ := str49
  cases hq : Tryd.prog.info? 96 with
  | none => simp [hq] at h3
  | some j =>
    have hs : j.size = 224 := by simpa [hq] using h3
    simp [part, hagg, sizeOf, typeInfo, hq, hs, imA_tail]
theorem fields51 : (Tryd.prog.fieldsOf 98).toList.map (fun f => (f.name, f.type, f.offset)) = [("Page", 3, 0), ("P", 96, 1)] := by kernel_rfl
theorem equalIn_im (d : Nat) (a b : Im) (w : World) : (Op.equalIn (d + 3) 98 (.agg (imA a)) (.agg (imA b))).run Tryd.prog w = .ok (sameI a b) w := by
  have hu : Tryd.prog.underlying 98 = some (.struct (Tryd.prog.fieldsOf 98)) := by kernel_rfl
  have hs : Tryd.prog.stoodInHeld 98 = false := by kernel_rfl
  rw [run_equalIn_struct w (d + 2) _ _ _ hu hs]
  have hf := fields51
  cases hq : (Tryd.prog.fieldsOf 98).toList with
  | nil => rw [hq] at hf; cases hf
  | cons f1 r =>
    cases r with
    | nil => rw [hq] at hf; simp at hf
    | cons f2 r =>
      cases r with
      | cons _ _ => rw [hq] at hf; simp at hf
      | nil =>
        rw [hq] at hf
        simp at hf
        obtain ⟨⟨n1, t1, o1⟩, n2, t2, o2⟩ := hf
        have e1 : (Op.equalIn (d + 2) 3 (.int .i64 a.page) (.int .i64 b.page)).run Tryd.prog w = .ok (a.page == b.page) w := run_equalIn_int w (d + 1) 3 .i64 .i64 _ _ Tryd.underlying3
        have e0 : (a.page == b.page) = decide (a.page = b.page) := by rw [Bool.eq_iff_iff, beq_iff_eq, decide_eq_true_eq]
        rw [sameI, ← e0]
        cases hp : (a.page == b.page) with
        | false => simp [Op.eqFields, n1, t1, o1, n2, part_page, e1, hp]
        | true => simp [Op.eqFields, n1, t1, o1, n2, t2, o2, part_page, part_p, e1, hp, equalIn_pg]
                  by_cases hpp : a.p = b.p
                  · simp [hpp]
                  · have : (a.p == b.p) = false := by simpa using hpp
                    rw [if_neg hpp, this]
theorem neq_im (a b : Im) (w : World) : (binOp .neq 98 (.agg (imA a)) (.agg (imA b))).run Tryd.prog w = .ok (.bool (!(sameI a b))) w := by
  rw [run_neq_struct, equalIn_im 9997]
  rfl
theorem neq_pg (a b : Pg) (w : World) : (binOp .neq 96 (.agg (pgA a)) (.agg (pgA b))).run Tryd.prog w = .ok (.bool (!(a == b))) w := by
  rw [run_neq_struct, equalIn_pg 9998]
  rfl
theorem fields25 : (Tryd.prog.fieldsOf 38).toList.map (fun f => (f.name, f.type, f.offset)) = [("Id", 35, 0), ("Key", 35, 1), ("X", 36, 2), ("Y", 36, 3), ("Val", 9, 4), ("Ghost", 4, 5)] := by kernel_rfl
theorem nat_beq (a b : Nat) : ((a : Int) == (b : Int)) = (a == b) := by
  rw [Bool.eq_iff_iff, beq_iff_eq, beq_iff_eq]
  omega
theorem equalIn_rc (d : Nat) (a b : Rc) (w : World) : (Op.equalIn (d + 2) 38 (.agg #[.int .u64 (a.id : Nat), .int .u64 (a.key : Nat), .int .u32 (a.x : Nat), .int .u32 (a.y : Nat), .string (strOf a.val), .bool a.ghost]) (.agg #[.int .u64 (b.id : Nat), .int .u64 (b.key : Nat), .int .u32 (b.x : Nat), .int .u32 (b.y : Nat), .string (strOf b.val), .bool b.ghost])).run Tryd.prog w = .ok (sameR a b) w := by
  have hu : Tryd.prog.underlying 38 = some (.struct (Tryd.prog.fieldsOf 38)) := by kernel_rfl
  have hs : Tryd.prog.stoodInHeld 38 = false := by kernel_rfl
  rw [run_equalIn_struct w (d + 1) _ _ _ hu hs]
  have hf := fields25
  generalize (Tryd.prog.fieldsOf 38).toList = L at hf
  rcases L with _ | ⟨f1, _ | ⟨f2, _ | ⟨f3, _ | ⟨f4, _ | ⟨f5, _ | ⟨f6, _ | ⟨f7, L⟩⟩⟩⟩⟩⟩⟩ <;> simp at hf
  obtain ⟨⟨n1, t1, o1⟩, ⟨n2, t2, o2⟩, ⟨n3, t3, o3⟩, ⟨n4, t4, o4⟩, ⟨n5, t5, o5⟩, n6, t6, o6⟩ := hf
  have i22 : ∀ x y : Nat, (Op.equalIn (d + 1) 35 (.int .u64 (x : Int)) (.int .u64 (y : Int))).run Tryd.prog w = .ok (x == y) w := fun x y => by rw [run_equalIn_int w d 35 .u64 .u64 _ _ Tryd.underlying35, nat_beq]
  have i23 : ∀ x y : Nat, (Op.equalIn (d + 1) 36 (.int .u32 (x : Int)) (.int .u32 (y : Int))).run Tryd.prog w = .ok (x == y) w := fun x y => by rw [run_equalIn_int w d 36 .u32 .u32 _ _ Tryd.underlying36, nat_beq]
  have i9 : ∀ x y : List UInt8, (Op.equalIn (d + 1) 9 (.string (strOf x)) (.string (strOf y))).run Tryd.prog w = .ok (x == y) w := fun x y => by
    rw [run_equalIn_string w d 9 _ _ Tryd.underlying9]
    simp only [ByteArray.toList_eq, strOf_toList]
  have i4 : ∀ x y : Bool, (Op.equalIn (d + 1) 4 (.bool x) (.bool y)).run Tryd.prog w = .ok (x == y) w := fun x y => run_equalIn_bool' w d 4 x y Tryd.underlying4
  obtain ⟨ai, ak, ax, ay, av, ab⟩ := a
  obtain ⟨bi, bk, bx, bY, bv, bb⟩ := b
  simp only [sameR]
  cases h1 : (ai == bi) with
  | false => simp [Op.eqFields, n1, t1, o1, part, i22, h1]
  | true =>
  cases h2 : (ak == bk) with
  | false => simp [Op.eqFields, n1, t1, o1, n2, t2, o2, part, i22, h1, h2]
  | true =>
  cases h3 : (ax == bx) with
  | false => simp [Op.eqFields, n1, t1, o1, n2, t2, o2, n3, t3, o3, part, i22, i23, h1, h2, h3]
  | true =>
  cases h4 : (ay == bY) with
  | false => simp [Op.eqFields, n1, t1, o1, n2, t2, o2, n3, t3, o3, n4, t4, o4, part, i22, i23, h1, h2, h3, h4]
  | true =>
  cases h5 : (av == bv) with
  | false => simp [Op.eqFields, n1, t1, o1, n2, t2, o2, n3, t3, o3, n4, t4, o4, n5, t5, o5, part, i22, i23, i9, h1, h2, h3, h4, h5]
  | true =>
  cases h6 : (ab == bb) with
  | false => simp [Op.eqFields, n1, t1, o1, n2, t2, o2, n3, t3, o3, n4, t4, o4, n5, t5, o5, n6, t6, o6, part, i22, i23, i9, i4, h1, h2, h3, h4, h5, h6]
  | true => simp [Op.eqFields, n1, t1, o1, n2, t2, o2, n3, t3, o3, n4, t4, o4, n5, t5, o5, n6, t6, o6, part, i22, i23, i9, i4, h1, h2, h3, h4, h5, h6]
theorem eql_rc (a b : Rc) (w : World) : (binOp .eql 38 (.agg #[.int .u64 (a.id : Nat), .int .u64 (a.key : Nat), .int .u32 (a.x : Nat), .int .u32 (a.y : Nat), .string (strOf a.val), .bool a.ghost]) (.agg #[.int .u64 (b.id : Nat), .int .u64 (b.key : Nat), .int .u32 (b.x : Nat), .int .u32 (b.y : Nat), .string (strOf b.val), .bool b.ghost])).run Tryd.prog w = .ok (.bool (sameR a b)) w := by
  rw [run_eql_struct, equalIn_rc 9998]
  rfl
theorem neq_rc (a b : Rc) (w : World) : (binOp .neq 38 (.agg #[.int .u64 (a.id : Nat), .int .u64 (a.key : Nat), .int .u32 (a.x : Nat), .int .u32 (a.y : Nat), .string (strOf a.val), .bool a.ghost]) (.agg #[.int .u64 (b.id : Nat), .int .u64 (b.key : Nat), .int .u32 (b.x : Nat), .int .u32 (b.y : Nat), .string (strOf b.val), .bool b.ghost])).run Tryd.prog w = .ok (.bool (!(sameR a b))) w := by
  rw [run_neq_struct, equalIn_rc 9998]
  rfl
theorem guard51 : Tryd.prog.eqGuardType Tryd.prog.depth 98 = false := by kernel_rfl
theorem guard49 : Tryd.prog.eqGuardType Tryd.prog.depth 96 = false := by kernel_rfl
theorem guard25 : Tryd.prog.eqGuardType Tryd.prog.depth 38 = false := by kernel_rfl
section
variable {op : Oper} {a : Act}
theorem exec_neq_im (u v : Operand) (ho : op.op = .binOp .neq 98 u v 98) (x y : Im) (w : World) (hu : a.eval u = .agg (imA x)) (hv : a.eval v = .agg (imA y)) : (execOp a.eval op).run Tryd.prog w = .ok (.value (.bool (!(sameI x y)))) w := by
  unfold execOp
  simp only [ho, hu, hv, Sem.run_bind, run_eqGuard_agg w .neq 98 u v _ _ guard51, Result.andThen_ok, neq_im, Sem.run_pure]
theorem exec_neq_pg (u v : Operand) (ho : op.op = .binOp .neq 96 u v 96) (x y : Pg) (w : World) (hu : a.eval u = .agg (pgA x)) (hv : a.eval v = .agg (pgA y)) : (execOp a.eval op).run Tryd.prog w = .ok (.value (.bool (!(x == y)))) w := by
  unfold execOp
  simp only [ho, hu, hv, Sem.run_bind, run_eqGuard_agg w .neq 96 u v _ _ guard49, Result.andThen_ok, neq_pg, Sem.run_pure]
theorem exec_load_im {w : World} (x : Operand) (ho : op.op = .load 98 x) (g o : Nat) (hx : a.eval x = .pointer (some ⟨g, o, none⟩)) (i : Im) (hc : w.rangeAt g o (imL i)) : (execOp a.eval op).run Tryd.prog w = .ok (.value (.agg (imA i))) w := by
  obtain ⟨ds, h1, h2, h3⟩ := str51
  unfold execOp
  simp only [ho, hx, Instr.loadAt, Instr.sureAddr, Sem.run_bind, Sem.run_pure, Result.andThen_ok, run_loadVar_mid w g o 98 (imL i) ds hc h1 h2 (by rw [imL_length]; exact h3)]
  rfl
theorem exec_load_pg {w : World} (x : Operand) (ho : op.op = .load 96 x) (g o : Nat) (hx : a.eval x = .pointer (some ⟨g, o, none⟩)) (i : Im) (q : Nat) (hq : o = q + 1) (hc : w.rangeAt g q (imL i)) : (execOp a.eval op).run Tryd.prog w = .ok (.value (.agg (pgA i.p))) w := by
  obtain ⟨ds, h1, h2, h3⟩ := str49
  subst hq
  have hr : w.rangeAt g (q + 1) (BC i.p.toList) := fun j v hv => by
    rw [Nat.add_assoc, Nat.add_comm 1 j]
    refine hc (j + 1) v ?_
    rw [imL, List.getElem?_cons_succ]
    exact hv
  unfold execOp
  simp only [ho, hx, Instr.loadAt, Instr.sureAddr, Sem.run_bind, Sem.run_pure, Result.andThen_ok, run_loadVar_mid w g (q + 1) 96 (BC i.p.toList) ds hr h1 h2 (by rw [BC_length, Vector.length_toList]; exact h3)]
  rfl
end
end Go.Proofs.YthicidpdgggbjaaDoor

/-
  Walks: ReadRec.
  Conditions: readers over at most 10000 bytes.
-/

namespace Go.Proofs.YthicidpdgggbjaaDoor
open Go.RowKit
set_option maxRecDepth 8000

/-- Within ReadRec, which began in world w0: its four boxes, and the reader. -/
structure RRS (w0 : World) (g : Nat) (cs : Array Value) (bv bb : Value) (s : RS) (w : World) : Prop where
  r : At w w0.heap.size 124 #[.pointer (some ⟨g, 0, none⟩)]
  rcd : At w (w0.heap.size + 1) 38 cs
  ok : At w (w0.heap.size + 2) 4 #[.bool false]
  bef : At w (w0.heap.size + 3) 135 #[bv, bb]
  rdr : Rdr w g s.1 s.2
  low : g < w0.heap.size
  frame : w0.grownBy w (some g)
section
variable {w0 w w' : World} {g : Nat} {cs : Array Value} {bv bb : Value} {s s' : RS}
theorem RRS.call (h : RRS w0 g cs bv bb s w) (hr : Rdr w' g s'.1 s'.2) (hg : w.grownBy w' (some g)) : RRS w0 g cs bv bb s' w' := by
  have hl := h.low
  have ne : ∀ k, w0.heap.size ≤ k → some k ≠ some g := fun k hk e => by injection e with e; omega
  exact ⟨h.r.grown hg (ne _ (Nat.le_refl _)), h.rcd.grown hg (ne _ (by omega)), h.ok.grown hg (ne _ (by omega)), h.bef.grown hg (ne _ (by omega)), hr, h.low, h.frame.trans hg⟩
theorem RRS.set (h : RRS w0 g cs bv bb s w) (j : Nat) (u : Value) : RRS w0 g (cs.setIfInBounds j u) bv bb s (w.setCell ⟨w0.heap.size + 1, j, none⟩ u) := by
  have hl := h.low
  refine ⟨h.r.other (by simp) _, h.rcd.set j u, h.ok.other (by simp) _, h.bef.other (by simp) _, h.rdr.kept (fun k hk => Below.heap_setCell w _ u k (by simp; omega)), h.low, ?_⟩
  refine ⟨h.frame.os, h.frame.tape, h.frame.output, by simpa [World.setCell] using h.frame.size, fun k hk hne => ?_⟩
  rw [Below.heap_setCell w _ u k (by simp; omega)]
  exact h.frame.block k hk hne
end
section
variable {P : Program} {ops : Array Oper} {Q : Exit → Act → World → Prop} {S : World → Prop}
/-- The region comes to its end, in no other way. -/
def Only (Q : Exit → Act → World → Prop) : Exit → Act → World → Prop
  | .normal, a, w => Q .normal a w
  | _, _, _ => False
theorem only_done {a : Act} {w : World} (h : Q .normal a w) : Only Q .normal a w := h
theorem only_up : ∀ (e : Exit) (a : Act) (w : World), Only Q e a w → Q e a w
  | .normal, _, _, h => h
theorem region_only {id : Nat} {a : Act} {w : World} (hm : P.follows .mixedOrders = true) (hS : S w.drew)
    (h : S w.drew → wpAnyH P .any ops (Only Q) S ops.size (Array.replicate ops.size false) a w.drew) : (Code.region id ops true).wp P Q a w :=
  wp_mono (wp_region_held_drew hm hS h) only_up
end
section
variable {op : Oper} {a : Act} {w : World} {K : Act → World → Prop} {Q : Exit → Act → World → Prop}
theorem wp_store_at (ty : Nat) (x y : Operand) (hop : op.dst = none) (ho : op.op = .store ty x y) (g : Nat) (hx : a.eval x = .pointer (some ⟨g, 0, none⟩)) (cs old : Array Value) (n : Nat) (hy : a.eval y = .agg cs)
    (hs : Str ty n) (hn : cs.size = n) (hn2 : old.size = n) (h1 : cs.all (·.oneCell') = true) (hc : At w g ty old)
    (h : ∀ w', At w' g ty cs → w.grownBy w' (some g) → K (a.put none undef) w') : op.wp Tryd.prog a w K Q := by
  obtain ⟨ds, _, _, h3⟩ := hs
  refine wp_store_row ty x y ho g cs hx hy ty old hc (by rw [hn]; exact h3) (by rw [hn, hn2]) h1 ?_
  rw [hop]
  exact h _ (setRow_heap w g old cs ty (0, 0) hc) (grown_setRow w g cs)
theorem exec_load_at (ty : Nat) (x : Operand) (ho : op.op = .load ty x) (g : Nat) (hx : a.eval x = .pointer (some ⟨g, 0, none⟩)) (cs : Array Value) (n : Nat) (hs : Str ty n) (hn : cs.size = n) (hc : At w g ty cs) :
    (execOp a.eval op).run Tryd.prog w = .ok (.value (.agg cs)) w := by
  obtain ⟨ds, h1, h2, h3⟩ := hs
  unfold execOp
  simp only [ho, hx, Instr.loadAt, Instr.sureAddr, Sem.run_bind, Sem.run_pure, Result.andThen_ok, run_loadVar_row w g ty ty cs (0, 0) ds hc h1 (by cases ds <;> first | rfl | cases h2) (by rw [hn]; exact h3)]
end
/-- What ReadRec hands back: a record and a bool, each out of its box. -/
theorem results_rr {fn : Func} {p t : Tmp} {tmps : Array Value} {w : World} {g k : Nat} {cs : Array Value} {b : Bool} (hp : tmps.getD p undef = .pointer (some ⟨g, 0, none⟩)) (ht : tmps.getD t undef = .pointer (some ⟨k, 0, none⟩)) (hc : At w g 38 cs) (hn : cs.size = 6) (hk : At w k 4 #[.bool b])
    (h : fn.results = #[.cell p 38, .cell t 4]) : (results fn tmps).run Tryd.prog w = .ok (.tuple #[.agg cs, .bool b]) w := by
  obtain ⟨ds, h1, h2, h3⟩ := str25
  have hp' : tmps[p]?.getD undef = .pointer (some ⟨g, 0, none⟩) := by simpa using hp
  have ht' : tmps[t]?.getD undef = .pointer (some ⟨k, 0, none⟩) := by simpa using ht
  have hl := run_loadVar_row w g 38 38 cs (0, 0) ds hc h1 (by cases ds <;> first | rfl | cases h2) (by rw [hn]; exact h3)
  have hc4 : w.cell? ⟨k, 0, none⟩ = some (.bool b) := hk.cell 0
  have hl4 : (loadVar 4 ⟨k, 0, none⟩).run Tryd.prog w = .ok (.bool b) w := by simp [loadVar, isAgg, go_sem, hc4]
  simp [results, h, hp', ht', asAddr, hl, hl4]
/-- The record was stored back, as it was. -/
theorem RRS.same {w0 y y7 : World} {g : Nat} {cs : Array Value} {bv bb : Value} {s : RS} (h : RRS w0 g cs bv bb s y) (h7 : At y7 (w0.heap.size + 1) 38 cs) (g7 : y.drew.grownBy y7 (some (w0.heap.size + 1))) : RRS w0 g cs bv bb s y7 := by
  have hl := h.low
  have ne : ∀ k, k ≠ w0.heap.size + 1 → some k ≠ some (w0.heap.size + 1) := fun k hk e => by injection e with e; exact hk e
  have hs : ∀ (k : Nat) {t : TypeId} {c : Array Value}, k ≠ w0.heap.size + 1 → At y k t c → At y7 k t c := fun k _ _ hk ha => (show At y.drew k _ _ from ha).grown g7 (ne k hk)
  refine ⟨hs _ (by omega) h.r, h7, hs _ (by omega) h.ok, hs _ (by omega) h.bef, h.rdr.kept (fun k hk => g7.block k (by have := h.rdr.lt; show k < y.heap.size; omega) (ne k (by omega))), h.low, ?_⟩
  refine ⟨g7.os.trans h.frame.os, g7.tape.trans h.frame.tape, g7.output.trans h.frame.output, Nat.le_trans h.frame.size g7.size, fun k hk hne => ?_⟩
  rw [g7.block k (by have := h.frame.size; show k < y.heap.size; omega) (ne k (by omega))]
  exact h.frame.block k hk hne
/-- The same with the answer laid. -/
structure RRF (w0 : World) (g : Nat) (cs : Array Value) (bv bb : Value) (b : Bool) (s : RS) (w : World) : Prop where
  r : At w w0.heap.size 124 #[.pointer (some ⟨g, 0, none⟩)]
  rcd : At w (w0.heap.size + 1) 38 cs
  ok : At w (w0.heap.size + 2) 4 #[.bool b]
  bef : At w (w0.heap.size + 3) 135 #[bv, bb]
  rdr : Rdr w g s.1 s.2
  low : g < w0.heap.size
  frame : w0.grownBy w (some g)
theorem RRS.setOk {w0 w : World} {g : Nat} {cs : Array Value} {bv bb : Value} {s : RS} (h : RRS w0 g cs bv bb s w) (b : Bool) : RRF w0 g cs bv bb b s (w.setCell ⟨w0.heap.size + 1 + 1, 0, none⟩ (.bool b)) := by
  have hl := h.low
  refine ⟨h.r.other (by simp; omega) _, h.rcd.other (by simp) _, h.ok.set 0 _, h.bef.other (by simp) _, h.rdr.kept (fun k hk => Below.heap_setCell w _ _ k (by simp; omega)), h.low, ?_⟩
  refine ⟨h.frame.os, h.frame.tape, h.frame.output, by simpa [World.setCell] using h.frame.size, fun k hk hne => ?_⟩
  rw [Below.heap_setCell w _ _ k (by simp; omega)]
  exact h.frame.block k hk hne
theorem u32_nat {n : Nat} (h : n < 4294967296) : IntKind.u32.wrap (n : Int) = (n : Int) := by rw [IntKind.wrap_u32]; omega

/-- A record came back, and the reader stands behind it. -/
def RrYes (w : World) (g : Nat) (s : RS) (e : Ending) (w' : World) : Prop :=
  e = .returned (.tuple #[.agg #[.int .u64 ((rrRec s).id : Nat), .int .u64 ((rrRec s).key : Nat), .int .u32 ((rrRec s).x : Nat), .int .u32 ((rrRec s).y : Nat), .string (strOf (rrRec s).val), .bool (rrRec s).ghost], .bool true]) ∧ Rdr w' g (q6 s).1 (q6 s).2 ∧ w.grownBy w' (some g)
/-- None came back, and the reader stands where it stood. -/
def RrNo (w : World) (g : Nat) (s : RS) (e : Ending) (w' : World) : Prop :=
  e = .returned (.tuple #[.agg #[.int .u64 (zrc.id : Nat), .int .u64 (zrc.key : Nat), .int .u32 (zrc.x : Nat), .int .u32 (zrc.y : Nat), .string (strOf zrc.val), .bool zrc.ghost], .bool false]) ∧ Rdr w' g s.1 s.2 ∧ w.grownBy w' (some g)

def Rr (w : World) (g : Nat) (s : RS) (e : Ending) (w' : World) : Prop := if rrOk s = true then RrYes w g s e w' else RrNo w g s e w'

set_option maxHeartbeats 3200000 in
theorem readRec_any (g : Nat) (s : RS) (w : World) (hr : Rdr w g s.1 s.2) (hl : s.1.length ≤ 10000) :
    Calls Tryd.prog 84 #[.pointer (some ⟨g, 0, none⟩)] w (Rr w g s) := by
  have hmf : ∀ (fn : Fn) (first cap : Array Value) (w : World), (Instr.makeFunc fn first cap).run Tryd.prog w = .ok (.func fn first cap) w := fun _ _ _ _ => rfl
  have hgl := hr.lt
  obtain ⟨A, c, hat, hli, hcc, hcm⟩ := id hr
  have RX : Hid (At (((w.alloc (.cells #[.pointer (some ⟨g, 0, none⟩)] 124)).alloc (.cells #[.int .u64 0, .int .u64 0, .int .u32 0, .int .u32 0, .string ⟨#[]⟩, .bool false] 38)).alloc (.cells #[.bool false] 4)) g 135 #[.slice A s.1.length c, .bool s.2]) := Lib.hid (((At.alloc (show At w g 135 _ from hat) _).alloc _).alloc _)
  have R0 : Hid (RRS w g #[.int .u64 0, .int .u64 0, .int .u32 0, .int .u32 0, .string ⟨#[]⟩, .bool false] (.slice A s.1.length c) (.bool s.2) s ((((w.alloc (.cells #[.pointer (some ⟨g, 0, none⟩)] 124)).alloc (.cells #[.int .u64 0, .int .u64 0, .int .u32 0, .int .u32 0, .string ⟨#[]⟩, .bool false] 38)).alloc (.cells #[.bool false] 4)).alloc (.cells #[.slice A s.1.length c, .bool s.2] 135))) := by
    have hb : Below w.heap.size w ((((w.alloc (.cells #[.pointer (some ⟨g, 0, none⟩)] 124)).alloc (.cells #[.int .u64 0, .int .u64 0, .int .u32 0, .int .u32 0, .string ⟨#[]⟩, .bool false] 38)).alloc (.cells #[.bool false] 4)).alloc (.cells #[.slice A s.1.length c, .bool s.2] 135)) :=
      ((((Below.refl _ _).alloc (Nat.le_refl _) _).alloc (by simp) _).alloc (by simp; omega) _).alloc (by simp; omega) _
    refine ⟨(((At.new w 124 _).alloc _).alloc _).alloc _, ?_, ?_, ?_, hr.below hb, hgl, grown_below hb _⟩
    · have := ((At.new (w.alloc (.cells #[.pointer (some ⟨g, 0, none⟩)] 124)) 38 #[.int .u64 0, .int .u64 0, .int .u32 0, .int .u32 0, .string ⟨#[]⟩, .bool false]).alloc (.cells #[.bool false] 4)).alloc (.cells #[.slice A s.1.length c, .bool s.2] 135)
      simpa using this
    · have := (At.new ((w.alloc (.cells #[.pointer (some ⟨g, 0, none⟩)] 124)).alloc (.cells #[.int .u64 0, .int .u64 0, .int .u32 0, .int .u32 0, .string ⟨#[]⟩, .bool false] 38)) 4 #[.bool false]).alloc (.cells #[.slice A s.1.length c, .bool s.2] 135)
      simpa using this
    · have := At.new (((w.alloc (.cells #[.pointer (some ⟨g, 0, none⟩)] 124)).alloc (.cells #[.int .u64 0, .int .u64 0, .int .u32 0, .int .u32 0, .string ⟨#[]⟩, .bool false] 38)).alloc (.cells #[.bool false] 4)) 135 #[.slice A s.1.length c, .bool s.2]
      simpa using this
  have HAT := Lib.hid hat
  have HLI := Lib.hid hli
  clear hat hli
  go_enter_defers Tryd.func84, Tryd.ntmps84
  go_wp2_with (first
    | refine wpList_load_at 135 11 (.tmp 10) rfl rfl rfl g rfl _ 2 str69 rfl RX.out ?_
    | refine wpList_store_new 135 (.tmp 4) (.tmp 11) rfl rfl rfl _ (((w.alloc (.cells #[.pointer (some ⟨g, 0, none⟩)] 124)).alloc (.cells #[.int .u64 0, .int .u64 0, .int .u32 0, .int .u32 0, .string ⟨#[]⟩, .bool false] 38)).alloc (.cells #[.bool false] 4)) (by simp) rfl #[.slice A s.1.length c, .bool s.2] _ 2 rfl str69 rfl rfl (pair_one _ _ rfl rfl) rfl ?_)
  generalize hW : (((w.alloc (.cells #[.pointer (some ⟨g, 0, none⟩)] 124)).alloc (.cells #[.int .u64 0, .int .u64 0, .int .u32 0, .int .u32 0, .string ⟨#[]⟩, .bool false] 38)).alloc (.cells #[.bool false] 4)).alloc (.cells #[.slice A s.1.length c, .bool s.2] 135) = w4 at *
  clear hW RX
  have hx := u32_nat (vl_lt4 (q2 s))
  have hy := u32_nat (vl_lt4 (q3 s))
  have gg : ((vl 1 (q4 s) : Int) == 1) = (vl 1 (q4 s) == 1) := nat_beq _ 1
  have N1 := Lib.hid (Nat.le_trans (nx_len 8 s) hl)
  have N2 := Lib.hid (Nat.le_trans (nx_len 8 (q1 s)) N1.out)
  have N3 := Lib.hid (Nat.le_trans (nx_len 4 (q2 s)) N2.out)
  have N4 := Lib.hid (Nat.le_trans (nx_len 4 (q3 s)) N3.out)
  have N5 := Lib.hid (Nat.le_trans (nx_len 1 (q4 s)) N4.out)
  have cr : w4.cell? ⟨w.heap.size, 0, none⟩ = some (.pointer (some ⟨g, 0, none⟩)) := R0.out.r.cell 0
  go_wp2_with fail
  refine (num_st g 8 s _ R0.out.rdr hl).mono ?_
  rintro e x1 ⟨rfl, hrd, hgr⟩
  have T := R0.out.call hrd hgr
  have cc : x1.cell? ⟨w.heap.size + 1, 0, none⟩ = some (.int .u64 0) := T.rcd.cell 0
  have ff : x1.frozen? ⟨w.heap.size + 1, 0, none⟩ = false := T.rcd.frozen 0
  have R1 : Hid (RRS w g #[.int .u64 (vl 8 s : Int), .int .u64 0, .int .u32 0, .int .u32 0, .string ⟨#[]⟩, .bool false] (.slice A s.1.length c) (.bool s.2) (q1 s) (x1.setCell ⟨w.heap.size + 1, 0, none⟩ (.int .u64 (vl 8 s : Int)))) := Lib.hid (T.set 0 _)
  have cr1 : (x1.setCell ⟨w.heap.size + 1, 0, none⟩ (.int .u64 (vl 8 s : Int))).cell? ⟨w.heap.size, 0, none⟩ = some (.pointer (some ⟨g, 0, none⟩)) := R1.out.r.cell 0
  clear T hrd hgr R0
  go_wp2_with fail
  clear cc ff cr1
  refine (num_st g 8 (q1 s) _ R1.out.rdr N1.out).mono ?_
  rintro e x2 ⟨rfl, hrd, hgr⟩
  have T := R1.out.call hrd hgr
  have cc : x2.cell? ⟨w.heap.size + 1, 1, none⟩ = some (.int .u64 0) := T.rcd.cell 1
  have ff : x2.frozen? ⟨w.heap.size + 1, 1, none⟩ = false := T.rcd.frozen 1
  have R2 : Hid (RRS w g #[.int .u64 (vl 8 s : Int), .int .u64 (vl 8 (q1 s) : Int), .int .u32 0, .int .u32 0, .string ⟨#[]⟩, .bool false] (.slice A s.1.length c) (.bool s.2) (q2 s) (x2.setCell ⟨w.heap.size + 1, 1, none⟩ (.int .u64 (vl 8 (q1 s) : Int)))) := Lib.hid (T.set 1 _)
  have cr2 : (x2.setCell ⟨w.heap.size + 1, 1, none⟩ (.int .u64 (vl 8 (q1 s) : Int))).cell? ⟨w.heap.size, 0, none⟩ = some (.pointer (some ⟨g, 0, none⟩)) := R2.out.r.cell 0
  clear T hrd hgr R1
  go_wp2_with fail
  clear cc ff cr2
  refine (num_st g 4 (q2 s) _ R2.out.rdr N2.out).mono ?_
  rintro e x3 ⟨rfl, hrd, hgr⟩
  have T := R2.out.call hrd hgr
  have cc : x3.cell? ⟨w.heap.size + 1, 2, none⟩ = some (.int .u32 0) := T.rcd.cell 2
  have ff : x3.frozen? ⟨w.heap.size + 1, 2, none⟩ = false := T.rcd.frozen 2
  have R3 : Hid (RRS w g #[.int .u64 (vl 8 s : Int), .int .u64 (vl 8 (q1 s) : Int), .int .u32 (vl 4 (q2 s) : Int), .int .u32 0, .string ⟨#[]⟩, .bool false] (.slice A s.1.length c) (.bool s.2) (q3 s) (x3.setCell ⟨w.heap.size + 1, 2, none⟩ (.int .u32 (vl 4 (q2 s) : Int)))) := Lib.hid (T.set 2 _)
  have cr3 : (x3.setCell ⟨w.heap.size + 1, 2, none⟩ (.int .u32 (vl 4 (q2 s) : Int))).cell? ⟨w.heap.size, 0, none⟩ = some (.pointer (some ⟨g, 0, none⟩)) := R3.out.r.cell 0
  clear T hrd hgr R2
  go_wp2_with fail
  clear cc ff cr3
  refine (num_st g 4 (q3 s) _ R3.out.rdr N3.out).mono ?_
  rintro e x4 ⟨rfl, hrd, hgr⟩
  have T := R3.out.call hrd hgr
  have cc : x4.cell? ⟨w.heap.size + 1, 3, none⟩ = some (.int .u32 0) := T.rcd.cell 3
  have ff : x4.frozen? ⟨w.heap.size + 1, 3, none⟩ = false := T.rcd.frozen 3
  have R4 : Hid (RRS w g #[.int .u64 (vl 8 s : Int), .int .u64 (vl 8 (q1 s) : Int), .int .u32 (vl 4 (q2 s) : Int), .int .u32 (vl 4 (q3 s) : Int), .string ⟨#[]⟩, .bool false] (.slice A s.1.length c) (.bool s.2) (q4 s) (x4.setCell ⟨w.heap.size + 1, 3, none⟩ (.int .u32 (vl 4 (q3 s) : Int)))) := Lib.hid (T.set 3 _)
  have cr4 : (x4.setCell ⟨w.heap.size + 1, 3, none⟩ (.int .u32 (vl 4 (q3 s) : Int))).cell? ⟨w.heap.size, 0, none⟩ = some (.pointer (some ⟨g, 0, none⟩)) := R4.out.r.cell 0
  clear T hrd hgr R3
  go_wp2_with fail
  clear cc ff cr4
  refine (num_st g 1 (q4 s) _ R4.out.rdr N4.out).mono ?_
  rintro e x5 ⟨rfl, hrd, hgr⟩
  have T := R4.out.call hrd hgr
  have cc : x5.cell? ⟨w.heap.size + 1, 5, none⟩ = some (.bool false) := T.rcd.cell 5
  have ff : x5.frozen? ⟨w.heap.size + 1, 5, none⟩ = false := T.rcd.frozen 5
  have R5 : Hid (RRS w g #[.int .u64 (vl 8 s : Int), .int .u64 (vl 8 (q1 s) : Int), .int .u32 (vl 4 (q2 s) : Int), .int .u32 (vl 4 (q3 s) : Int), .string ⟨#[]⟩, .bool (vl 1 (q4 s) == 1)] (.slice A s.1.length c) (.bool s.2) (q5 s) (x5.setCell ⟨w.heap.size + 1, 5, none⟩ (.bool (vl 1 (q4 s) == 1)))) := Lib.hid (T.set 5 _)
  have cr5 : (x5.setCell ⟨w.heap.size + 1, 5, none⟩ (.bool (vl 1 (q4 s) == 1))).cell? ⟨w.heap.size, 0, none⟩ = some (.pointer (some ⟨g, 0, none⟩)) := R5.out.r.cell 0
  clear T hrd hgr R4
  go_wp2_with fail
  clear cc ff cr5
  refine (rtext_st g (q5 s) _ R5.out.rdr N5.out).mono ?_
  rintro e x6 ⟨rfl, hrd, hgr⟩
  have T := R5.out.call hrd hgr
  have cc : x6.cell? ⟨w.heap.size + 1, 4, none⟩ = some (.string ⟨#[]⟩) := T.rcd.cell 4
  have ff : x6.frozen? ⟨w.heap.size + 1, 4, none⟩ = false := T.rcd.frozen 4
  have R6 : Hid (RRS w g #[.int .u64 (vl 8 s : Int), .int .u64 (vl 8 (q1 s) : Int), .int .u32 (vl 4 (q2 s) : Int), .int .u32 (vl 4 (q3 s) : Int), .string (strOf (txt (q5 s))), .bool (vl 1 (q4 s) == 1)] (.slice A s.1.length c) (.bool s.2) (q6 s) (x6.setCell ⟨w.heap.size + 1, 4, none⟩ (.string (strOf (txt (q5 s)))))) := Lib.hid (T.set 4 _)
  have cr6 : (x6.setCell ⟨w.heap.size + 1, 4, none⟩ (.string (strOf (txt (q5 s))))).cell? ⟨w.heap.size, 0, none⟩ = some (.pointer (some ⟨g, 0, none⟩)) := R6.out.r.cell 0
  clear T hrd hgr R5
  go_wp2_with fail
  clear cc ff cr6
  generalize hY : x6.setCell ⟨w.heap.size + 1, 4, none⟩ (.string (strOf (txt (q5 s)))) = y at *
  clear hY
  have ONE : Hid ((#[.int .u64 (vl 8 s : Int), .int .u64 (vl 8 (q1 s) : Int), .int .u32 (vl 4 (q2 s) : Int), .int .u32 (vl 4 (q3 s) : Int), .string (strOf (txt (q5 s))), .bool (vl 1 (q4 s) == 1)] : Array Value).all (·.oneCell') = true) := by
    have := rc_one (rrRec s)
    exact this
  obtain ⟨z, hz⟩ : ∃ z, (q6 s).2 = z := ⟨_, rfl⟩
  have HZ := Lib.hid hz
  clear hz
  obtain ⟨y0, y1⟩ : (∃ bz, bz = (!z && decide ((vl 1 (q4 s) : Int) ≤ 1))) ∧ True := ⟨⟨_, rfl⟩, trivial⟩
  obtain ⟨bz, hbz⟩ := y0
  have HBZ := Lib.hid hbz
  clear hbz y1
  cases z with
  | false =>
    have hbz : decide ((vl 1 (q4 s) : Int) ≤ 1) = bz := by have := HBZ.out; simpa using this.symm
    refine region_only (S := fun z => At z (w.heap.size + 1) 38 #[.int .u64 (vl 8 s : Int), .int .u64 (vl 8 (q1 s) : Int), .int .u32 (vl 4 (q2 s) : Int), .int .u32 (vl 4 (q3 s) : Int), .string (strOf (txt (q5 s))), .bool (vl 1 (q4 s) == 1)] ∧ At z w.heap.size 124 #[.pointer (some ⟨g, 0, none⟩)]) (by kernel_rfl) ⟨R6.out.rcd, R6.out.r⟩ (fun hS => ?_)
    refine takeH (i := 0) (d := 35) (v := .agg #[.int .u64 (vl 8 s : Int), .int .u64 (vl 8 (q1 s) : Int), .int .u32 (vl 4 (q2 s) : Int), .int .u32 (vl 4 (q3 s) : Int), .string (strOf (txt (q5 s))), .bool (vl 1 (q4 s) == 1)]) rfl (by kernel_rfl) (by kernel_rfl) (by kernel_rfl) (fun _ _ _ h => h) rfl (by rfl) ?ya0 hS ?ra0
    case ya0 => (intro wz hz; exact exec_load_at 38 (.tmp 2) rfl (w.heap.size + 1) rfl _ 6 str25 rfl hz.1)
    simp only [List.setIfInBounds_toArray, List.set_cons_zero, List.set_cons_succ]
    refine takeH (i := 1) (d := 36) (v := .pointer (some ⟨g, 0, none⟩)) rfl (by kernel_rfl) (by kernel_rfl) (by kernel_rfl) (fun _ _ _ h => h) rfl (by rfl) ?ya1 hS ?ra1
    case ya1 => (intro wz hz; have hz2 : wz.cell? ⟨w.heap.size, 0, none⟩ = some (.pointer (some ⟨g, 0, none⟩)) := hz.2.cell 0; go_simp <;> with_reducible rfl)
    simp only [List.setIfInBounds_toArray, List.set_cons_zero, List.set_cons_succ]
    refine wpAnyH_ready (rs := [2]) (by kernel_rfl) (by simp) ?_
    refine AllReadyH.cons rfl (fun K hK => ?_) AllReadyH.nil
    go_simp
    refine (right_any g (q6 s).1 (q6 s).2 y.drew (R6.out.rdr.kept (fun _ _ => rfl))).mono ?_
    rintro e wq ⟨rfl, rfl⟩
    rw [HZ.out]
    refine hK.out _ _ (hS) (fun hT => ?_)
    clear hK  hS
    have hS := hT
    clear hT
    refine takeH (i := 3) (d := 38) (v := ?va3) rfl (by kernel_rfl) (by kernel_rfl) (by kernel_rfl) (fun _ _ _ h => h) rfl (by rfl) ?ya3 hS ?ra3
    case ya3 => (intro wz hz; go_simp <;> with_reducible rfl)
    simp only [List.setIfInBounds_toArray, List.set_cons_zero, List.set_cons_succ]
    refine takeH (i := 4) (d := 39) (v := ?va4) rfl (by kernel_rfl) (by kernel_rfl) (by kernel_rfl) (fun _ _ _ h => h) rfl (by rfl) ?ya4 hS ?ra4
    case ya4 => (intro wz hz; go_simp <;> with_reducible rfl)
    simp only [List.setIfInBounds_toArray, List.set_cons_zero, List.set_cons_succ]
    refine takeH (i := 5) (d := 40) (v := ?va5) rfl (by kernel_rfl) (by kernel_rfl) (by kernel_rfl) (fun _ _ _ h => h) rfl (by rfl) ?ya5 hS ?ra5
    case ya5 => (intro wz hz; go_simp <;> with_reducible rfl)
    simp only [List.setIfInBounds_toArray, List.set_cons_zero, List.set_cons_succ]
    refine takeH (i := 6) (d := 41) (v := ?va6) rfl (by kernel_rfl) (by kernel_rfl) (by kernel_rfl) (fun _ _ _ h => h) rfl (by rfl) ?ya6 hS ?ra6
    case ya6 => (intro wz hz; go_simp <;> with_reducible rfl)
    simp only [List.setIfInBounds_toArray, List.set_cons_zero, List.set_cons_succ]
    refine wpAnyH_ready (rs := [7]) (by kernel_rfl) (by simp) ?_
    refine AllReadyH.cons rfl (fun K hK => ?_) AllReadyH.nil
    refine wp_store_at 38 (.tmp 2) (.tmp 35) rfl rfl (w.heap.size + 1) rfl #[.int .u64 (vl 8 s : Int), .int .u64 (vl 8 (q1 s) : Int), .int .u32 (vl 4 (q2 s) : Int), .int .u32 (vl 4 (q3 s) : Int), .string (strOf (txt (q5 s))), .bool (vl 1 (q4 s) == 1)] #[.int .u64 (vl 8 s : Int), .int .u64 (vl 8 (q1 s) : Int), .int .u32 (vl 4 (q2 s) : Int), .int .u32 (vl 4 (q3 s) : Int), .string (strOf (txt (q5 s))), .bool (vl 1 (q4 s) == 1)] 6 rfl str25 rfl rfl ONE.out hS.1 ?_
    intro y7 h7 g7
    have F7 := Lib.hid (RRS.same (y := y) R6.out h7 g7)
    have c7 : y7.cell? ⟨w.heap.size + 1 + 1, 0, none⟩ = some (.bool false) := F7.out.ok.cell 0
    have f7 : y7.frozen? ⟨w.heap.size + 1 + 1, 0, none⟩ = false := F7.out.ok.frozen 0
    clear h7 g7
    refine hK.out _ _ (⟨F7.out.rcd, F7.out.r⟩) (fun hT => ?_)
    clear hK  hS
    have hS := hT
    clear hT
    refine wpAnyH_ready (rs := [8]) (by kernel_rfl) (by simp) ?_
    refine AllReadyH.cons rfl (fun K hK => ?_) AllReadyH.nil
    go_simp
    have h8 := F7.out.setOk bz
    refine hK.out _ _ (⟨h8.rcd, h8.r⟩) (fun hT => ?_)
    clear hK  hS
    have hS := hT
    clear hT
    refine wpAnyH_done (by kernel_rfl) ?_ _
    refine only_done ?_
    have H8 := Lib.hid h8
    clear h8 F7 c7 f7 hS
    go_wp2_with fail
    have h8 := H8.out
    refine leaves_cons (f := 94) (args := #[.pointer (some ⟨w.heap.size + 1 + 1, 0, none⟩), .pointer (some ⟨w.heap.size + 1 + 1 + 1, 0, none⟩), .pointer (some ⟨w.heap.size + 1, 0, none⟩), .pointer (some ⟨w.heap.size, 0, none⟩)]) (by simp) (by simp [go_sem]) ?_
    cases bz with
    | true =>
      have hok : rrOk s = true := by
        have := hbz
        rw [rrOk, HZ.out]
        simp at this ⊢
        omega
      refine (clo_yes _ _ _ _ .returning _ (h8.ok.cell 0)).mono ?_
      rintro e u' w9 ⟨rfl, rfl, rfl⟩
      refine ⟨_, results_rr rfl rfl h8.rcd rfl h8.ok rfl, ?_⟩
      rw [Rr, if_pos hok]
      exact ⟨rfl, h8.rdr, h8.frame⟩
    | false =>
      have hok : ¬ rrOk s = true := by
        have := hbz
        rw [rrOk, HZ.out]
        simp at this ⊢
        omega
      obtain ⟨A8, c8, hat8, _⟩ := id h8.rdr
      refine (clo_no _ _ _ _ g .returning _ _ _ _ _ (h8.ok.cell 0) (h8.r.cell 0) h8.bef rfl rfl h8.rcd hat8 rfl rfl (by omega)).mono ?_
      rintro e u' w9 ⟨rfl, rfl, u1, u2, u3, u4, u5, u6, u7⟩
      have hfr := h8.frame
      have hok9 : At w9 (w.heap.size + 2) 4 #[.bool false] := (u3 _ h8.ok.lt (by omega) (by omega)).trans h8.ok
      refine ⟨_, results_rr rfl rfl u1 rfl hok9 rfl, ?_⟩
      rw [Rr, if_neg hok]
      refine ⟨rfl, ⟨A, c, u2, HLI.out.of_cells fun p hp => World.cell?_of_block ?_, hcc, hcm⟩, ⟨u4.trans hfr.os, u5.trans hfr.tape, u6.trans hfr.output, Nat.le_trans hfr.size u7, fun k hk hne => ?_⟩⟩
      · rw [u3 p.block (by have := hfr.size; omega) (by omega) (by omega)]
        exact hfr.block p.block (by omega) (by intro e; injection e with e; omega)
      · rw [u3 k (by have := hfr.size; omega) (by omega) (fun e => hne (by rw [e]))]
        exact hfr.block k hk hne
  | true =>
    refine region_only (S := fun z => At z (w.heap.size + 1) 38 #[.int .u64 (vl 8 s : Int), .int .u64 (vl 8 (q1 s) : Int), .int .u32 (vl 4 (q2 s) : Int), .int .u32 (vl 4 (q3 s) : Int), .string (strOf (txt (q5 s))), .bool (vl 1 (q4 s) == 1)] ∧ At z w.heap.size 124 #[.pointer (some ⟨g, 0, none⟩)]) (by kernel_rfl) ⟨R6.out.rcd, R6.out.r⟩ (fun hS => ?_)
    refine takeH (i := 0) (d := 35) (v := .agg #[.int .u64 (vl 8 s : Int), .int .u64 (vl 8 (q1 s) : Int), .int .u32 (vl 4 (q2 s) : Int), .int .u32 (vl 4 (q3 s) : Int), .string (strOf (txt (q5 s))), .bool (vl 1 (q4 s) == 1)]) rfl (by kernel_rfl) (by kernel_rfl) (by kernel_rfl) (fun _ _ _ h => h) rfl (by rfl) ?yb0 hS ?rb0
    case yb0 => (intro wz hz; exact exec_load_at 38 (.tmp 2) rfl (w.heap.size + 1) rfl _ 6 str25 rfl hz.1)
    simp only [List.setIfInBounds_toArray, List.set_cons_zero, List.set_cons_succ]
    refine takeH (i := 1) (d := 36) (v := .pointer (some ⟨g, 0, none⟩)) rfl (by kernel_rfl) (by kernel_rfl) (by kernel_rfl) (fun _ _ _ h => h) rfl (by rfl) ?yb1 hS ?rb1
    case yb1 => (intro wz hz; have hz2 : wz.cell? ⟨w.heap.size, 0, none⟩ = some (.pointer (some ⟨g, 0, none⟩)) := hz.2.cell 0; go_simp <;> with_reducible rfl)
    simp only [List.setIfInBounds_toArray, List.set_cons_zero, List.set_cons_succ]
    refine wpAnyH_ready (rs := [2]) (by kernel_rfl) (by simp) ?_
    refine AllReadyH.cons rfl (fun K hK => ?_) AllReadyH.nil
    go_simp
    refine (right_any g (q6 s).1 (q6 s).2 y.drew (R6.out.rdr.kept (fun _ _ => rfl))).mono ?_
    rintro e wq ⟨rfl, rfl⟩
    rw [HZ.out]
    refine hK.out _ _ (hS) (fun hT => ?_)
    clear hK  hS
    have hS := hT
    clear hT
    refine takeH (i := 3) (d := 38) (v := ?vb3) rfl (by kernel_rfl) (by kernel_rfl) (by kernel_rfl) (fun _ _ _ h => h) rfl (by rfl) ?yb3 hS ?rb3
    case yb3 => (intro wz hz; go_simp <;> with_reducible rfl)
    simp only [List.setIfInBounds_toArray, List.set_cons_zero, List.set_cons_succ]
    refine skipH (i := 4) (d := 39) rfl (by kernel_rfl) (by kernel_rfl) (by kernel_rfl) (fun _ _ _ h => h) rfl (by rfl) hS ?_
    simp only [List.setIfInBounds_toArray, List.set_cons_zero, List.set_cons_succ]
    refine skipH (i := 5) (d := 40) rfl (by kernel_rfl) (by kernel_rfl) (by kernel_rfl) (fun _ _ _ h => h) rfl (by rfl) hS ?_
    simp only [List.setIfInBounds_toArray, List.set_cons_zero, List.set_cons_succ]
    refine takeH (i := 6) (d := 41) (v := ?vb6) rfl (by kernel_rfl) (by kernel_rfl) (by kernel_rfl) (fun _ _ _ h => h) rfl (by rfl) ?yb6 hS ?rb6
    case yb6 => (intro wz hz; go_simp <;> with_reducible rfl)
    simp only [List.setIfInBounds_toArray, List.set_cons_zero, List.set_cons_succ]
    refine wpAnyH_ready (rs := [7]) (by kernel_rfl) (by simp) ?_
    refine AllReadyH.cons rfl (fun K hK => ?_) AllReadyH.nil
    refine wp_store_at 38 (.tmp 2) (.tmp 35) rfl rfl (w.heap.size + 1) rfl #[.int .u64 (vl 8 s : Int), .int .u64 (vl 8 (q1 s) : Int), .int .u32 (vl 4 (q2 s) : Int), .int .u32 (vl 4 (q3 s) : Int), .string (strOf (txt (q5 s))), .bool (vl 1 (q4 s) == 1)] #[.int .u64 (vl 8 s : Int), .int .u64 (vl 8 (q1 s) : Int), .int .u32 (vl 4 (q2 s) : Int), .int .u32 (vl 4 (q3 s) : Int), .string (strOf (txt (q5 s))), .bool (vl 1 (q4 s) == 1)] 6 rfl str25 rfl rfl ONE.out hS.1 ?_
    intro y7 h7 g7
    have F7 := Lib.hid (RRS.same (y := y) R6.out h7 g7)
    have c7 : y7.cell? ⟨w.heap.size + 1 + 1, 0, none⟩ = some (.bool false) := F7.out.ok.cell 0
    have f7 : y7.frozen? ⟨w.heap.size + 1 + 1, 0, none⟩ = false := F7.out.ok.frozen 0
    clear h7 g7
    refine hK.out _ _ (⟨F7.out.rcd, F7.out.r⟩) (fun hT => ?_)
    clear hK  hS
    have hS := hT
    clear hT
    refine wpAnyH_ready (rs := [8]) (by kernel_rfl) (by simp) ?_
    refine AllReadyH.cons rfl (fun K hK => ?_) AllReadyH.nil
    go_simp
    have h8 := F7.out.setOk false
    refine hK.out _ _ (⟨h8.rcd, h8.r⟩) (fun hT => ?_)
    clear hK  hS
    have hS := hT
    clear hT
    refine wpAnyH_done (by kernel_rfl) ?_ _
    refine only_done ?_
    have H8 := Lib.hid h8
    clear h8 F7 c7 f7 hS
    go_wp2_with fail
    have h8 := H8.out
    refine leaves_cons (f := 94) (args := #[.pointer (some ⟨w.heap.size + 1 + 1, 0, none⟩), .pointer (some ⟨w.heap.size + 1 + 1 + 1, 0, none⟩), .pointer (some ⟨w.heap.size + 1, 0, none⟩), .pointer (some ⟨w.heap.size, 0, none⟩)]) (by simp) (by simp [go_sem]) ?_
    have hok : ¬ rrOk s = true := by
      rw [rrOk, HZ.out]
      simp
    obtain ⟨A8, c8, hat8, _⟩ := id h8.rdr
    refine (clo_no _ _ _ _ g .returning _ _ _ _ _ (h8.ok.cell 0) (h8.r.cell 0) h8.bef rfl rfl h8.rcd hat8 rfl rfl (by omega)).mono ?_
    rintro e u' w9 ⟨rfl, rfl, u1, u2, u3, u4, u5, u6, u7⟩
    have hfr := h8.frame
    have hok9 : At w9 (w.heap.size + 2) 4 #[.bool false] := (u3 _ h8.ok.lt (by omega) (by omega)).trans h8.ok
    refine ⟨_, results_rr rfl rfl u1 rfl hok9 rfl, ?_⟩
    rw [Rr, if_neg hok]
    refine ⟨rfl, ⟨A, c, u2, HLI.out.of_cells fun p hp => World.cell?_of_block ?_, hcc, hcm⟩, ⟨u4.trans hfr.os, u5.trans hfr.tape, u6.trans hfr.output, Nat.le_trans hfr.size u7, fun k hk hne => ?_⟩⟩
    · rw [u3 p.block (by have := hfr.size; omega) (by omega) (by omega)]
      exact hfr.block p.block (by omega) (by intro e; injection e with e; omega)
    · rw [u3 k (by have := hfr.size; omega) (by omega) (fun e => hne (by rw [e]))]
      exact hfr.block k hk hne
end Go.Proofs.YthicidpdgggbjaaDoor

/-
  Walks: bytes.HasSuffix of one zero byte, copy onto a page, readPage.
  Conditions: readers over at most 10000 bytes.
-/

namespace Go.Proofs.YthicidpdgggbjaaDoor
open Go.RowKit
set_option maxRecDepth 8000

def splice {α : Type} (L : List α) (o : Nat) (cs : List α) : List α := L.take o ++ cs ++ L.drop (o + cs.length)
theorem splice_get {α : Type} (L : List α) (o : Nat) (cs : List α) (i : Nat) (h : o + cs.length ≤ L.length) : (splice L o cs)[i]? = if o ≤ i ∧ i < o + cs.length then cs[i - o]? else L[i]? := by
  have hlt : (L.take o).length = o := by rw [List.length_take]; omega
  unfold splice
  by_cases h1 : i < o
  · rw [if_neg (by omega), List.append_assoc, List.getElem?_append_left (by omega), List.getElem?_take_of_lt h1]
  · by_cases h2 : i < o + cs.length
    · rw [if_pos ⟨by omega, h2⟩, List.append_assoc, List.getElem?_append_right (by omega), hlt, List.getElem?_append_left (by omega)]
    · rw [if_neg (by omega), List.getElem?_append_right (by rw [List.length_append]; omega), List.length_append, hlt, List.getElem?_drop]
      congr 1
      omega
theorem setCells_row (b : Nat) (t : TypeId) : ∀ (vs : List Value) (o : Nat) (cur : List Value) (w : World), w.heap[b]? = some (.cells cur.toArray t (0, 0)) → o + vs.length ≤ cur.length →
    (w.setCells b o vs).heap[b]? = some (.cells (splice cur o vs).toArray t (0, 0))
  | [], o, cur, w, h, _ => by simpa [World.setCells, splice] using h
  | v :: r, o, cur, w, h, hl => by
    simp only [List.length_cons] at hl
    have h1 := heap_setCell_same w b o cur.toArray t v h
    rw [List.setIfInBounds_toArray] at h1
    rw [World.setCells, setCells_row b t r (o + 1) (cur.set o v) _ h1 (by rw [List.length_set]; omega)]
    congr 3
    apply List.ext_getElem?
    intro i
    rw [splice_get _ _ _ _ (by rw [List.length_set]; omega), splice_get _ _ _ _ (by simp; omega)]
    simp only [List.length_cons]
    by_cases h2 : i = o
    · subst h2
      rw [if_neg (by omega), if_pos (by omega), Nat.sub_self, List.getElem?_set_self (by omega)]
      rfl
    · by_cases h3 : o + 1 ≤ i ∧ i < o + 1 + r.length
      · rw [if_pos h3, if_pos (by omega), show i - o = (i - (o + 1)) + 1 from by omega, List.getElem?_cons_succ]
      · rw [if_neg h3, if_neg (by omega), List.getElem?_set_ne (by omega)]
theorem setCells_heap (b : Nat) : ∀ (vs : List Value) (o : Nat) (w : World) (k : Nat), k ≠ b → (w.setCells b o vs).heap[k]? = w.heap[k]?
  | [], _, _, _, _ => rfl
  | v :: r, o, w, k, h => by
    rw [World.setCells, setCells_heap b r (o + 1) _ k h, Below.heap_setCell _ _ _ _ h]
theorem setCells_size (b : Nat) : ∀ (vs : List Value) (o : Nat) (w : World), (w.setCells b o vs).heap.size = w.heap.size
  | [], _, _ => rfl
  | v :: r, o, w => by rw [World.setCells, setCells_size b r]; simp [World.setCell]
theorem setCells_rest (b : Nat) : ∀ (vs : List Value) (o : Nat) (w : World), (w.setCells b o vs).os = w.os ∧ (w.setCells b o vs).tape = w.tape ∧ (w.setCells b o vs).output = w.output
  | [], _, _ => ⟨rfl, rfl, rfl⟩
  | v :: r, o, w => by rw [World.setCells]; exact setCells_rest b r (o + 1) _
theorem grown_setCells (w : World) (g o : Nat) (vs : List Value) : w.grownBy (w.setCells g o vs) (some g) := by
  obtain ⟨h1, h2, h3⟩ := setCells_rest g vs o w
  exact ⟨h1, h2, h3, by rw [setCells_size]; exact Nat.le_refl _, fun k _ hk => setCells_heap g vs o w k (fun e => hk (by rw [e]))⟩

theorem pad_splice (z : Int) (l : List UInt8) (h : l.length ≤ 224) : splice (imL ⟨z, zpg⟩) 1 (BC l) = imL ⟨z, padPg l⟩ := by
  have e0 : zpg.toList = List.replicate 224 0 := by rw [zpg, padPg_toList [] (by simp)]; simp
  unfold splice
  simp only [imL]
  rw [padPg_toList l h, e0, BC_append, BC_length, Nat.add_comm 1 l.length, List.drop_succ_cons, BC_drop, List.drop_replicate]
  rfl
/-- copy(p[:], l) onto a page that is zero. -/
theorem wpList_copy_im {ops : Array Oper} {rest : List Oper} {op : Oper} {a : Act} {w : World} {Q : Exit → Act → World → Prop} (r : Nat) (d s : Operand) (hop : op.dst = some r) (hgd : op.guard = none)
    (ho : op.op = .call { callee := .builtin .copy, args := #[d, s], argTypes := #[59, 59] }) (g B n c : Nat) (A : Option Addr) (z : Int) (l : List UInt8)
    (hd : a.eval d = .slice (some ⟨g, 1, none⟩) 224 224) (hs : a.eval s = .slice A n c) (hg : At w g 98 (imA ⟨z, zpg⟩)) (hl : Lies w B 1 A n (BC l)) (hn : n ≤ 224)
    (h : ∀ w', At w' g 98 (imA ⟨z, padPg l⟩) → w.grownBy w' (some g) → wpList Tryd.prog ops Q rest (a.put (some r) (goInt n)) w') : wpList Tryd.prog ops Q (op :: rest) a w := by
  have hln : l.length = n := by have := hl.len; rw [BC_length] at this; omega
  have hrun : ∃ w', (Builtin.copy_ #[59, 59] op.type #[.slice (some ⟨g, 1, none⟩) 224 224, .slice A n c]).run Tryd.prog w = .ok (goInt n) w' ∧ At w' g 98 (imA ⟨z, padPg l⟩) ∧ w.grownBy w' (some g) := by
    cases A with
    | none =>
      have h0 : n = 0 := by
        by_cases h0 : n = 0
        · exact h0
        · obtain ⟨a, ha, _⟩ := hl.spot (by omega)
          cases ha
      subst h0
      have : l = [] := List.eq_nil_of_length_eq_zero hln
      subst this
      refine ⟨w, ?_, hg, grown_refl w _⟩
      simp [Builtin.copy_, go_sem, goInt]
    | some ad =>
      have hc : ∀ j v, (BC l)[j]? = some v → w.cell? (ad.add j) = some v := by
        intro j v hv
        have hj : j < n := by
          rcases Nat.lt_or_ge j n with hj | hj
          · exact hj
          · rw [List.getElem?_eq_none (by rw [BC_length]; omega)] at hv
            cases hv
        obtain ⟨a', ha, _, hx⟩ := hl.spot (by omega)
        cases ha
        exact hx j v hv
      have hr := run_copy_cells (P := Tryd.prog) w 59 59 op.type 5 g 1 224 224 ad n c (BC l) Tryd.underlying59 u8_size (by rw [BC_length, hln]; exact (Nat.min_eq_left hn).symm) hc
        (fun j hj => by rw [hg.cell, Array.getElem?_eq_getElem (by rw [imA_size]; rw [BC_length] at hj; omega)]; rfl) (fun j hj => hg.frozen _) (BC_one l)
      rw [BC_length, hln] at hr
      refine ⟨_, hr, ?_, grown_setCells w g 1 _⟩
      have := setCells_row g 98 (BC l) 1 (imL ⟨z, zpg⟩) w hg (by rw [imL_length, BC_length]; omega)
      rw [pad_splice z l (by omega)] at this
      exact this
  obtain ⟨w', hr, h1, h2⟩ := hrun
  refine wpList_plain hgd fun K hK => ?_
  unfold Oper.wp
  simp [execOp, ho, resolve, invoke, builtin, hd, hs, hr, Result.andThen]
  simp only [Oper.upon]
  rw [hop]
  exact hK _ _ (h w' h1 h2)

theorem sfx_one (l : List UInt8) (m : Nat) (h : l.length = m + 1) : (l.drop m == [0]) = sfx l := by
  have e : l.drop m = [l.getD m 0] := by
    rw [List.drop_eq_getElem_cons (by omega), List.drop_of_length_le (by omega), List.getD_eq_getElem?_getD, List.getElem?_eq_getElem (by omega)]
    rfl
  rw [e, sfx, h, show m + 1 - 1 = m from rfl]
  simp

set_option maxHeartbeats 800000 in
theorem hasSuffix_any (B n c B2 c2 : Nat) (A A2 : Option Addr) (l : List UInt8) (w : World) (h : Lies w B 1 A n (BC l)) (h2 : Lies w B2 1 A2 1 (BC [0])) (hn : n ≤ 1000) (hc : n ≤ c) :
    Calls Tryd.prog 96 #[.slice A n c, .slice A2 1 c2] w fun e w' => e = .returned (.bool (sfx l)) ∧ w = w' := by
  have hl : l.length = n := by have := h.len; rw [BC_length] at this; omega
  cases n with
  | zero =>
    have hs := Lib.hid (show sfx l = false by simp [sfx, hl])
    clear h h2
    go_enter Tryd.func96, Tryd.ntmps96
    go_wp2_with fail
    go_ret
    exact ⟨by rw [hs.out]; rfl, rfl⟩
  | succ m =>
    have hs := Lib.hid (sfx_one l m hl)
    have rt := fun W => run_tail (P := Tryd.prog) 59 5 Tryd.underlying59 u8_size A (m + 1) c m (by omega) W
    rw [show m + 1 - m = 1 from by omega] at rt
    have HT := Lib.hid (show Lies w B 1 (tailA A c m) 1 (BC (l.drop m)) by have := h.tailA (k := m) (by omega) hc; rw [BC_drop] at this; rwa [show m + 1 - m = 1 from by omega] at this)
    have H2 := Lib.hid h2
    have hge : (1 : Int) ≤ (m : Int) + 1 := by omega
    clear h h2
    go_enter Tryd.func96, Tryd.ntmps96
    go_wp2_with (go_at_call 82; refine (equal_any _ _ _ _ _ _ _ _ _ _ w HT.out H2.out).mono ?_; rintro e w' ⟨rfl, rfl⟩)
    go_ret
    exact ⟨by rw [hs.out]; rfl, rfl⟩
end Go.Proofs.YthicidpdgggbjaaDoor

/-
  Walks: readPage.
  Conditions: readers over at most 10000 bytes.
-/

namespace Go.Proofs.YthicidpdgggbjaaDoor
open Go.RowKit
set_option maxRecDepth 8000

theorem zset51 (v : Int) : Tryd.zeroCells98.setIfInBounds 0 (.int .i64 v) = imA ⟨v, zpg⟩ := by kernel_rfl
theorem zero51 : Tryd.zeroCells98 = imA ⟨0, zpg⟩ := by kernel_rfl
theorem zero51_one : Tryd.zeroCells98.all (·.oneCell') = true := by rw [zero51]; exact imA_one _

/-- Within readPage, which began in world w0: the box of the result, the page, the reader. -/
structure RPS (w0 : World) (g gi : Nat) (im : Im) (s : RS) (w : World) : Prop where
  box : At w w0.heap.size 98 Tryd.zeroCells98
  img : At w gi 98 (imA im)
  rdr : Rdr w g s.1 s.2
  low : g < w0.heap.size
  high : w0.heap.size < gi
  frame : w0.grownBy w (some g)
section
variable {w0 w w' : World} {g gi : Nat} {im im' : Im} {s s' : RS}
theorem RPS.call (h : RPS w0 g gi im s w) (hr : Rdr w' g s'.1 s'.2) (hg : w.grownBy w' (some g)) : RPS w0 g gi im s' w' := by
  have hl := h.low
  have hh := h.high
  exact ⟨h.box.grown hg (by intro e; injection e with e; omega), h.img.grown hg (by intro e; injection e with e; omega), hr, h.low, h.high, h.frame.trans hg⟩
theorem RPS.below (h : RPS w0 g gi im s w) (hb : Below w.heap.size w w') : RPS w0 g gi im s w' :=
  h.call (h.rdr.below hb) (grown_below hb _)
/-- The box of the result is filled. -/
theorem RPS.ret {cs : Array Value} (h : RPS w0 g gi im s w) (hg : w.grownBy w' (some w0.heap.size)) (_ha : At w' w0.heap.size 98 cs) : Rdr w' g s.1 s.2 ∧ w0.grownBy w' (some g) := by
  have hl := h.low
  refine ⟨h.rdr.kept (fun k hk => hg.block k (by have := h.rdr.lt; omega) (by intro e; injection e with e; omega)), ⟨hg.os.trans h.frame.os, hg.tape.trans h.frame.tape, hg.output.trans h.frame.output, Nat.le_trans h.frame.size hg.size, fun k hk hne => ?_⟩⟩
  rw [hg.block k (by have := h.frame.size; omega) (by intro e; injection e with e; omega)]
  exact h.frame.block k hk hne
theorem RPS.copied (h : RPS w0 g gi im s w) (hg : w.grownBy w' (some gi)) (ha : At w' gi 98 (imA im')) : RPS w0 g gi im' s w' := by
  have hl := h.low
  have hh := h.high
  refine ⟨h.box.grown hg (by intro e; injection e with e; omega), ha, h.rdr.kept (fun k hk => hg.block k (by have := h.rdr.lt; omega) (by intro e; injection e with e; omega)), h.low, h.high, ⟨hg.os.trans h.frame.os, hg.tape.trans h.frame.tape, hg.output.trans h.frame.output, Nat.le_trans h.frame.size hg.size, fun k hk hne => ?_⟩⟩
  rw [hg.block k (by have := h.frame.size; omega) (by intro e; injection e with e; omega)]
  exact h.frame.block k hk hne
end
def RpYes (w : World) (g : Nat) (s : RS) (e : Ending) (w' : World) : Prop :=
  e = .returned (.tuple #[.agg (imA (rpIm s)), .bool true]) ∧ Rdr w' g (p3 s).1 (p3 s).2 ∧ w.grownBy w' (some g)
def RpNo (w : World) (g : Nat) (s : RS) (e : Ending) (w' : World) : Prop :=
  e = .returned (.tuple #[.agg (imA ⟨0, zpg⟩), .bool false]) ∧ Rdr w' g (p3 s).1 (p3 s).2 ∧ w.grownBy w' (some g)
def Rp (w : World) (g : Nat) (s : RS) (e : Ending) (w' : World) : Prop := if rpOk s = true then RpYes w g s e w' else RpNo w g s e w'
theorem i64_nat {n : Nat} (h : n < 256) : IntKind.i64.wrap (n : Int) = (n : Int) := by rw [IntKind.wrap_i64]; omega

set_option maxHeartbeats 3200000 in
theorem readPage_any (g : Nat) (s : RS) (w : World) (hr : Rdr w g s.1 s.2) (hl : s.1.length ≤ 10000) :
    Calls Tryd.prog 85 #[.pointer (some ⟨g, 0, none⟩)] w (Rp w g s) := by
  have hgl := hr.lt
  have hwp := i64_nat (vl_lt1 s)
  have hwn := i64_nat (vl_lt1 (p1 s))
  have N1 := Lib.hid (Nat.le_trans (nx_len 1 s) hl)
  have N2 := Lib.hid (Nat.le_trans (nx_len 1 (p1 s)) N1.out)
  have B0 := Lib.hid ((Below.refl w.heap.size w).alloc (Nat.le_refl _) (.cells Tryd.zeroCells98 98))
  have R0 := Lib.hid (hr.below B0.out)
  go_enter Tryd.func85, Tryd.ntmps85
  go_wp2_with fail
  refine (num_st g 1 s _ R0.out hl).mono ?_
  rintro e w1 ⟨rfl, hrd, hgr⟩
  have RP1 : Hid (RPS w g w1.heap.size ⟨(vl 1 s : Int), zpg⟩ (p1 s) (w1.alloc (.cells (imA ⟨(vl 1 s : Int), zpg⟩) 98))) := by
    have hs1 := hgr.size
    simp only [World.alloc, Array.size_push] at hs1
    have hb := ((Below.refl w1.heap.size w1).alloc (Nat.le_refl _) (.cells (imA ⟨(vl 1 s : Int), zpg⟩) 98))
    exact ⟨((At.new w 98 Tryd.zeroCells98).grown hgr (by intro e; injection e with e; omega)).alloc _, At.new w1 98 _, Rdr.below hrd hb, hgl, by omega, ((grown_below B0.out _).trans hgr).trans (grown_below hb _)⟩
  clear hrd hgr R0 B0
  go_wp2_with (refine wpList_store_new 98 (.tmp 4) (.tmp 9) rfl rfl rfl w1.heap.size w1 rfl rfl (imA ⟨(vl 1 s : Int), zpg⟩) Tryd.zeroCells98 225 (congrArg Value.agg (zset51 _)) str51 (imA_size _) Tryd.zeroCells98_size (imA_one _) rfl ?_)
  refine (num_st g 1 (p1 s) _ RP1.out.rdr N1.out).mono ?_
  rintro e w2 ⟨rfl, hrd, hgr⟩
  have RP2 := Lib.hid (RP1.out.call (s' := p2 s) hrd hgr)
  clear hrd hgr RP1
  go_wp2_with fail
  refine (take_st g (vl 1 (p1 s)) (p2 s) w2 RP2.out.rdr N2.out).mono ?_
  rintro e w3 ⟨A, c, rfl, ho, hrd, hgr⟩
  have RP3 := Lib.hid (RP2.out.call (s' := p3 s) hrd hgr)
  clear hrd hgr RP2
  have PST : Hid (pst s = tk (vl 1 (p1 s)) (p2 s)) := Lib.hid rfl
  rw [← PST.out] at ho ⊢
  obtain ⟨n, hn⟩ : ∃ n, (pst s).length = n := ⟨_, rfl⟩
  rw [hn] at ho ⊢
  have hn255 : n ≤ 255 := by have := vl_lt1 (p1 s); have h2 := tk_len (vl 1 (p1 s)) (p2 s); rw [← PST.out, hn] at h2; omega
  obtain ⟨_, c', hv, hcn, _⟩ := own_slice ho
  have hnc : n ≤ c := by injection hv with _ _ h3; rw [h3]; exact hcn
  have LI3 := Lib.hid (Lies.of_own ho)
  have HN := Lib.hid hn
  clear ho hn hv hcn
  go_wp2_with fail
  refine (right_any g (p3 s).1 (p3 s).2 w3 RP3.out.rdr).mono ?_
  rintro e w4 ⟨rfl, rfl⟩
  obtain ⟨z, hz⟩ : ∃ z, (p3 s).2 = z := ⟨_, rfl⟩
  rw [hz]
  have HZ := Lib.hid hz
  clear hz
  cases z with
  | true =>
    have hok := Lib.hid (show ¬ rpOk s = true by rw [rpOk, HZ.out]; simp)
    go_wp2_with (refine wpList_store_at 98 (.tmp 2) (.tmp 28) rfl rfl rfl w.heap.size rfl Tryd.zeroCells98 Tryd.zeroCells98 225 rfl str51 Tryd.zeroCells98_size Tryd.zeroCells98_size zero51_one RP3.out.box ?_; intro w7 h7 g7; have H7 := Lib.hid h7; have K7 := Lib.hid (RP3.out.ret g7 h7); clear h7 g7)
    refine bodyPost_ret (v := .tuple #[.agg Tryd.zeroCells98, .bool false]) (results_at2 rfl H7.out str51 Tryd.zeroCells98_size Tryd.results85 rfl) rfl ?_
    rw [Rp, if_neg hok.out]
    exact ⟨by rw [zero51], K7.out⟩
  | false =>
    by_cases hbig : 224 < n
    · have hok := Lib.hid (show ¬ rpOk s = true by rw [rpOk, HN.out, decide_eq_false (by omega)]; simp)
      go_wp2_with (refine wpList_store_at 98 (.tmp 2) (.tmp 28) rfl rfl rfl w.heap.size rfl Tryd.zeroCells98 Tryd.zeroCells98 225 rfl str51 Tryd.zeroCells98_size Tryd.zeroCells98_size zero51_one RP3.out.box ?_; intro w7 h7 g7; have H7 := Lib.hid h7; have K7 := Lib.hid (RP3.out.ret g7 h7); clear h7 g7)
      refine bodyPost_ret (v := .tuple #[.agg Tryd.zeroCells98, .bool false]) (results_at2 rfl H7.out str51 Tryd.zeroCells98_size Tryd.results85 rfl) rfl ?_
      rw [Rp, if_neg hok.out]
      exact ⟨by rw [zero51], K7.out⟩
    · obtain ⟨q, hq⟩ : ∃ q, sfx (pst s) = q := ⟨_, rfl⟩
      have HQ := Lib.hid hq
      clear hq
      go_wp2_with fail
      refine (hasSuffix_any w3.heap.size n c (w3.heap.size + 1) _ A _ (pst s) _ (LI3.out.alloc (Nat.le_refl _) _) (lies_byte w3 0 0 5 rfl) (by omega) hnc).mono ?_
      rintro e w5 ⟨rfl, rfl⟩
      rw [HQ.out]
      have RP5 := Lib.hid (RP3.out.below ((Below.refl w3.heap.size w3).alloc (Nat.le_refl _) (.cells #[.int .u8 0] 5)))
      have LI5 := Lib.hid (LI3.out.alloc (Nat.le_refl _) (.cells #[.int .u8 0] 5))
      clear RP3 LI3
      generalize w3.alloc (.cells #[.int .u8 0] 5) = w5 at *
      cases q with
      | true =>
        have hok := Lib.hid (show ¬ rpOk s = true by rw [rpOk, HQ.out]; simp)
        go_wp2_with (refine wpList_store_at 98 (.tmp 2) (.tmp 28) rfl rfl rfl w.heap.size rfl Tryd.zeroCells98 Tryd.zeroCells98 225 rfl str51 Tryd.zeroCells98_size Tryd.zeroCells98_size zero51_one RP5.out.box ?_; intro w7 h7 g7; have H7 := Lib.hid h7; have K7 := Lib.hid (RP5.out.ret g7 h7); clear h7 g7)
        refine bodyPost_ret (v := .tuple #[.agg Tryd.zeroCells98, .bool false]) (results_at2 rfl H7.out str51 Tryd.zeroCells98_size Tryd.results85 rfl) rfl ?_
        rw [Rp, if_neg hok.out]
        exact ⟨by rw [zero51], K7.out⟩
      | false =>
        have hok := Lib.hid (show rpOk s = true by rw [rpOk, HQ.out, HZ.out, HN.out, decide_eq_true (by omega)]; rfl)
        go_wp2_with (first
          | (refine wpList_copy_im 32 (.tmp 30) (.tmp 31) rfl rfl rfl w1.heap.size _ n c A (vl 1 s : Int) (pst s) rfl rfl RP5.out.img LI5.out (by omega) ?_; intro w6 h6 g6; have RP6 := Lib.hid (RP5.out.copied g6 h6); clear h6 g6)
          | refine wpList_load_at 98 33 (.tmp 4) rfl rfl rfl w1.heap.size rfl (imA ⟨(vl 1 s : Int), padPg (pst s)⟩) 225 str51 (imA_size _) RP6.out.img ?_
          | (refine wpList_store_at 98 (.tmp 2) (.tmp 33) rfl rfl rfl w.heap.size rfl (imA ⟨(vl 1 s : Int), padPg (pst s)⟩) Tryd.zeroCells98 225 rfl str51 (imA_size _) Tryd.zeroCells98_size (imA_one _) RP6.out.box ?_; intro w7 h7 g7; have H7 := Lib.hid h7; have K7 := Lib.hid (RP6.out.ret g7 h7); clear h7 g7))
        refine bodyPost_ret (v := .tuple #[.agg (imA ⟨(vl 1 s : Int), padPg (pst s)⟩), .bool true]) (results_at2 rfl H7.out str51 (imA_size _) Tryd.results85 rfl) rfl ?_
        rw [Rp, if_pos hok.out]
        exact ⟨rfl, K7.out⟩
end Go.Proofs.YthicidpdgggbjaaDoor

/-
  A law of no program: the literal of a slice with one element of several cells.
  Conditions: none beyond those that each theorem names.
-/

namespace Go.Proofs.YthicidpdgggbjaaDoor
open Go.RowKit

theorem put_all (z : Nat) : ∀ (l : List Value) (k : Nat) (Z : Array Value) (i : Nat), k + l.length ≤ Z.size →
    ((l.zipIdx k).foldl (fun cs (p : Value × Nat) => cs.setIfInBounds (0 * z + p.2) p.1) Z)[i]? = if k ≤ i ∧ i < k + l.length then l[i - k]? else Z[i]?
  | [], k, Z, i, _ => by simp; omega
  | v :: r, k, Z, i, h => by
    rw [List.zipIdx_cons, List.foldl_cons, put_all z r (k + 1) _ i (by simp at h ⊢; omega)]
    simp only [List.length_cons] at h ⊢
    by_cases h1 : k + 1 ≤ i ∧ i < k + 1 + r.length
    · rw [if_pos h1, if_pos (by omega), show i - k = (i - (k + 1)) + 1 from by omega, List.getElem?_cons_succ]
    · rw [if_neg h1, Array.getElem?_setIfInBounds]
      by_cases h2 : k = i
      · subst h2
        rw [if_pos (by omega), if_pos (by omega), if_pos (by omega)]
        simp
      · rw [if_neg (by omega), if_neg (by omega)]

theorem fill_one (size : Nat) (c Z : Array Value) (hc : c.size = size) (hZ : Z.size = size) : Instr.fill (fun i => some (i * size, size)) Z [(0, .agg c)] = some c := by
  have hcs : (Value.agg c).cells = c := rfl
  simp only [Instr.fill, hcs]
  rw [if_neg (by simp [hc, hZ])]
  congr 1
  apply Array.ext_getElem?
  intro i
  have := put_all size c.toList 0 Z i (by simp [hc, hZ])
  rw [← Array.foldl_toList, Array.toList_zipIdx]
  rw [this]
  simp only [Array.length_toList, hc, Nat.zero_add, Nat.sub_zero, Nat.zero_le, true_and]
  by_cases h : i < size
  · rw [if_pos h]; simp
  · rw [if_neg h, Array.getElem?_eq_none (by omega), Array.getElem?_eq_none (by omega)]

variable {P : Program}
theorem run_buildSlice_one (w : World) (t e : TypeId) (size : Nat) (z : Value) (c : Array Value) (ht : P.underlying t = some (.slice e)) (hi : (P.info? e).map (fun i => (i.zero, i.size)) = some (some z, size)) (h0 : 0 < size) (hs : size ≤ 100000) (hc : c.size = size) :
    (Instr.buildSlice t 1 #[(0, .agg c)]).run P w = .ok (.slice (some ⟨w.heap.size, 0, none⟩) 1 1) (w.alloc (.cells c e)) := by
  have hz := (zero_of_info (P := P) hi).1
  have hq : ∃ i, P.info? e = some i ∧ i.size = size := by
    cases hq : P.info? e with
    | none => simp [hq] at hi
    | some i => exact ⟨i, rfl, by simp [hq] at hi; exact hi.2⟩
  obtain ⟨i, hq, hsz⟩ := hq
  have hn : ¬ (1 * size > 2 ^ 24) := by omega
  have hn0 : ¬ (1 * size = 0) := by omega
  have hf := fill_one size c ((Array.range (1 * size)).map (z.cells[· % z.cells.size]!)) hc (by simp)
  simp only [Instr.buildSlice, Sem.run_bind, run_underlying ht, Result.andThen_ok, sizeOf, typeInfo, run_program, hq, hsz, Sem.run_pure, hn, if_false, hn0, hz, hf]
  rfl

theorem wpList_lit1 {ops : Array Oper} {rest : List Oper} {o : Oper} {a : Act} {w : World} {Q : Exit → Act → World → Prop} (hgd : o.guard = none) (x : Operand) (t e : TypeId) (size : Nat) (z : Value) (c : Array Value)
    (ho : o.op = .buildSlice t 1 #[(0, x)]) (hx : a.eval x = .agg c) (ht : P.underlying t = some (.slice e)) (hi : (P.info? e).map (fun i => (i.zero, i.size)) = some (some z, size)) (h0 : 0 < size) (hs : size ≤ 100000) (hc : c.size = size)
    (h : wpList P ops Q rest (a.put o.dst (.slice (some ⟨w.heap.size, 0, none⟩) 1 1)) (w.alloc (.cells c e))) : wpList P ops Q (o :: rest) a w := by
  refine wpList_plain hgd fun K hK => ?_
  have hrun := run_buildSlice_one (P := P) w t e size z c ht hi h0 hs hc
  unfold Oper.wp
  simp [execOp, ho, hx, hrun, Result.andThen]
  exact hK _ _ h
end Go.Proofs.YthicidpdgggbjaaDoor

/-
  Walks: readEntry up to its first loop; the laws that it leans on.
  Conditions: readers over at most 10000 bytes.
-/

namespace Go.Proofs.YthicidpdgggbjaaDoor
open Go.RowKit
set_option maxRecDepth 8000

theorem im_info : (Tryd.prog.info? 98).map (fun i => (i.zero, i.size, i.bytes)) = some (some (.agg Tryd.zeroCells98), 225, 232) := by kernel_rfl
theorem im_info2 : (Tryd.prog.info? 98).map (fun i => (i.zero, i.size)) = some (some (.agg Tryd.zeroCells98), 225) := by kernel_rfl
theorem zz_one : (#[.int .u64 0, .int .i64 0, .int .u64 0, .int .u64 0, .int .u64 0, .int .u64 0, .int .u64 0, .int .u32 0, .int .u32 0, .string ⟨#[]⟩, .bool false, .slice none 0 0, .slice none 0 0] : Array Value).all (·.oneCell') = true :=
  all_oneCell_toArray (cs := [.int .u64 0, .int .i64 0, .int .u64 0, .int .u64 0, .int .u64 0, .int .u64 0, .int .u64 0, .int .u32 0, .int .u32 0, .string ⟨#[]⟩, .bool false, .slice none 0 0, .slice none 0 0]) (by intro v hv; simp only [List.mem_cons, List.not_mem_nil, or_false] at hv; rcases hv with rfl | rfl | rfl | rfl | rfl | rfl | rfl | rfl | rfl | rfl | rfl | rfl | rfl <;> rfl)

/-- Within readEntry, which began in world w0: the box of the result, the reader. -/
structure RES (w0 : World) (g : Nat) (cs : Array Value) (s : RS) (w : World) : Prop where
  box : At w w0.heap.size 42 cs
  rdr : Rdr w g s.1 s.2
  low : g < w0.heap.size
  frame : w0.grownBy w (some g)
section
variable {w0 w w' : World} {g : Nat} {cs cs' : Array Value} {s s' : RS}
theorem RES.call (h : RES w0 g cs s w) (hr : Rdr w' g s'.1 s'.2) (hg : w.grownBy w' (some g)) : RES w0 g cs s' w' :=
  ⟨h.box.grown hg (by intro e; injection e with e; have := h.low; omega), hr, h.low, h.frame.trans hg⟩
theorem RES.below (h : RES w0 g cs s w) (hb : Below w.heap.size w w') : RES w0 g cs s w' := h.call (h.rdr.below hb) (grown_below hb _)
theorem RES.alloc (h : RES w0 g cs s w) (o : Obj) : RES w0 g cs s (w.alloc o) := h.below ((Below.refl _ _).alloc (Nat.le_refl _) o)
/-- The box alone has turned. -/
theorem RES.turn (h : RES w0 g cs s w) (hg : w.grownBy w' (some w0.heap.size)) (ha : At w' w0.heap.size 42 cs') : RES w0 g cs' s w' := by
  have hl := h.low
  refine ⟨ha, h.rdr.kept (fun k hk => hg.block k (by have := h.rdr.lt; omega) (by intro e; injection e with e; omega)), h.low, ⟨hg.os.trans h.frame.os, hg.tape.trans h.frame.tape, hg.output.trans h.frame.output, Nat.le_trans h.frame.size hg.size, fun k hk hne => ?_⟩⟩
  rw [hg.block k (by have := h.frame.size; omega) (by intro e; injection e with e; omega)]
  exact h.frame.block k hk hne
theorem RES.set (h : RES w0 g cs s w) (j : Nat) (u : Value) : RES w0 g (cs.setIfInBounds j u) s (w.setCell ⟨w0.heap.size, j, none⟩ u) :=
  h.turn (grown_set w w0.heap.size j u) (h.box.set j u)
/-- Rows above have turned. -/
theorem RES.rows {v : Value} (h : RES w0 g cs s w) (hg : w.grownBy w' v.ownBlock) (hv : ∀ k, v.ownBlock = some k → w0.heap.size < k) : RES w0 g cs s w' := by
  have hl := h.low
  have ne : ∀ k, k ≤ w0.heap.size → some k ≠ v.ownBlock := fun k hk e => by have := hv k e.symm; omega
  refine ⟨h.box.grown hg (ne _ (Nat.le_refl _)), h.rdr.kept (fun k hk => hg.block k (by have := h.rdr.lt; omega) (ne k (by omega))), h.low, ⟨hg.os.trans h.frame.os, hg.tape.trans h.frame.tape, hg.output.trans h.frame.output, Nat.le_trans h.frame.size hg.size, fun k hk hne => ?_⟩⟩
  rw [hg.block k (by have := h.frame.size; omega) (ne k (by omega))]
  exact h.frame.block k hk hne
end
/-- A record stored into an entry. -/
theorem wpList_store_rc {ops : Array Oper} {rest : List Oper} {op : Oper} {a : Act} {w : World} {Q : Exit → Act → World → Prop} (x y : Operand) (hop : op.dst = none) (hgd : op.guard = none) (ho : op.op = .store 38 x y) (g : Nat) (hx : a.eval x = .pointer (some ⟨g, 5, none⟩)) (r : Rc) (hy : a.eval y = .agg #[.int .u64 (r.id : Nat), .int .u64 (r.key : Nat), .int .u32 (r.x : Nat), .int .u32 (r.y : Nat), .string (strOf r.val), .bool r.ghost])
    (c0 c1 c2 c3 c4 c5 c6 c7 c8 c9 c10 c11 c12 : Value) (hc : At w g 42 #[c0, c1, c2, c3, c4, c5, c6, c7, c8, c9, c10, c11, c12])
    (h : ∀ w', At w' g 42 #[c0, c1, c2, c3, c4, .int .u64 (r.id : Nat), .int .u64 (r.key : Nat), .int .u32 (r.x : Nat), .int .u32 (r.y : Nat), .string (strOf r.val), .bool r.ghost, c11, c12] → w.grownBy w' (some g) → wpList Tryd.prog ops Q rest (a.put none undef) w') : wpList Tryd.prog ops Q (op :: rest) a w := by
  obtain ⟨ds, _, _, h3⟩ := str25
  refine wpList_store_mid hgd 38 x y ho g 5 #[.int .u64 (r.id : Nat), .int .u64 (r.key : Nat), .int .u32 (r.x : Nat), .int .u32 (r.y : Nat), .string (strOf r.val), .bool r.ghost] hx hy (fun j hj => ⟨?_, hc.frozen _⟩) h3 (rc_one r) ?_
  · rw [hc.cell]
    have hj : j < 6 := hj
    match j, hj with
    | 0, _ => rfl
    | 1, _ => rfl
    | 2, _ => rfl
    | 3, _ => rfl
    | 4, _ => rfl
    | 5, _ => rfl
  · rw [hop]
    exact h _ (setCells_row g 42 (rcL r) 5 [c0, c1, c2, c3, c4, c5, c6, c7, c8, c9, c10, c11, c12] w hc (by simp [rcL])) (grown_setCells w g 5 _)

def ReNo (w : World) (g : Nat) (e : Ending) (w' : World) : Prop := e = .returned (.tuple #[.agg #[.int .u64 0, .int .i64 0, .int .u64 0, .int .u64 0, .int .u64 0, .int .u64 0, .int .u64 0, .int .u32 0, .int .u32 0, .string ⟨#[]⟩, .bool false, .slice none 0 0, .slice none 0 0], .bool false]) ∧ w.grownBy w' (some g)
def ReEnd (w : World) (g : Nat) (s : RS) (e : Ending) (w' : World) : Prop :=
  ∃ PA np pc QA na qc, e = .returned (.tuple #[.agg #[.int .u64 ((reEnt s).lsn : Nat), .int .i64 (reEnt s).kind, .int .u64 ((reEnt s).txn : Nat), .int .u64 ((reEnt s).prev : Nat), .int .u64 ((reEnt s).next : Nat), .int .u64 ((reEnt s).rc.id : Nat), .int .u64 ((reEnt s).rc.key : Nat), .int .u32 ((reEnt s).rc.x : Nat), .int .u32 ((reEnt s).rc.y : Nat), .string (strOf (reEnt s).rc.val), .bool (reEnt s).rc.ghost, .slice PA np pc, .slice QA na qc], .bool (!(e10 s).2)]) ∧ EL w' w'.heap.size (reEnt s) PA np QA na ∧ (∀ a, PA = some a ∨ QA = some a → w.heap.size < a.block) ∧ Rdr w' g (e10 s).1 (e10 s).2 ∧ w.grownBy w' (some g)
def Re (w : World) (g : Nat) (s : RS) (e : Ending) (w' : World) : Prop := if (rrOk (e5 s) && okK (eNp s) (e7 s)) = true then ReEnd w g s e w' else ReNo w g e w'
end Go.Proofs.YthicidpdgggbjaaDoor
