/-
  Walks: readEntry.
  Conditions: readers over at most 10000 bytes.
-/
import Derived.Test.YthicidpdgggbjaaDoorQ3
namespace Go.Proofs.YthicidpdgggbjaaDoor
open Go.RowKit
set_option maxRecDepth 8000

theorem lies_im (w : World) (im : Im) (k : Nat) (hk : k = w.heap.size) : Lies (w.alloc (.cells (imA im) 98)) (w.heap.size + 1) 225 (some ⟨k, 0, none⟩) 1 (imL im) := by
  subst hk
  refine ⟨by rw [imL_length], fun _ => ⟨_, rfl, Nat.lt_succ_self _, fun j u hu => ?_⟩⟩
  rw [Addr.add_mid, Nat.zero_add, (At.new w 98 (imA im)).cell, imA]
  simpa using hu
theorem u64_step {k n : Nat} (h : k < n) (hn : n ≤ 255) : IntKind.u64.wrap ((k : Int) + 1) = ((k + 1 : Nat) : Int) := by rw [IntKind.wrap_u64]; omega
/-- At the head of each round over the pages. -/
def PLR (w : World) (g : Nat) (c : Value → Array Value) (np : Nat) (s7 : RS) (i : Value) (wr : World) : Prop :=
  ∃ (k : Nat) (A : Option Addr) (cp : Nat), k ≤ np ∧ i = .int .u64 (k : Int) ∧ Hid (okK k s7 = true) ∧ Hid (RES w g (c (.slice A k cp)) (stK k s7) wr) ∧ Hid (wr.ownsRow (w.heap.size + 1) 98 225 (.slice A k cp) k (flatI (imK k s7)))

theorem wp_app {op : Oper} {a : Act} {w : World} {K : Act → World → Prop} {Q : Exit → Act → World → Prop} (d : Nat) (s x : Operand) (t : TypeId) (hop : op.dst = some d)
    (ho : op.op = .call { callee := .builtin .append, args := #[s, x], argTypes := #[t, t] }) (v xv : Value) (hs : a.eval s = v) (hx : a.eval x = xv) (v' : Value) (w' : World)
    (hrun : (Builtin.append_ #[t, t] op.type #[v, xv]).run Tryd.prog w = .ok v' w') (h : K (a.put (some d) v') w') : op.wp Tryd.prog a w K Q := by
  unfold Oper.wp
  simp [execOp, ho, resolve, invoke, builtin, hs, hx, hrun, Result.andThen]
  simp only [Oper.upon]
  rw [hop]
  exact h
theorem ent_one (e : Ent) (PA : Option Addr) (np pc : Nat) (QA : Option Addr) (na qc : Nat) : (#[.int .u64 (e.lsn : Nat), .int .i64 e.kind, .int .u64 (e.txn : Nat), .int .u64 (e.prev : Nat), .int .u64 (e.next : Nat), .int .u64 (e.rc.id : Nat), .int .u64 (e.rc.key : Nat), .int .u32 (e.rc.x : Nat), .int .u32 (e.rc.y : Nat), .string (strOf e.rc.val), .bool e.rc.ghost, .slice PA np pc, .slice QA na qc] : Array Value).all (·.oneCell') = true :=
  all_oneCell_toArray (cs := [.int .u64 (e.lsn : Nat), .int .i64 e.kind, .int .u64 (e.txn : Nat), .int .u64 (e.prev : Nat), .int .u64 (e.next : Nat), .int .u64 (e.rc.id : Nat), .int .u64 (e.rc.key : Nat), .int .u32 (e.rc.x : Nat), .int .u32 (e.rc.y : Nat), .string (strOf e.rc.val), .bool e.rc.ghost, .slice PA np pc, .slice QA na qc]) (by intro v hv; simp only [List.mem_cons, List.not_mem_nil, or_false] at hv; rcases hv with rfl | rfl | rfl | rfl | rfl | rfl | rfl | rfl | rfl | rfl | rfl | rfl | rfl <;> rfl)
/-- At the head of each round over the numbers. -/
def ALR (w : World) (g : Nat) (c : Value → Array Value) (na np : Nat) (vp : Value) (ims : List Im) (s9 : RS) (i : Value) (wr : World) : Prop :=
  ∃ (j : Nat) (A : Option Addr) (cp : Nat), j ≤ na ∧ i = .int .u64 (j : Int) ∧ Hid (RES w g (c (.slice A j cp)) (stA j s9) wr) ∧ Hid (wr.ownsRow (w.heap.size + 1) 35 1 (.slice A j cp) j (UC (acK j s9))) ∧
    Hid (wr.ownsRow (w.heap.size + 1) 98 225 vp np (flatI ims)) ∧ Hid ((Value.slice A j cp).ownBlock = none ∨ (Value.slice A j cp).ownBlock ≠ vp.ownBlock)

set_option maxHeartbeats 6400000 in
theorem readEntry_any (g : Nat) (s : RS) (w : World) (hr : Rdr w g s.1 s.2) (hl : s.1.length ≤ 10000) :
    Calls Tryd.prog 71 #[.pointer (some ⟨g, 0, none⟩)] w (Re w g s) := by
  have hgl := hr.lt
  have hwk := i64_nat (vl_lt1 s)
  have N1 := Lib.hid (Nat.le_trans (nx_len 1 s) hl)
  have N2 := Lib.hid (Nat.le_trans (nx_len 8 (e1 s)) N1.out)
  have N3 := Lib.hid (Nat.le_trans (nx_len 8 (e2 s)) N2.out)
  have N4 := Lib.hid (Nat.le_trans (nx_len 8 (e3 s)) N3.out)
  have N5 := Lib.hid (Nat.le_trans (nx_len 8 (e4 s)) N4.out)
  have N6 := Lib.hid (Nat.le_trans (q6_len (e5 s)) N5.out)
  have N7 := Lib.hid (Nat.le_trans (nx_len 1 (e6 s)) N6.out)
  have N8 : Hid (∀ k, (stK k (e7 s)).1.length ≤ 10000) := fun k => Nat.le_trans (stK_len (e7 s) k) N7.out
  have R0 : Hid (RES w g #[.int .u64 0, .int .i64 0, .int .u64 0, .int .u64 0, .int .u64 0, .int .u64 0, .int .u64 0, .int .u32 0, .int .u32 0, .string ⟨#[]⟩, .bool false, .slice none 0 0, .slice none 0 0] s (w.alloc (.cells #[.int .u64 0, .int .i64 0, .int .u64 0, .int .u64 0, .int .u64 0, .int .u64 0, .int .u64 0, .int .u32 0, .int .u32 0, .string ⟨#[]⟩, .bool false, .slice none 0 0, .slice none 0 0] 42))) := by
    have hb := (Below.refl w.heap.size w).alloc (Nat.le_refl _) (.cells #[.int .u64 0, .int .i64 0, .int .u64 0, .int .u64 0, .int .u64 0, .int .u64 0, .int .u64 0, .int .u32 0, .int .u32 0, .string ⟨#[]⟩, .bool false, .slice none 0 0, .slice none 0 0] 42)
    exact ⟨At.new w 42 _, hr.below hb, hgl, grown_below hb _⟩
  go_enter Tryd.func71, Tryd.ntmps71
  go_wp2_with fail
  refine (num_st g 1 s _ R0.out.rdr hl).mono ?_
  rintro e x1 ⟨rfl, hrd, hgr⟩
  have T := R0.out.call (s' := e1 s) hrd hgr
  have cc : x1.cell? ⟨w.heap.size, 1, none⟩ = some (.int .i64 0) := T.box.cell 1
  have ff : x1.frozen? ⟨w.heap.size, 1, none⟩ = false := T.box.frozen 1
  have R1 : Hid (RES w g #[.int .u64 0, .int .i64 (vl 1 s : Int), .int .u64 0, .int .u64 0, .int .u64 0, .int .u64 0, .int .u64 0, .int .u32 0, .int .u32 0, .string ⟨#[]⟩, .bool false, .slice none 0 0, .slice none 0 0] (e1 s) (x1.setCell ⟨w.heap.size, 1, none⟩ (.int .i64 (vl 1 s : Int)))) := Lib.hid (T.set 1 _)
  clear T hrd hgr R0
  go_wp2_with fail
  clear cc ff
  refine (num_st g 8 (e1 s) _ R1.out.rdr N1.out).mono ?_
  rintro e x2 ⟨rfl, hrd, hgr⟩
  have T := R1.out.call (s' := e2 s) hrd hgr
  have cc : x2.cell? ⟨w.heap.size, 0, none⟩ = some (.int .u64 0) := T.box.cell 0
  have ff : x2.frozen? ⟨w.heap.size, 0, none⟩ = false := T.box.frozen 0
  have R2 : Hid (RES w g #[.int .u64 (vl 8 (e1 s) : Int), .int .i64 (vl 1 s : Int), .int .u64 0, .int .u64 0, .int .u64 0, .int .u64 0, .int .u64 0, .int .u32 0, .int .u32 0, .string ⟨#[]⟩, .bool false, .slice none 0 0, .slice none 0 0] (e2 s) (x2.setCell ⟨w.heap.size, 0, none⟩ (.int .u64 (vl 8 (e1 s) : Int)))) := Lib.hid (T.set 0 _)
  clear T hrd hgr R1
  go_wp2_with fail
  clear cc ff
  refine (num_st g 8 (e2 s) _ R2.out.rdr N2.out).mono ?_
  rintro e x3 ⟨rfl, hrd, hgr⟩
  have T := R2.out.call (s' := e3 s) hrd hgr
  have cc : x3.cell? ⟨w.heap.size, 2, none⟩ = some (.int .u64 0) := T.box.cell 2
  have ff : x3.frozen? ⟨w.heap.size, 2, none⟩ = false := T.box.frozen 2
  have R3 : Hid (RES w g #[.int .u64 (vl 8 (e1 s) : Int), .int .i64 (vl 1 s : Int), .int .u64 (vl 8 (e2 s) : Int), .int .u64 0, .int .u64 0, .int .u64 0, .int .u64 0, .int .u32 0, .int .u32 0, .string ⟨#[]⟩, .bool false, .slice none 0 0, .slice none 0 0] (e3 s) (x3.setCell ⟨w.heap.size, 2, none⟩ (.int .u64 (vl 8 (e2 s) : Int)))) := Lib.hid (T.set 2 _)
  clear T hrd hgr R2
  go_wp2_with fail
  clear cc ff
  refine (num_st g 8 (e3 s) _ R3.out.rdr N3.out).mono ?_
  rintro e x4 ⟨rfl, hrd, hgr⟩
  have T := R3.out.call (s' := e4 s) hrd hgr
  have cc : x4.cell? ⟨w.heap.size, 3, none⟩ = some (.int .u64 0) := T.box.cell 3
  have ff : x4.frozen? ⟨w.heap.size, 3, none⟩ = false := T.box.frozen 3
  have R4 : Hid (RES w g #[.int .u64 (vl 8 (e1 s) : Int), .int .i64 (vl 1 s : Int), .int .u64 (vl 8 (e2 s) : Int), .int .u64 (vl 8 (e3 s) : Int), .int .u64 0, .int .u64 0, .int .u64 0, .int .u32 0, .int .u32 0, .string ⟨#[]⟩, .bool false, .slice none 0 0, .slice none 0 0] (e4 s) (x4.setCell ⟨w.heap.size, 3, none⟩ (.int .u64 (vl 8 (e3 s) : Int)))) := Lib.hid (T.set 3 _)
  clear T hrd hgr R3
  go_wp2_with fail
  clear cc ff
  refine (num_st g 8 (e4 s) _ R4.out.rdr N4.out).mono ?_
  rintro e x5 ⟨rfl, hrd, hgr⟩
  have T := R4.out.call (s' := e5 s) hrd hgr
  have cc : x5.cell? ⟨w.heap.size, 4, none⟩ = some (.int .u64 0) := T.box.cell 4
  have ff : x5.frozen? ⟨w.heap.size, 4, none⟩ = false := T.box.frozen 4
  have R5 : Hid (RES w g #[.int .u64 (vl 8 (e1 s) : Int), .int .i64 (vl 1 s : Int), .int .u64 (vl 8 (e2 s) : Int), .int .u64 (vl 8 (e3 s) : Int), .int .u64 (vl 8 (e4 s) : Int), .int .u64 0, .int .u64 0, .int .u32 0, .int .u32 0, .string ⟨#[]⟩, .bool false, .slice none 0 0, .slice none 0 0] (e5 s) (x5.setCell ⟨w.heap.size, 4, none⟩ (.int .u64 (vl 8 (e4 s) : Int)))) := Lib.hid (T.set 4 _)
  clear T hrd hgr R4
  go_wp2_with fail
  clear cc ff
  refine (readRec_any g (e5 s) _ R5.out.rdr N5.out).mono ?_
  intro e x6 h6
  by_cases hrr : rrOk (e5 s) = true
  · rw [Rr, if_pos hrr] at h6
    obtain ⟨rfl, hrd, hgr⟩ := h6
    have T := Lib.hid (R5.out.call (s' := e6 s) hrd hgr)
    have HRR := Lib.hid hrr
    clear hrd hgr R5 hrr
    go_wp2_with (refine wpList_store_rc (.tmp 27) (.tmp 25) rfl rfl rfl w.heap.size rfl (rrRec (e5 s)) rfl _ _ _ _ _ _ _ _ _ _ _ _ _ T.out.box ?_; intro x7 h7 g7; have R7 := Lib.hid (T.out.turn g7 h7); clear h7 g7)
    clear T
    refine (num_st g 1 (e6 s) _ R7.out.rdr N6.out).mono ?_
    rintro e x8 ⟨rfl, hrd, hgr⟩
    have R8 : Hid (RES w g #[.int .u64 (vl 8 (e1 s) : Int), .int .i64 (vl 1 s : Int), .int .u64 (vl 8 (e2 s) : Int), .int .u64 (vl 8 (e3 s) : Int), .int .u64 (vl 8 (e4 s) : Int), .int .u64 ((rrRec (e5 s)).id : Nat), .int .u64 ((rrRec (e5 s)).key : Nat), .int .u32 ((rrRec (e5 s)).x : Nat), .int .u32 ((rrRec (e5 s)).y : Nat), .string (strOf (rrRec (e5 s)).val), .bool (rrRec (e5 s)).ghost, .slice none 0 0, .slice none 0 0] (e7 s) x8) := Lib.hid (R7.out.call (s' := e7 s) hrd hgr)
    clear hrd hgr R7
    have hnp := vl_lt1 (e6 s)
    have ENP : Hid (vl 1 (e6 s) = eNp s) := Lib.hid rfl
    rw [ENP.out] at hnp ⊢
    obtain ⟨np, HNP⟩ : ∃ np, Hid (eNp s = np) := ⟨_, Lib.hid rfl⟩
    rw [HNP.out] at hnp ⊢
    obtain ⟨s7, HS7⟩ : ∃ s7, Hid (e7 s = s7) := ⟨_, Lib.hid rfl⟩
    rw [HS7.out] at R8
    rw [HS7.out] at N8
    go_wp2_with fail
    go_loopw [33] (fun i wr => PLR w g (fun v => #[.int .u64 (vl 8 (e1 s) : Int), .int .i64 (vl 1 s : Int), .int .u64 (vl 8 (e2 s) : Int), .int .u64 (vl 8 (e3 s) : Int), .int .u64 (vl 8 (e4 s) : Int), .int .u64 ((rrRec (e5 s)).id : Nat), .int .u64 ((rrRec (e5 s)).key : Nat), .int .u32 ((rrRec (e5 s)).x : Nat), .int .u32 ((rrRec (e5 s)).y : Nat), .string (strOf (rrRec (e5 s)).val), .bool (rrRec (e5 s)).ghost, v, .slice none 0 0]) np s7 i wr) (fun i _ => np - (intOf i).toNat)
    case atStart => exact ⟨0, none, 0, Nat.zero_le _, rfl, Lib.hid rfl, R8, Lib.hid (World.ownsRow_nil _ _ _ _)⟩
    case round =>
      clear R8
      obtain ⟨k, A, cp, hk, rfl, hok, hres, hown⟩ := hrel
      by_cases hlt : k < np
      · have hdk : decide ((k : Int) < (np : Int)) = true := by simp; omega
        have hstep := u64_step hlt (by omega)
        go_wp2_with fail
        refine (readPage_any g (stK k s7) wr hres.out.rdr (N8.out k)).mono ?_
        intro e x9 h9
        by_cases hp : rpOk (stK k s7) = true
        · rw [Rp, if_pos hp] at h9
          obtain ⟨rfl, hrd, hgr⟩ := h9
          have HP := Lib.hid hp
          have R9 := Lib.hid (hres.out.call (s' := p3 (stK k s7)) hrd hgr)
          have O9 := Lib.hid (hown.out.kept hgr (by
            by_cases he : (Value.slice A k cp).ownBlock = none
            · exact .inl he
            · right
              intro e
              have := (hown.out.lt g e).1
              have := R9.out.low
              omega))
          have IK : Hid (imK (k + 1) s7 = imK k s7 ++ [rpIm (stK k s7)]) := Lib.hid rfl
          clear hrd hgr hp hres hown
          generalize rpIm (stK k s7) = im at *
          have NX := Lib.hid (At.new x9 98 (imA im))
          have RA := Lib.hid (R9.out.alloc (.cells (imA im) 98))
          have cA : (x9.alloc (.cells (imA im) 98)).cell? ⟨w.heap.size, 11, none⟩ = some (.slice A k cp) := RA.out.box.cell 11
          obtain ⟨i0, hi0, hz0, hz1, hz2⟩ := info_parts im_info
          go_wp2_with (first
            | refine wpList_store_new 98 (.tmp 4) (.tmp 38) rfl rfl rfl x9.heap.size x9 rfl rfl (imA im) Tryd.zeroCells98 225 rfl str51 (imA_size _) Tryd.zeroCells98_size (imA_one _) rfl ?_
            | refine wpList_load_at 98 45 (.tmp 4) rfl rfl rfl x9.heap.size rfl (imA im) 225 str51 (imA_size _) NX.out ?_
            | refine wpList_lit1 rfl (.tmp 45) 39 98 225 _ (imA im) rfl rfl Tryd.underlying39 im_info2 (by omega) (by omega) (imA_size _) ?_
            | (at_builtin; refine wpList_app2 _ rfl (.tmp 44) (.tmp 46) _ rfl (w.heap.size + 1) 98 i0 _ 225 232 Tryd.underlying39 hi0 hz0 hz1 hz2 Tryd.zeroCells98_size (by omega) (.slice A k cp) k (flatI (imK k s7)) rfl ((O9.out.alloc _).alloc _) _ _ 1 1 (imL im) rfl (lies_im _ im _ (by simp)) (imL_one im) (by omega) (by simp only [maxLen]; omega) (by omega) (by have := R9.out.box.lt; simp; omega) ?_
               intro v2 w2 ho2 hg2 hv2
               obtain ⟨A2, cp2, hve, _⟩ := own_slice ho2
               subst hve
               have O2 := Lib.hid ho2
               have R2 := Lib.hid ((RA.out.alloc (.cells (imA im) 98)).rows hg2 (fun q hq => by have := (O9.out.lt q hq).1; omega))
               have c2 : w2.cell? ⟨w.heap.size, 11, none⟩ = some (.slice A k cp) := R2.out.box.cell 11
               have f2 : w2.frozen? ⟨w.heap.size, 11, none⟩ = false := R2.out.box.frozen 11
               clear ho2 hg2 hv2))
          have R3 := R2.out.set 11 (.slice A2 (k + 1) cp2)
          refine ⟨⟨k + 1, A2, cp2, by omega, by go_num, Lib.hid ?_, Lib.hid R3, Lib.hid ?_⟩, by simp [intOf]; omega⟩
          · show (okK k s7 && rpOk (stK k s7)) = true
            rw [hok.out, HP.out]
            rfl
          · rw [IK.out, flatI_append, flatI_single]
            exact O2.out.kept (grown_set w2 w.heap.size 11 _) (.inr (by
              intro e
              have := (O2.out.lt _ e).1
              omega))
        · rw [Rp, if_neg hp] at h9
          obtain ⟨rfl, hrd, hgr⟩ := h9
          have HNO : Hid (¬ (rrOk (e5 s) && okK (eNp s) (e7 s)) = true) := by
            intro hc
            rw [HNP.out, HS7.out, okK_no s7 hlt (by simpa using hp)] at hc
            simp at hc
          have R9 := Lib.hid ((hres.out.call (s' := p3 (stK k s7)) hrd hgr).alloc (.cells (imA ⟨0, zpg⟩) 98))
          clear hrd hgr hp hres hown
          go_wp2_with (first
            | refine wpList_store_new 98 (.tmp 4) (.tmp 38) rfl rfl rfl x9.heap.size x9 rfl rfl (imA ⟨0, zpg⟩) Tryd.zeroCells98 225 rfl str51 (imA_size _) Tryd.zeroCells98_size (imA_one _) rfl ?_
            | (refine wpList_store_at 42 (.tmp 2) (.tmp 42) rfl rfl rfl w.heap.size rfl #[.int .u64 0, .int .i64 0, .int .u64 0, .int .u64 0, .int .u64 0, .int .u64 0, .int .u64 0, .int .u32 0, .int .u32 0, .string ⟨#[]⟩, .bool false, .slice none 0 0, .slice none 0 0] _ 13 rfl str29 rfl rfl zz_one R9.out.box ?_; intro y9 h9 g9; have H9 := Lib.hid (R9.out.turn g9 h9); clear h9 g9))
          refine bodyPost_ret (v := .tuple #[.agg #[.int .u64 0, .int .i64 0, .int .u64 0, .int .u64 0, .int .u64 0, .int .u64 0, .int .u64 0, .int .u32 0, .int .u32 0, .string ⟨#[]⟩, .bool false, .slice none 0 0, .slice none 0 0], .bool false]) (results_at2 rfl H9.out.box str29 rfl Tryd.results71 rfl) rfl ?_
          rw [Re, if_neg HNO.out]
          exact ⟨rfl, H9.out.frame⟩
      · obtain rfl : k = np := by omega
        have HYES : Hid ((rrOk (e5 s) && okK (eNp s) (e7 s)) = true) := by
          show _ = _
          rw [HRR.out, HNP.out, HS7.out, hok.out]
          rfl
        go_wp2_with fail
        refine (num_st g 1 (stK k s7) wr hres.out.rdr (N8.out k)).mono ?_
        rintro e x10 ⟨rfl, hrd, hgr⟩
        have R10 := Lib.hid (hres.out.call (s' := nx 1 (stK k s7)) hrd hgr)
        have P10 := Lib.hid (hown.out.kept hgr (by
          by_cases he : (Value.slice A k cp).ownBlock = none
          · exact .inl he
          · right
            intro e
            have := (hown.out.lt g e).1
            have := R10.out.low
            omega))
        have hna := vl_lt1 (stK k s7)
        have N9 : Hid (∀ j, (stA j (nx 1 (stK k s7))).1.length ≤ 10000) := fun j => Nat.le_trans (stA_len _ j) (Nat.le_trans (nx_len 1 _) (N8.out k))
        obtain ⟨na, HNA⟩ : ∃ na, Hid (vl 1 (stK k s7) = na) := ⟨_, Lib.hid rfl⟩
        rw [HNA.out] at hna ⊢
        obtain ⟨s9, HS9⟩ : ∃ s9, Hid (nx 1 (stK k s7) = s9) := ⟨_, Lib.hid rfl⟩
        rw [HS9.out] at R10
        rw [HS9.out] at N9
        obtain ⟨ims, HIM⟩ : ∃ ims, Hid (imK k s7 = ims) := ⟨_, Lib.hid rfl⟩
        rw [HIM.out] at P10
        clear hrd hgr hres hown
        go_wp2_with fail
        go_loopw [52] (fun i wr => ALR w g (fun v => #[.int .u64 (vl 8 (e1 s) : Int), .int .i64 (vl 1 s : Int), .int .u64 (vl 8 (e2 s) : Int), .int .u64 (vl 8 (e3 s) : Int), .int .u64 (vl 8 (e4 s) : Int), .int .u64 ((rrRec (e5 s)).id : Nat), .int .u64 ((rrRec (e5 s)).key : Nat), .int .u32 ((rrRec (e5 s)).x : Nat), .int .u32 ((rrRec (e5 s)).y : Nat), .string (strOf (rrRec (e5 s)).val), .bool (rrRec (e5 s)).ghost, .slice A k cp, v]) na k (.slice A k cp) ims s9 i wr) (fun i _ => na - (intOf i).toNat)
        case atStart => exact ⟨0, none, 0, Nat.zero_le _, rfl, R10, Lib.hid (World.ownsRow_nil _ _ _ _), P10, Lib.hid (.inl rfl)⟩
        case round =>
          clear R10 P10
          obtain ⟨j, A2, c2, hj, rfl, hres, hown, hpg, hap⟩ := hrel
          by_cases hjl : j < na
          · have hdk : decide ((j : Int) < (na : Int)) = true := by simp; omega
            have hstep := u64_step hjl (by omega)
            have BD := Lib.hid ((Below.refl wr.heap.size wr).drew)
            have RD := Lib.hid (hres.out.below BD.out)
            have OD := Lib.hid (own_under hown.out BD.out (Nat.le_refl _))
            have PD := Lib.hid (own_under hpg.out BD.out (Nat.le_refl _))
            have cl0 : wr.drew.cell? ⟨w.heap.size, 12, none⟩ = some (.slice A2 j c2) := RD.out.box.cell 12
            have AKJ : Hid (acK (j + 1) s9 = acK j s9 ++ [vl 8 (stA j s9)]) := Lib.hid rfl
            obtain ⟨i0, hi0, hz0, hz1, hz2⟩ := info_parts u64_info
            clear hres hown hpg BD
            go_wp2_with fail
            refine wp_region_held_drew (S := fun _ => True) (by kernel_rfl) trivial (fun hS => ?_)
            refine takeH (i := 0) (d := 54) (v := ?vz0) rfl (by kernel_rfl) (by kernel_rfl) (by kernel_rfl) (fun _ _ _ h => h) rfl (by rfl) ?yz0 hS ?rz0
            case yz0 => (intro wz hz; go_simp <;> with_reducible rfl)
            simp only [List.setIfInBounds_toArray, List.set_cons_zero, List.set_cons_succ]
            refine takeH (i := 2) (d := 56) (v := ?vz2) rfl (by kernel_rfl) (by kernel_rfl) (by kernel_rfl) (fun _ _ _ h => h) rfl (by rfl) ?yz2 hS ?rz2
            case yz2 => (intro wz hz; go_simp <;> with_reducible rfl)
            simp only [List.setIfInBounds_toArray, List.set_cons_zero, List.set_cons_succ]
            refine wpAnyH_ready (rs := [1, 3]) (by kernel_rfl) (by simp) ?_
            refine AllReadyH.cons rfl (fun K hK => ?_) (AllReadyH.cons rfl (fun K hK => ?_) AllReadyH.nil)
            · go_simp
              refine hK.out _ _ trivial (fun hS => ?_)
              clear hK
              refine wpAnyH_ready (rs := [3]) (by kernel_rfl) (by simp) ?_
              refine AllReadyH.cons rfl (fun K hK => ?_) AllReadyH.nil
              go_simp
              refine (num_st g 8 (stA j s9) _ RD.out.rdr (N9.out j)).mono ?_
              rintro e x11 ⟨rfl, hrd, hgr⟩
              have R11 := Lib.hid (RD.out.call (s' := nx 8 (stA j s9)) hrd hgr)
              have neg : ∀ v : Value, (∀ q, v.ownBlock = some q → w.heap.size + 1 ≤ q) → v.ownBlock = none ∨ v.ownBlock ≠ some g := fun v hv => by
                by_cases he : v.ownBlock = none
                · exact .inl he
                · right
                  intro e
                  have := hv g e
                  have := R11.out.low
                  omega
              have O11 := Lib.hid (OD.out.kept hgr (neg _ (fun q hq => (OD.out.lt q hq).1)))
              have P11 := Lib.hid (PD.out.kept hgr (neg _ (fun q hq => (PD.out.lt q hq).1)))
              have cl1 : x11.cell? ⟨w.heap.size, 12, none⟩ = some (.slice A2 j c2) := R11.out.box.cell 12
              have cl2 : (x11.alloc (.cells #[.int .u64 (vl 8 (stA j s9) : Int)] 35)).cell? ⟨w.heap.size, 12, none⟩ = some (.slice A2 j c2) := (R11.out.alloc _).box.cell 12
              clear hrd hgr neg
              refine hK.out _ _ trivial (fun hS => ?_)
              clear hK
              refine wpAnyH_ready (rs := [4]) (by kernel_rfl) (by simp) ?_
              refine AllReadyH.cons rfl (fun K hK => ?_) AllReadyH.nil
              go_simp
              refine hK.out _ _ trivial (fun hS => ?_)
              clear hK
              refine wpAnyH_ready (rs := [5]) (by kernel_rfl) (by simp) ?_
              refine AllReadyH.cons rfl (fun K hK => ?_) AllReadyH.nil
              obtain ⟨v3, w3, hrun, ho3, hg3, hv3⟩ := run_append_lies2 (P := Tryd.prog) (x11.alloc (.cells #[.int .u64 (vl 8 (stA j s9) : Int)] 35)) (w.heap.size + 1) 40 40 35 i0 _ 1 8 Tryd.underlying40 hi0 hz0 hz1 hz2 rfl (by omega) (.slice A2 j c2) j (UC (acK j s9)) (O11.out.alloc _) _ _ 1 1 [.int .u64 (vl 8 (stA j s9) : Int)] (lies_new x11 _ 35) (by intro u hu; rw [List.mem_singleton.1 hu]; rfl) (by omega) (by simp only [maxLen]; omega) (by omega) (by have := R11.out.box.lt; simp; omega)
              obtain ⟨A3, c3, hve, _⟩ := own_slice ho3
              subst hve
              have R3 := Lib.hid ((R11.out.alloc (.cells #[.int .u64 (vl 8 (stA j s9) : Int)] 35)).rows hg3 (fun q hq => by have := (O11.out.lt q hq).1; omega))
              have P3 := Lib.hid ((P11.out.alloc (.cells #[.int .u64 (vl 8 (stA j s9) : Int)] 35)).kept hg3 (by
                rcases hap.out with h | h
                · rw [h]
                  by_cases he : (Value.slice A k cp).ownBlock = none
                  · exact .inl he
                  · exact .inr he
                · exact .inr (fun e => h e.symm)))
              have O3 := Lib.hid ho3
              have V3 : Hid ((Value.slice A3 (j + 1) c3).ownBlock = none ∨ (Value.slice A3 (j + 1) c3).ownBlock ≠ (Value.slice A k cp).ownBlock) := by
                rcases hv3 with h | h
                · rw [h]; exact hap.out
                · right
                  rw [h]
                  intro e
                  have := (P11.out.lt _ e.symm).2
                  simp only [World.alloc, Array.size_push] at this
                  omega
              have f3 : w3.frozen? ⟨w.heap.size, 12, none⟩ = false := R3.out.box.frozen 12
              have cc3 : w3.cell? ⟨w.heap.size, 12, none⟩ = some (.slice A2 j c2) := R3.out.box.cell 12
              refine wp_app 59 (.tmp 55) (.tmp 58) 40 rfl rfl _ _ rfl rfl _ _ hrun ?_
              clear hrun ho3 hg3 hv3
              refine hK.out _ _ trivial (fun hS => ?_)
              clear hK
              refine takeH (i := 6) (d := 60) (v := ?vta6) rfl (by kernel_rfl) (by kernel_rfl) (by kernel_rfl) (fun _ _ _ h => h) rfl (by rfl) ?yta6 hS ?rta6
              case yta6 => (intro wz hz; go_simp <;> with_reducible rfl)
              simp only [List.setIfInBounds_toArray, List.set_cons_zero, List.set_cons_succ]
              refine wpAnyH_ready (rs := [7]) (by kernel_rfl) (by simp) ?_
              refine AllReadyH.cons rfl (fun K hK => ?_) AllReadyH.nil
              go_simp
              refine hK.out _ _ trivial (fun hS => ?_)
              clear hK
              refine wpAnyH_done (by kernel_rfl) ?_ _
              have R4 := Lib.hid (R3.out.set 12 (.slice A3 (j + 1) c3))
              clear hS f3 cc3 cl0 cl1 cl2
              go_wp2_with fail
              refine ⟨⟨j + 1, A3, c3, by omega, by go_num, R4, Lib.hid ?_, Lib.hid ?_, V3⟩, by simp [intOf]; omega⟩
              · refine own_len (O3.out.kept (grown_set w3 w.heap.size 12 _) (.inr (by intro e; have := (O3.out.lt _ e).1; omega))) ?_
                rw [AKJ.out, UC_append]
                rfl
              · exact P3.out.kept (grown_set w3 w.heap.size 12 _) (by
                  by_cases he : (Value.slice A k cp).ownBlock = none
                  · exact .inl he
                  · right
                    intro e
                    have := (P3.out.lt _ e).1
                    omega)
            · go_simp
              refine (num_st g 8 (stA j s9) _ RD.out.rdr (N9.out j)).mono ?_
              rintro e x11 ⟨rfl, hrd, hgr⟩
              have R11 := Lib.hid (RD.out.call (s' := nx 8 (stA j s9)) hrd hgr)
              have neg : ∀ v : Value, (∀ q, v.ownBlock = some q → w.heap.size + 1 ≤ q) → v.ownBlock = none ∨ v.ownBlock ≠ some g := fun v hv => by
                by_cases he : v.ownBlock = none
                · exact .inl he
                · right
                  intro e
                  have := hv g e
                  have := R11.out.low
                  omega
              have O11 := Lib.hid (OD.out.kept hgr (neg _ (fun q hq => (OD.out.lt q hq).1)))
              have P11 := Lib.hid (PD.out.kept hgr (neg _ (fun q hq => (PD.out.lt q hq).1)))
              have cl1 : x11.cell? ⟨w.heap.size, 12, none⟩ = some (.slice A2 j c2) := R11.out.box.cell 12
              have cl2 : (x11.alloc (.cells #[.int .u64 (vl 8 (stA j s9) : Int)] 35)).cell? ⟨w.heap.size, 12, none⟩ = some (.slice A2 j c2) := (R11.out.alloc _).box.cell 12
              clear hrd hgr neg
              refine hK.out _ _ trivial (fun hS => ?_)
              clear hK
              refine wpAnyH_ready (rs := [1, 4]) (by kernel_rfl) (by simp) ?_
              refine AllReadyH.cons rfl (fun K hK => ?_) (AllReadyH.cons rfl (fun K hK => ?_) AllReadyH.nil)
              · go_simp
                refine hK.out _ _ trivial (fun hS => ?_)
                clear hK
                refine wpAnyH_ready (rs := [4]) (by kernel_rfl) (by simp) ?_
                refine AllReadyH.cons rfl (fun K hK => ?_) AllReadyH.nil
                go_simp
                refine hK.out _ _ trivial (fun hS => ?_)
                clear hK
                refine wpAnyH_ready (rs := [5]) (by kernel_rfl) (by simp) ?_
                refine AllReadyH.cons rfl (fun K hK => ?_) AllReadyH.nil
                obtain ⟨v3, w3, hrun, ho3, hg3, hv3⟩ := run_append_lies2 (P := Tryd.prog) (x11.alloc (.cells #[.int .u64 (vl 8 (stA j s9) : Int)] 35)) (w.heap.size + 1) 40 40 35 i0 _ 1 8 Tryd.underlying40 hi0 hz0 hz1 hz2 rfl (by omega) (.slice A2 j c2) j (UC (acK j s9)) (O11.out.alloc _) _ _ 1 1 [.int .u64 (vl 8 (stA j s9) : Int)] (lies_new x11 _ 35) (by intro u hu; rw [List.mem_singleton.1 hu]; rfl) (by omega) (by simp only [maxLen]; omega) (by omega) (by have := R11.out.box.lt; simp; omega)
                obtain ⟨A3, c3, hve, _⟩ := own_slice ho3
                subst hve
                have R3 := Lib.hid ((R11.out.alloc (.cells #[.int .u64 (vl 8 (stA j s9) : Int)] 35)).rows hg3 (fun q hq => by have := (O11.out.lt q hq).1; omega))
                have P3 := Lib.hid ((P11.out.alloc (.cells #[.int .u64 (vl 8 (stA j s9) : Int)] 35)).kept hg3 (by
                  rcases hap.out with h | h
                  · rw [h]
                    by_cases he : (Value.slice A k cp).ownBlock = none
                    · exact .inl he
                    · exact .inr he
                  · exact .inr (fun e => h e.symm)))
                have O3 := Lib.hid ho3
                have V3 : Hid ((Value.slice A3 (j + 1) c3).ownBlock = none ∨ (Value.slice A3 (j + 1) c3).ownBlock ≠ (Value.slice A k cp).ownBlock) := by
                  rcases hv3 with h | h
                  · rw [h]; exact hap.out
                  · right
                    rw [h]
                    intro e
                    have := (P11.out.lt _ e.symm).2
                    simp only [World.alloc, Array.size_push] at this
                    omega
                have f3 : w3.frozen? ⟨w.heap.size, 12, none⟩ = false := R3.out.box.frozen 12
                have cc3 : w3.cell? ⟨w.heap.size, 12, none⟩ = some (.slice A2 j c2) := R3.out.box.cell 12
                refine wp_app 59 (.tmp 55) (.tmp 58) 40 rfl rfl _ _ rfl rfl _ _ hrun ?_
                clear hrun ho3 hg3 hv3
                refine hK.out _ _ trivial (fun hS => ?_)
                clear hK
                refine takeH (i := 6) (d := 60) (v := ?vtb6) rfl (by kernel_rfl) (by kernel_rfl) (by kernel_rfl) (fun _ _ _ h => h) rfl (by rfl) ?ytb6 hS ?rtb6
                case ytb6 => (intro wz hz; go_simp <;> with_reducible rfl)
                simp only [List.setIfInBounds_toArray, List.set_cons_zero, List.set_cons_succ]
                refine wpAnyH_ready (rs := [7]) (by kernel_rfl) (by simp) ?_
                refine AllReadyH.cons rfl (fun K hK => ?_) AllReadyH.nil
                go_simp
                refine hK.out _ _ trivial (fun hS => ?_)
                clear hK
                refine wpAnyH_done (by kernel_rfl) ?_ _
                have R4 := Lib.hid (R3.out.set 12 (.slice A3 (j + 1) c3))
                clear hS f3 cc3 cl0 cl1 cl2
                go_wp2_with fail
                refine ⟨⟨j + 1, A3, c3, by omega, by go_num, R4, Lib.hid ?_, Lib.hid ?_, V3⟩, by simp [intOf]; omega⟩
                · refine own_len (O3.out.kept (grown_set w3 w.heap.size 12 _) (.inr (by intro e; have := (O3.out.lt _ e).1; omega))) ?_
                  rw [AKJ.out, UC_append]
                  rfl
                · exact P3.out.kept (grown_set w3 w.heap.size 12 _) (by
                    by_cases he : (Value.slice A k cp).ownBlock = none
                    · exact .inl he
                    · right
                      intro e
                      have := (P3.out.lt _ e).1
                      omega)
              · go_simp
                refine hK.out _ _ trivial (fun hS => ?_)
                clear hK
                refine wpAnyH_ready (rs := [1]) (by kernel_rfl) (by simp) ?_
                refine AllReadyH.cons rfl (fun K hK => ?_) AllReadyH.nil
                go_simp
                refine hK.out _ _ trivial (fun hS => ?_)
                clear hK
                refine wpAnyH_ready (rs := [5]) (by kernel_rfl) (by simp) ?_
                refine AllReadyH.cons rfl (fun K hK => ?_) AllReadyH.nil
                obtain ⟨v3, w3, hrun, ho3, hg3, hv3⟩ := run_append_lies2 (P := Tryd.prog) (x11.alloc (.cells #[.int .u64 (vl 8 (stA j s9) : Int)] 35)) (w.heap.size + 1) 40 40 35 i0 _ 1 8 Tryd.underlying40 hi0 hz0 hz1 hz2 rfl (by omega) (.slice A2 j c2) j (UC (acK j s9)) (O11.out.alloc _) _ _ 1 1 [.int .u64 (vl 8 (stA j s9) : Int)] (lies_new x11 _ 35) (by intro u hu; rw [List.mem_singleton.1 hu]; rfl) (by omega) (by simp only [maxLen]; omega) (by omega) (by have := R11.out.box.lt; simp; omega)
                obtain ⟨A3, c3, hve, _⟩ := own_slice ho3
                subst hve
                have R3 := Lib.hid ((R11.out.alloc (.cells #[.int .u64 (vl 8 (stA j s9) : Int)] 35)).rows hg3 (fun q hq => by have := (O11.out.lt q hq).1; omega))
                have P3 := Lib.hid ((P11.out.alloc (.cells #[.int .u64 (vl 8 (stA j s9) : Int)] 35)).kept hg3 (by
                  rcases hap.out with h | h
                  · rw [h]
                    by_cases he : (Value.slice A k cp).ownBlock = none
                    · exact .inl he
                    · exact .inr he
                  · exact .inr (fun e => h e.symm)))
                have O3 := Lib.hid ho3
                have V3 : Hid ((Value.slice A3 (j + 1) c3).ownBlock = none ∨ (Value.slice A3 (j + 1) c3).ownBlock ≠ (Value.slice A k cp).ownBlock) := by
                  rcases hv3 with h | h
                  · rw [h]; exact hap.out
                  · right
                    rw [h]
                    intro e
                    have := (P11.out.lt _ e.symm).2
                    simp only [World.alloc, Array.size_push] at this
                    omega
                have f3 : w3.frozen? ⟨w.heap.size, 12, none⟩ = false := R3.out.box.frozen 12
                have cc3 : w3.cell? ⟨w.heap.size, 12, none⟩ = some (.slice A2 j c2) := R3.out.box.cell 12
                refine wp_app 59 (.tmp 55) (.tmp 58) 40 rfl rfl _ _ rfl rfl _ _ hrun ?_
                clear hrun ho3 hg3 hv3
                refine hK.out _ _ trivial (fun hS => ?_)
                clear hK
                refine takeH (i := 6) (d := 60) (v := ?vtc6) rfl (by kernel_rfl) (by kernel_rfl) (by kernel_rfl) (fun _ _ _ h => h) rfl (by rfl) ?ytc6 hS ?rtc6
                case ytc6 => (intro wz hz; go_simp <;> with_reducible rfl)
                simp only [List.setIfInBounds_toArray, List.set_cons_zero, List.set_cons_succ]
                refine wpAnyH_ready (rs := [7]) (by kernel_rfl) (by simp) ?_
                refine AllReadyH.cons rfl (fun K hK => ?_) AllReadyH.nil
                go_simp
                refine hK.out _ _ trivial (fun hS => ?_)
                clear hK
                refine wpAnyH_done (by kernel_rfl) ?_ _
                have R4 := Lib.hid (R3.out.set 12 (.slice A3 (j + 1) c3))
                clear hS f3 cc3 cl0 cl1 cl2
                go_wp2_with fail
                refine ⟨⟨j + 1, A3, c3, by omega, by go_num, R4, Lib.hid ?_, Lib.hid ?_, V3⟩, by simp [intOf]; omega⟩
                · refine own_len (O3.out.kept (grown_set w3 w.heap.size 12 _) (.inr (by intro e; have := (O3.out.lt _ e).1; omega))) ?_
                  rw [AKJ.out, UC_append]
                  rfl
                · exact P3.out.kept (grown_set w3 w.heap.size 12 _) (by
                    by_cases he : (Value.slice A k cp).ownBlock = none
                    · exact .inl he
                    · right
                      intro e
                      have := (P3.out.lt _ e).1
                      omega)
          · obtain rfl : j = na := by omega
            have HR2 := Lib.hid hres.out
            have HO2 := Lib.hid hown.out
            have HP2 := Lib.hid hpg.out
            clear hres hown hpg hap
            have E8 : e8 s = stK k s7 := by rw [e8, HNP.out, HS7.out]
            have ENA : eNa s = j := by rw [eNa, E8, HNA.out]
            have E9 : e9 s = s9 := by rw [e9, E8, HS9.out]
            have E10 : Hid (e10 s = stA j s9) := by
              show _ = _
              rw [e10, ENA, E9]
            have EPG : Hid ((reEnt s).pages = ims) := by
              show imK (eNp s) (e7 s) = ims
              rw [HNP.out, HS7.out, HIM.out]
            have EAC : Hid ((reEnt s).act = acK j s9) := by
              show acK (eNa s) (e9 s) = _
              rw [ENA, E9]
            have ONE : Hid ((#[.int .u64 (vl 8 (e1 s) : Int), .int .i64 (vl 1 s : Int), .int .u64 (vl 8 (e2 s) : Int), .int .u64 (vl 8 (e3 s) : Int), .int .u64 (vl 8 (e4 s) : Int), .int .u64 ((rrRec (e5 s)).id : Nat), .int .u64 ((rrRec (e5 s)).key : Nat), .int .u32 ((rrRec (e5 s)).x : Nat), .int .u32 ((rrRec (e5 s)).y : Nat), .string (strOf (rrRec (e5 s)).val), .bool (rrRec (e5 s)).ghost, .slice A k cp, .slice A2 j c2] : Array Value).all (·.oneCell') = true) := ent_one (reEnt s) A k cp A2 j c2
            clear E8 ENA E9
            go_wp2_with fail
            refine wp_region_held_drew (S := fun z => At z w.heap.size 42 #[.int .u64 (vl 8 (e1 s) : Int), .int .i64 (vl 1 s : Int), .int .u64 (vl 8 (e2 s) : Int), .int .u64 (vl 8 (e3 s) : Int), .int .u64 (vl 8 (e4 s) : Int), .int .u64 ((rrRec (e5 s)).id : Nat), .int .u64 ((rrRec (e5 s)).key : Nat), .int .u32 ((rrRec (e5 s)).x : Nat), .int .u32 ((rrRec (e5 s)).y : Nat), .string (strOf (rrRec (e5 s)).val), .bool (rrRec (e5 s)).ghost, .slice A k cp, .slice A2 j c2]) (by kernel_rfl) HR2.out.box (fun hS => ?_)
            refine takeH (i := 0) (d := 62) (v := .agg #[.int .u64 (vl 8 (e1 s) : Int), .int .i64 (vl 1 s : Int), .int .u64 (vl 8 (e2 s) : Int), .int .u64 (vl 8 (e3 s) : Int), .int .u64 (vl 8 (e4 s) : Int), .int .u64 ((rrRec (e5 s)).id : Nat), .int .u64 ((rrRec (e5 s)).key : Nat), .int .u32 ((rrRec (e5 s)).x : Nat), .int .u32 ((rrRec (e5 s)).y : Nat), .string (strOf (rrRec (e5 s)).val), .bool (rrRec (e5 s)).ghost, .slice A k cp, .slice A2 j c2]) rfl (by kernel_rfl) (by kernel_rfl) (by kernel_rfl) (fun _ _ _ h => h) rfl (by rfl) ?yw0 hS ?rw0
            case yw0 => (intro wz hz; exact exec_load_at 42 (.tmp 2) rfl w.heap.size rfl _ 13 str29 rfl hz)
            simp only [List.setIfInBounds_toArray, List.set_cons_zero, List.set_cons_succ]
            refine takeH (i := 1) (d := 63) (v := ?vw1) rfl (by kernel_rfl) (by kernel_rfl) (by kernel_rfl) (fun _ _ _ h => h) rfl (by rfl) ?yw1 hS ?rw1
            case yw1 => (intro wz hz; go_simp <;> with_reducible rfl)
            simp only [List.setIfInBounds_toArray, List.set_cons_zero, List.set_cons_succ]
            refine wpAnyH_ready (rs := [2]) (by kernel_rfl) (by simp) ?_
            refine AllReadyH.cons rfl (fun K hK => ?_) AllReadyH.nil
            go_simp
            refine (right_any g (stA j s9).1 (stA j s9).2 wr.drew (HR2.out.rdr.kept (fun _ _ => rfl))).mono ?_
            rintro e wq ⟨rfl, rfl⟩
            refine hK.out _ _ (hS) (fun hT => ?_)
            clear hK  hS
            have hS := hT
            clear hT
            refine wpAnyH_ready (rs := [3]) (by kernel_rfl) (by simp) ?_
            refine AllReadyH.cons rfl (fun K hK => ?_) AllReadyH.nil
            refine wp_store_at 42 (.tmp 2) (.tmp 62) rfl rfl w.heap.size rfl #[.int .u64 (vl 8 (e1 s) : Int), .int .i64 (vl 1 s : Int), .int .u64 (vl 8 (e2 s) : Int), .int .u64 (vl 8 (e3 s) : Int), .int .u64 (vl 8 (e4 s) : Int), .int .u64 ((rrRec (e5 s)).id : Nat), .int .u64 ((rrRec (e5 s)).key : Nat), .int .u32 ((rrRec (e5 s)).x : Nat), .int .u32 ((rrRec (e5 s)).y : Nat), .string (strOf (rrRec (e5 s)).val), .bool (rrRec (e5 s)).ghost, .slice A k cp, .slice A2 j c2] #[.int .u64 (vl 8 (e1 s) : Int), .int .i64 (vl 1 s : Int), .int .u64 (vl 8 (e2 s) : Int), .int .u64 (vl 8 (e3 s) : Int), .int .u64 (vl 8 (e4 s) : Int), .int .u64 ((rrRec (e5 s)).id : Nat), .int .u64 ((rrRec (e5 s)).key : Nat), .int .u32 ((rrRec (e5 s)).x : Nat), .int .u32 ((rrRec (e5 s)).y : Nat), .string (strOf (rrRec (e5 s)).val), .bool (rrRec (e5 s)).ghost, .slice A k cp, .slice A2 j c2] 13 rfl str29 rfl rfl ONE.out hS ?_
            intro y3 h3 k3
            refine hK.out _ _ (h3) (fun hT => ?_)
            clear hK  hS
            have hS := hT
            clear hT
            refine takeH (i := 4) (d := 3) (v := ?vw4) rfl (by kernel_rfl) (by kernel_rfl) (by kernel_rfl) (fun _ _ _ h => h) rfl (by rfl) ?yw4 hS ?rw4
            case yw4 => (intro wz hz; go_simp <;> with_reducible rfl)
            simp only [List.setIfInBounds_toArray, List.set_cons_zero, List.set_cons_succ]
            refine wpAnyH_done (by kernel_rfl) ?_ _
            have H3 := Lib.hid h3
            have K3 := Lib.hid k3
            clear h3 k3 hS
            go_wp2_with fail
            have hle : wr.heap.size ≤ y3.heap.size := K3.out.size
            have RF := Lib.hid (RES.turn (cs' := #[.int .u64 (vl 8 (e1 s) : Int), .int .i64 (vl 1 s : Int), .int .u64 (vl 8 (e2 s) : Int), .int .u64 (vl 8 (e3 s) : Int), .int .u64 (vl 8 (e4 s) : Int), .int .u64 ((rrRec (e5 s)).id : Nat), .int .u64 ((rrRec (e5 s)).key : Nat), .int .u32 ((rrRec (e5 s)).x : Nat), .int .u32 ((rrRec (e5 s)).y : Nat), .string (strOf (rrRec (e5 s)).val), .bool (rrRec (e5 s)).ghost, .slice A k cp, .slice A2 j c2]) (HR2.out.below ((Below.refl wr.heap.size wr).drew)) K3.out H3.out)
            have PF := (own_under HP2.out ((Below.refl wr.heap.size wr).drew) (Nat.le_refl _)).kept K3.out (by
              by_cases he : (Value.slice A k cp).ownBlock = none
              · exact .inl he
              · right
                intro e
                have := (HP2.out.lt _ e).1
                omega)
            have OF := (own_under HO2.out ((Below.refl wr.heap.size wr).drew) (Nat.le_refl _)).kept K3.out (by
              by_cases he : (Value.slice A2 j c2).ownBlock = none
              · exact .inl he
              · right
                intro e
                have := (HO2.out.lt _ e).1
                omega)
            refine bodyPost_ret (v := .tuple #[.agg #[.int .u64 (vl 8 (e1 s) : Int), .int .i64 (vl 1 s : Int), .int .u64 (vl 8 (e2 s) : Int), .int .u64 (vl 8 (e3 s) : Int), .int .u64 (vl 8 (e4 s) : Int), .int .u64 ((rrRec (e5 s)).id : Nat), .int .u64 ((rrRec (e5 s)).key : Nat), .int .u32 ((rrRec (e5 s)).x : Nat), .int .u32 ((rrRec (e5 s)).y : Nat), .string (strOf (rrRec (e5 s)).val), .bool (rrRec (e5 s)).ghost, .slice A k cp, .slice A2 j c2], .bool (!(stA j s9).2)]) (results_at2 rfl H3.out str29 rfl Tryd.results71 rfl) rfl ?_
            rw [Re, if_pos HYES.out]
            refine ⟨A, k, cp, A2, j, c2, ?_, ⟨?_, ?_⟩, ?_, ?_, RF.out.frame⟩
            · rw [E10.out]
              rfl
            · rw [EPG.out]
              exact LI.of_own PF
            · rw [EAC.out]
              exact Lies.of_own OF
            · rintro a (ha | ha)
              · subst ha
                exact (PF.lt a.block rfl).1
              · subst ha
                exact (OF.lt a.block rfl).1
            · rw [E10.out]
              exact RF.out.rdr
  · rw [Rr, if_neg hrr] at h6
    obtain ⟨rfl, hrd, hgr⟩ := h6
    have T := Lib.hid (R5.out.call (s' := e5 s) hrd hgr)
    have HNO : Hid (¬ (rrOk (e5 s) && okK (eNp s) (e7 s)) = true) := by
      intro hc
      rw [show rrOk (e5 s) = false by simpa using hrr] at hc
      simp at hc
    clear hrd hgr R5 hrr
    go_wp2_with (first
      | (refine wpList_store_rc (.tmp 27) (.tmp 25) rfl rfl rfl w.heap.size rfl zrc rfl _ _ _ _ _ _ _ _ _ _ _ _ _ T.out.box ?_; intro x7 h7 g7; have R7 := Lib.hid (T.out.turn g7 h7); clear h7 g7)
      | (refine wpList_store_at 42 (.tmp 2) (.tmp 30) rfl rfl rfl w.heap.size rfl #[.int .u64 0, .int .i64 0, .int .u64 0, .int .u64 0, .int .u64 0, .int .u64 0, .int .u64 0, .int .u32 0, .int .u32 0, .string ⟨#[]⟩, .bool false, .slice none 0 0, .slice none 0 0] _ 13 rfl str29 rfl rfl zz_one R7.out.box ?_; intro y9 h9 g9; have H9 := Lib.hid (R7.out.turn g9 h9); clear h9 g9))
    refine bodyPost_ret (v := .tuple #[.agg #[.int .u64 0, .int .i64 0, .int .u64 0, .int .u64 0, .int .u64 0, .int .u64 0, .int .u64 0, .int .u32 0, .int .u32 0, .string ⟨#[]⟩, .bool false, .slice none 0 0, .slice none 0 0], .bool false]) (results_at2 rfl H9.out.box str29 rfl Tryd.results71 rfl) rfl ?_
    rw [Re, if_neg HNO.out]
    exact ⟨rfl, H9.out.frame⟩
end Go.Proofs.YthicidpdgggbjaaDoor
