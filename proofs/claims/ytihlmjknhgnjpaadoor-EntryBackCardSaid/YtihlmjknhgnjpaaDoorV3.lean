/-
  Walks: EntryBack.
  Conditions: none beyond those that each theorem names.
-/
import Derived.Test.YtihlmjknhgnjpaaDoorV2
namespace Go.Proofs.YtihlmjknhgnjpaaDoor
open Go.RowKit
set_option maxRecDepth 20000

theorem isE_ent (e : Ent) (he : e.ok) (hz : chk e = 0) : isE (entL e) = true ∧ reEnt (entL e, false) = e := by
  obtain ⟨h1, h2, h3⟩ := re_put e he (chk_zero hz)
  refine ⟨?_, h2⟩
  rw [isE, h1, h2, h3, hz]
  rfl
theorem ent_isE {b : List UInt8} (h : isE b = true) : b = entL (reEnt (b, false)) ∧ (reEnt (b, false)).ok ∧ chk (reEnt (b, false)) = 0 := by
  simp only [isE, Bool.and_eq_true, decide_eq_true_eq] at h
  obtain ⟨h1, h2, h3⟩ := h
  obtain ⟨h4, h5⟩ := re_inv h1 h2
  exact ⟨congrArg Prod.fst h4, h5, h3⟩
theorem sealL_take (l : List UInt8) : (sealL l).take l.length = l := by simp [sealL]
theorem sealL_drop (l : List UInt8) : (sealL l).drop l.length = Crc.le4 (Crc.sumN l) := by simp [sealL]

/-- What Get gives of any bytes. -/
def GetP (w : World) (l : List UInt8) (r : Ending) (w' : World) : Prop :=
  GtNo w 3 r w' ∨ GtNo w 5 r w' ∨ ∃ f, f.ok ∧ chk f = 0 ∧ l = sealL (entL f) ∧ GtYes w f r w'
theorem get_all (n c : Nat) (A : Option Addr) (l : List UInt8) (w : World) (h : Lies w w.heap.size 1 A n (BC l)) (hn : n ≤ 9000) (hc : n ≤ c) : Calls Tryd.prog 16 #[.slice A n c] w (GetP w l) := by
  have hl : l.length = n := by have := h.len; rw [BC_length] at this; omega
  by_cases h4 : n < 4
  · exact (get_bad n c A l w h hn hc (.inl h4)).mono fun _ _ h => .inr (.inl h)
  · cases hz : (l.drop (n - 4) == Crc.le4 (Crc.sumN (l.take (n - 4)))) with
    | false => exact (get_bad n c A l w h hn hc (.inr hz)).mono fun _ _ h => .inr (.inl h)
    | true =>
      refine (get_body n c A l w (n - 4) (l.take (n - 4)) h hn hc (by omega) hz rfl).mono fun r w' hg => ?_
      by_cases hi : isE (l.take (n - 4)) = true
      · rw [Gt, if_pos hi] at hg
        obtain ⟨h1, h2, h3⟩ := ent_isE hi
        refine .inr (.inr ⟨_, h2, h3, ?_, hg⟩)
        rw [← h1, sealL, ← eq_of_beq hz, List.take_append_drop]
      · rw [Gt, if_neg hi] at hg
        exact .inl hg
theorem gt_yes (w : World) (b : List UInt8) (e : Ent) (h : isE b = true) (h2 : reEnt (b, false) = e) : ∀ r w', Gt w b r w' → GtYes w e r w' := by
  intro r w'
  rw [Gt, if_pos h, h2]
  exact id
theorem own_cap {w : World} {base n c : Nat} {e : TypeId} {size : Nat} {A : Option Addr} {xs : List Value} (h : w.ownsRow base e size (.slice A n c) n xs) : n ≤ c := by
  obtain ⟨_, c', hv', h1, _⟩ := own_slice h
  injection hv' with _ _ h3
  omega
theorem get_own (e : Ent) (n c : Nat) (A : Option Addr) (w : World) (h : Lies w w.heap.size 1 A n (BC (sealL (entL e)))) (he : e.ok) (hz : chk e = 0) (hc : n ≤ c) : Calls Tryd.prog 16 #[.slice A n c] w (GtYes w e) := by
  have G := chk_zero hz
  have g1 := entL_length e G.val
  have g2 := G.pages
  have g3 := G.act
  have hn : n = (entL e).length + 4 := by have := h.len; rw [BC_length, sealL_length] at this; omega
  obtain ⟨i1, i2⟩ := isE_ent e he hz
  refine (get_body n c A _ w (entL e).length (entL e) h (by omega) hc hn (by rw [sealL_take, sealL_drop, beq_self_eq_true]) (sealL_take _).symm).mono (gt_yes w _ e i1 i2)

set_option maxHeartbeats 800000 in
theorem back_big (e : Ent) (PA QA : Option Addr) (np pc na qc : Nat) (A : Option Addr) (n c : Nat) (w : World) (hnp : np ≤ maxLen) (hna : na ≤ maxLen) (hv : e.rc.val.length ≤ maxLen) (hnm : n ≤ maxLen)
    (hbig : lightI e.rc.val.length np na = 1 ∨ 6000 < n) : Calls Tryd.prog 4 #[.agg #[.int .u64 (e.lsn : Nat), .int .i64 e.kind, .int .u64 (e.txn : Nat), .int .u64 (e.prev : Nat), .int .u64 (e.next : Nat), .int .u64 (e.rc.id : Nat), .int .u64 (e.rc.key : Nat), .int .u32 (e.rc.x : Nat), .int .u32 (e.rc.y : Nat), .string (strOf e.rc.val), .bool e.rc.ghost, .slice PA np pc, .slice QA na qc], .slice A n c] w (RetQ w true) := by
  have B0 := Lib.hid ((Below.refl w.heap.size w).alloc (Nat.le_refl _) (.cells #[.int .u64 (e.lsn : Nat), .int .i64 e.kind, .int .u64 (e.txn : Nat), .int .u64 (e.prev : Nat), .int .u64 (e.next : Nat), .int .u64 (e.rc.id : Nat), .int .u64 (e.rc.key : Nat), .int .u32 (e.rc.x : Nat), .int .u32 (e.rc.y : Nat), .string (strOf e.rc.val), .bool e.rc.ghost, .slice PA np pc, .slice QA na qc] 29))
  have X0 := Lib.hid (At.new w 29 #[.int .u64 (e.lsn : Nat), .int .i64 e.kind, .int .u64 (e.txn : Nat), .int .u64 (e.prev : Nat), .int .u64 (e.next : Nat), .int .u64 (e.rc.id : Nat), .int .u64 (e.rc.key : Nat), .int .u32 (e.rc.x : Nat), .int .u32 (e.rc.y : Nat), .string (strOf e.rc.val), .bool e.rc.ghost, .slice PA np pc, .slice QA na qc])
  obtain ⟨le, HLE⟩ : ∃ z, Hid (lightI e.rc.val.length np na = z) := ⟨_, Lib.hid rfl⟩
  rw [HLE.out] at hbig
  have HB := Lib.hid hbig
  unfold maxLen at hnm
  clear hbig
  go_enter Tryd.func4, Tryd.ntmps4
  go_wp2_with (refine wpList_load_at 29 13 (.tmp 2) rfl rfl rfl w.heap.size rfl #[.int .u64 (e.lsn : Nat), .int .i64 e.kind, .int .u64 (e.txn : Nat), .int .u64 (e.prev : Nat), .int .u64 (e.next : Nat), .int .u64 (e.rc.id : Nat), .int .u64 (e.rc.key : Nat), .int .u32 (e.rc.x : Nat), .int .u32 (e.rc.y : Nat), .string (strOf e.rc.val), .bool e.rc.ghost, .slice PA np pc, .slice QA na qc] 13 str29 rfl X0.out ?_)
  refine (light_any e PA QA np pc na qc _ hnp hna hv).mono ?_
  rintro r w1 ⟨rfl, hb1⟩
  rw [HLE.out]
  have B1 := Lib.hid (B0.out.trans (hb1.mono (by simp)))
  clear hb1 B0 X0 hnp hna hv
  rcases (show le = 0 ∨ le = 1 by rw [← HLE.out]; exact light_or _ _ _) with rfl | rfl
  · have h2 : 6000 < n := by rcases HB.out with h | h; cases h; exact h
    clear HB HLE
    go_wp2_with fail
    refine (works_any _).mono ?_
    rintro r w3 ⟨rfl, hb3⟩
    have B3 := Lib.hid (B1.out.trans (hb3.mono B1.out.size))
    clear hb3
    go_wp2_with fail
    go_ret
    exact ⟨rfl, B3.out⟩
  · clear HB HLE
    go_wp2_with fail
    refine (works_any _).mono ?_
    rintro r w3 ⟨rfl, hb3⟩
    have B3 := Lib.hid (B1.out.trans (hb3.mono B1.out.size))
    clear hb3
    go_wp2_with fail
    go_ret
    exact ⟨rfl, B3.out⟩

set_option maxHeartbeats 6400000 in
theorem back_law (e : Ent) (PA QA : Option Addr) (np pc na qc : Nat) (A : Option Addr) (n c : Nat) (l : List UInt8) (w : World) (h : EL w w.heap.size e PA np QA na) (hl : Lies w w.heap.size 1 A n (BC l)) (he : e.ok)
    (hv : e.rc.val.length ≤ 100) (hnp : np ≤ 40) (hna : na ≤ 100) (hn : n ≤ 6000) (hc : n ≤ c) :
    Calls Tryd.prog 4 #[.agg #[.int .u64 (e.lsn : Nat), .int .i64 e.kind, .int .u64 (e.txn : Nat), .int .u64 (e.prev : Nat), .int .u64 (e.next : Nat), .int .u64 (e.rc.id : Nat), .int .u64 (e.rc.key : Nat), .int .u32 (e.rc.x : Nat), .int .u32 (e.rc.y : Nat), .string (strOf e.rc.val), .bool e.rc.ghost, .slice PA np pc, .slice QA na qc], .slice A n c] w (RetQ w true) := by
  have B0 := Lib.hid ((Below.refl w.heap.size w).alloc (Nat.le_refl _) (.cells #[.int .u64 (e.lsn : Nat), .int .i64 e.kind, .int .u64 (e.txn : Nat), .int .u64 (e.prev : Nat), .int .u64 (e.next : Nat), .int .u64 (e.rc.id : Nat), .int .u64 (e.rc.key : Nat), .int .u32 (e.rc.x : Nat), .int .u32 (e.rc.y : Nat), .string (strOf e.rc.val), .bool e.rc.ghost, .slice PA np pc, .slice QA na qc] 29))
  have X0 := Lib.hid (At.new w 29 #[.int .u64 (e.lsn : Nat), .int .i64 e.kind, .int .u64 (e.txn : Nat), .int .u64 (e.prev : Nat), .int .u64 (e.next : Nat), .int .u64 (e.rc.id : Nat), .int .u64 (e.rc.key : Nat), .int .u32 (e.rc.x : Nat), .int .u32 (e.rc.y : Nat), .string (strOf e.rc.val), .bool e.rc.ghost, .slice PA np pc, .slice QA na qc])
  have HE := Lib.hid h
  have L0 := Lib.hid hl
  have HLE : lightI e.rc.val.length np na = 0 := by rw [lightI, if_neg (by omega)]
  have HCK : Hid (chk e = 0 ∨ chk e ≠ 0) := Lib.hid (Classical.em _)
  have HOK := Lib.hid he
  have NN := Lib.hid (show e.rc.val.length ≤ 100 ∧ np ≤ 40 ∧ na ≤ 100 from ⟨hv, hnp, hna⟩)
  have HC := Lib.hid hc
  clear h hl he hv hnp hna hc
  go_enter Tryd.func4, Tryd.ntmps4
  go_wp2_with (refine wpList_load_at 29 13 (.tmp 2) rfl rfl rfl w.heap.size rfl #[.int .u64 (e.lsn : Nat), .int .i64 e.kind, .int .u64 (e.txn : Nat), .int .u64 (e.prev : Nat), .int .u64 (e.next : Nat), .int .u64 (e.rc.id : Nat), .int .u64 (e.rc.key : Nat), .int .u32 (e.rc.x : Nat), .int .u32 (e.rc.y : Nat), .string (strOf e.rc.val), .bool e.rc.ghost, .slice PA np pc, .slice QA na qc] 13 str29 rfl X0.out ?_)
  refine (light_any e PA QA np pc na qc _ (by have := NN.out; unfold maxLen; omega) (by have := NN.out; unfold maxLen; omega) (by have := NN.out; unfold maxLen; omega)).mono ?_
  rintro r w1 ⟨rfl, hb1⟩
  rw [HLE]
  have X1 := Lib.hid (X0.out.under hb1 X0.out.lt)
  have B1 := Lib.hid (B0.out.trans (hb1.mono (by simp)))
  clear hb1 B0 X0 HLE
  have dn : decide ((6000 : Int) < (n : Int)) = false := by simp; omega
  go_wp2_with (refine wpList_load_at 29 23 (.tmp 2) rfl rfl rfl w.heap.size rfl #[.int .u64 (e.lsn : Nat), .int .i64 e.kind, .int .u64 (e.txn : Nat), .int .u64 (e.prev : Nat), .int .u64 (e.next : Nat), .int .u64 (e.rc.id : Nat), .int .u64 (e.rc.key : Nat), .int .u32 (e.rc.x : Nat), .int .u32 (e.rc.y : Nat), .string (strOf e.rc.val), .bool e.rc.ghost, .slice PA np pc, .slice QA na qc] 13 str29 rfl X1.out ?_)
  have E1 := Lib.hid ((HE.out.under B1.out).up B1.out.size)
  rcases HCK.out with hz | hz
  · refine (put_good e PA QA np pc na qc w1 E1.out HOK.out hz).mono ?_
    rintro r w2 ⟨A2, n2, c2, rfl, ho2, hb2⟩
    have k2 := own_cap ho2
    have L2 := Lib.hid (Lies.of_own ho2)
    have X2 := Lib.hid (X1.out.under hb2 X1.out.lt)
    have B2 := Lib.hid (B1.out.trans (hb2.mono B1.out.size))
    clear ho2 hb2 X1 B1 E1
    go_wp2_with fail
    refine (get_own e n2 c2 A2 w2 L2.out HOK.out hz k2).mono ?_
    rintro r w3 ⟨RA, mp, rc, SA, ma, sc, rfl, hel, _, hb3⟩
    have lP := hel.lenP
    have lA := hel.lenA
    have lp : np = mp := by rw [← HE.out.lenP, lP]
    have la : na = ma := by rw [← HE.out.lenA, lA]
    have hmp : mp ≤ 1000 := by have := NN.out; omega
    have hma : ma ≤ 1000 := by have := NN.out; omega
    have X3 := Lib.hid ((X2.out.under hb3 X2.out.lt).alloc (.cells #[.int .u64 (e.lsn : Nat), .int .i64 e.kind, .int .u64 (e.txn : Nat), .int .u64 (e.prev : Nat), .int .u64 (e.next : Nat), .int .u64 (e.rc.id : Nat), .int .u64 (e.rc.key : Nat), .int .u32 (e.rc.x : Nat), .int .u32 (e.rc.y : Nat), .string (strOf e.rc.val), .bool e.rc.ghost, .slice RA mp rc, .slice SA ma sc] 29))
    have B3 := Lib.hid ((B2.out.trans (hb3.mono B2.out.size)).alloc (Nat.le_trans B2.out.size hb3.size) (.cells #[.int .u64 (e.lsn : Nat), .int .i64 e.kind, .int .u64 (e.txn : Nat), .int .u64 (e.prev : Nat), .int .u64 (e.next : Nat), .int .u64 (e.rc.id : Nat), .int .u64 (e.rc.key : Nat), .int .u32 (e.rc.x : Nat), .int .u32 (e.rc.y : Nat), .string (strOf e.rc.val), .bool e.rc.ghost, .slice RA mp rc, .slice SA ma sc] 29))
    have F3 := Lib.hid (At.new w3 29 #[.int .u64 (e.lsn : Nat), .int .i64 e.kind, .int .u64 (e.txn : Nat), .int .u64 (e.prev : Nat), .int .u64 (e.next : Nat), .int .u64 (e.rc.id : Nat), .int .u64 (e.rc.key : Nat), .int .u32 (e.rc.x : Nat), .int .u32 (e.rc.y : Nat), .string (strOf e.rc.val), .bool e.rc.ghost, .slice RA mp rc, .slice SA ma sc])
    have EF := Lib.hid ((hel.under ((Below.refl _ _).alloc (Nat.le_refl _) (.cells #[.int .u64 (e.lsn : Nat), .int .i64 e.kind, .int .u64 (e.txn : Nat), .int .u64 (e.prev : Nat), .int .u64 (e.next : Nat), .int .u64 (e.rc.id : Nat), .int .u64 (e.rc.key : Nat), .int .u32 (e.rc.x : Nat), .int .u32 (e.rc.y : Nat), .string (strOf e.rc.val), .bool e.rc.ghost, .slice RA mp rc, .slice SA ma sc] 29))).up (B' := (w3.alloc (.cells #[.int .u64 (e.lsn : Nat), .int .i64 e.kind, .int .u64 (e.txn : Nat), .int .u64 (e.prev : Nat), .int .u64 (e.next : Nat), .int .u64 (e.rc.id : Nat), .int .u64 (e.rc.key : Nat), .int .u32 (e.rc.x : Nat), .int .u32 (e.rc.y : Nat), .string (strOf e.rc.val), .bool e.rc.ghost, .slice RA mp rc, .slice SA ma sc] 29)).heap.size) (by simp))
    have ONE := Lib.hid (ent_one e RA mp rc SA ma sc)
    clear hel hb3 X2 B2 L2 k2 lP lA lp la
    go_wp2_with (first
      | refine wpList_store_new 29 (.tmp 7) (.tmp 32) rfl rfl rfl w3.heap.size w3 rfl rfl #[.int .u64 (e.lsn : Nat), .int .i64 e.kind, .int .u64 (e.txn : Nat), .int .u64 (e.prev : Nat), .int .u64 (e.next : Nat), .int .u64 (e.rc.id : Nat), .int .u64 (e.rc.key : Nat), .int .u32 (e.rc.x : Nat), .int .u32 (e.rc.y : Nat), .string (strOf e.rc.val), .bool e.rc.ghost, .slice RA mp rc, .slice SA ma sc] #[.int .u64 0, .int .i64 0, .int .u64 0, .int .u64 0, .int .u64 0, .int .u64 0, .int .u64 0, .int .u32 0, .int .u32 0, .string ⟨#[]⟩, .bool false, .slice none 0 0, .slice none 0 0] 13 rfl str29 rfl rfl ONE.out rfl ?_
      | refine wpList_load_atG 29 37 (.tmp 2) rfl (by rfl) rfl w.heap.size rfl #[.int .u64 (e.lsn : Nat), .int .i64 e.kind, .int .u64 (e.txn : Nat), .int .u64 (e.prev : Nat), .int .u64 (e.next : Nat), .int .u64 (e.rc.id : Nat), .int .u64 (e.rc.key : Nat), .int .u32 (e.rc.x : Nat), .int .u32 (e.rc.y : Nat), .string (strOf e.rc.val), .bool e.rc.ghost, .slice PA np pc, .slice QA na qc] 13 str29 rfl X3.out ?_
      | refine wpList_load_atG 29 38 (.tmp 7) rfl (by rfl) rfl w3.heap.size rfl #[.int .u64 (e.lsn : Nat), .int .i64 e.kind, .int .u64 (e.txn : Nat), .int .u64 (e.prev : Nat), .int .u64 (e.next : Nat), .int .u64 (e.rc.id : Nat), .int .u64 (e.rc.key : Nat), .int .u32 (e.rc.x : Nat), .int .u32 (e.rc.y : Nat), .string (strOf e.rc.val), .bool e.rc.ghost, .slice RA mp rc, .slice SA ma sc] 13 str29 rfl F3.out ?_)
    generalize hV : w3.alloc (.cells #[.int .u64 (e.lsn : Nat), .int .i64 e.kind, .int .u64 (e.txn : Nat), .int .u64 (e.prev : Nat), .int .u64 (e.next : Nat), .int .u64 (e.rc.id : Nat), .int .u64 (e.rc.key : Nat), .int .u32 (e.rc.x : Nat), .int .u32 (e.rc.y : Nat), .string (strOf e.rc.val), .bool e.rc.ghost, .slice RA mp rc, .slice SA ma sc] 29) = w4 at *
    clear hV
    refine (refSame_any e e PA QA RA SA np pc na qc mp rc ma sc w4 ((HE.out.under B3.out).up B3.out.size) EF.out (by have := NN.out; omega) (by have := NN.out; omega) hmp hma).mono ?_
    rintro r w5 ⟨rfl, hb5⟩
    rw [sameE_refl]
    have B5 := Lib.hid (B3.out.trans (hb5.mono B3.out.size))
    clear hb5 X3 F3 EF B3 ONE hmp hma
    go_wp2_with fail
    have LB := Lib.hid ((L0.out.under B5.out).up B5.out.size)
    refine (get_all n c A l w5 LB.out (by omega) HC.out).mono ?_
    rintro r w6 (⟨rfl, hb6⟩ | ⟨rfl, hb6⟩ | ⟨f, hf, hk, rfl, TA, tp, tc, UA, ta, uc, rfl, hel, _, hb6⟩)
    · have B7 := Lib.hid ((B5.out.trans (hb6.mono B5.out.size)).alloc (Nat.le_trans B5.out.size hb6.size) (.cells #[.int .u64 0, .int .i64 0, .int .u64 0, .int .u64 0, .int .u64 0, .int .u64 0, .int .u64 0, .int .u32 0, .int .u32 0, .string ⟨#[]⟩, .bool false, .slice none 0 0, .slice none 0 0] 29))
      have F7 := Lib.hid (At.new w6 29 #[.int .u64 0, .int .i64 0, .int .u64 0, .int .u64 0, .int .u64 0, .int .u64 0, .int .u64 0, .int .u32 0, .int .u32 0, .string ⟨#[]⟩, .bool false, .slice none 0 0, .slice none 0 0])
      clear hb6 LB B5
      go_wp2_with (first
        | refine wpList_store_new 29 (.tmp 9) (.tmp 45) rfl rfl rfl w6.heap.size w6 rfl rfl #[.int .u64 0, .int .i64 0, .int .u64 0, .int .u64 0, .int .u64 0, .int .u64 0, .int .u64 0, .int .u32 0, .int .u32 0, .string ⟨#[]⟩, .bool false, .slice none 0 0, .slice none 0 0] #[.int .u64 0, .int .i64 0, .int .u64 0, .int .u64 0, .int .u64 0, .int .u64 0, .int .u64 0, .int .u32 0, .int .u32 0, .string ⟨#[]⟩, .bool false, .slice none 0 0, .slice none 0 0] 13 rfl str29 rfl rfl zz_one rfl ?_
        | refine wpList_load_atG 29 56 (.tmp 9) rfl (by rfl) rfl w6.heap.size rfl #[.int .u64 0, .int .i64 0, .int .u64 0, .int .u64 0, .int .u64 0, .int .u64 0, .int .u64 0, .int .u32 0, .int .u32 0, .string ⟨#[]⟩, .bool false, .slice none 0 0, .slice none 0 0] 13 str29 rfl F7.out ?_)
      generalize hV : w6.alloc (.cells #[.int .u64 0, .int .i64 0, .int .u64 0, .int .u64 0, .int .u64 0, .int .u64 0, .int .u64 0, .int .u32 0, .int .u32 0, .string ⟨#[]⟩, .bool false, .slice none 0 0, .slice none 0 0] 29) = w7 at *
      clear hV
      refine (refSame_any zent zent none none none none 0 0 0 0 0 0 0 0 w7 ⟨LI.empty, Lies.empty⟩ ⟨LI.empty, Lies.empty⟩ (by omega) (by omega) (by omega) (by omega)).mono ?_
      rintro r w8 ⟨rfl, hb8⟩
      rw [sameE_refl]
      have B8 := Lib.hid (B7.out.trans (hb8.mono B7.out.size))
      clear hb8 B7 F7
      go_wp2_with fail
      refine (works_any _).mono ?_
      rintro r w10 ⟨rfl, hb10⟩
      have B10 := Lib.hid (B8.out.trans (hb10.mono B8.out.size))
      clear hb10
      go_wp2_with fail
      go_ret
      exact ⟨rfl, B10.out⟩
    · have B7 := Lib.hid ((B5.out.trans (hb6.mono B5.out.size)).alloc (Nat.le_trans B5.out.size hb6.size) (.cells #[.int .u64 0, .int .i64 0, .int .u64 0, .int .u64 0, .int .u64 0, .int .u64 0, .int .u64 0, .int .u32 0, .int .u32 0, .string ⟨#[]⟩, .bool false, .slice none 0 0, .slice none 0 0] 29))
      have F7 := Lib.hid (At.new w6 29 #[.int .u64 0, .int .i64 0, .int .u64 0, .int .u64 0, .int .u64 0, .int .u64 0, .int .u64 0, .int .u32 0, .int .u32 0, .string ⟨#[]⟩, .bool false, .slice none 0 0, .slice none 0 0])
      clear hb6 LB B5
      go_wp2_with (first
        | refine wpList_store_new 29 (.tmp 9) (.tmp 45) rfl rfl rfl w6.heap.size w6 rfl rfl #[.int .u64 0, .int .i64 0, .int .u64 0, .int .u64 0, .int .u64 0, .int .u64 0, .int .u64 0, .int .u32 0, .int .u32 0, .string ⟨#[]⟩, .bool false, .slice none 0 0, .slice none 0 0] #[.int .u64 0, .int .i64 0, .int .u64 0, .int .u64 0, .int .u64 0, .int .u64 0, .int .u64 0, .int .u32 0, .int .u32 0, .string ⟨#[]⟩, .bool false, .slice none 0 0, .slice none 0 0] 13 rfl str29 rfl rfl zz_one rfl ?_
        | refine wpList_load_atG 29 56 (.tmp 9) rfl (by rfl) rfl w6.heap.size rfl #[.int .u64 0, .int .i64 0, .int .u64 0, .int .u64 0, .int .u64 0, .int .u64 0, .int .u64 0, .int .u32 0, .int .u32 0, .string ⟨#[]⟩, .bool false, .slice none 0 0, .slice none 0 0] 13 str29 rfl F7.out ?_)
      generalize hV : w6.alloc (.cells #[.int .u64 0, .int .i64 0, .int .u64 0, .int .u64 0, .int .u64 0, .int .u64 0, .int .u64 0, .int .u32 0, .int .u32 0, .string ⟨#[]⟩, .bool false, .slice none 0 0, .slice none 0 0] 29) = w7 at *
      clear hV
      refine (refSame_any zent zent none none none none 0 0 0 0 0 0 0 0 w7 ⟨LI.empty, Lies.empty⟩ ⟨LI.empty, Lies.empty⟩ (by omega) (by omega) (by omega) (by omega)).mono ?_
      rintro r w8 ⟨rfl, hb8⟩
      rw [sameE_refl]
      have B8 := Lib.hid (B7.out.trans (hb8.mono B7.out.size))
      clear hb8 B7 F7
      go_wp2_with fail
      refine (works_any _).mono ?_
      rintro r w10 ⟨rfl, hb10⟩
      have B10 := Lib.hid (B8.out.trans (hb10.mono B8.out.size))
      clear hb10
      go_wp2_with fail
      go_ret
      exact ⟨rfl, B10.out⟩
    · have g2 := (chk_zero hk).pages
      have g3 := (chk_zero hk).act
      rw [hel.lenP] at g2
      rw [hel.lenA] at g3
      have B7 := Lib.hid ((B5.out.trans (hb6.mono B5.out.size)).alloc (Nat.le_trans B5.out.size hb6.size) (.cells #[.int .u64 (f.lsn : Nat), .int .i64 f.kind, .int .u64 (f.txn : Nat), .int .u64 (f.prev : Nat), .int .u64 (f.next : Nat), .int .u64 (f.rc.id : Nat), .int .u64 (f.rc.key : Nat), .int .u32 (f.rc.x : Nat), .int .u32 (f.rc.y : Nat), .string (strOf f.rc.val), .bool f.rc.ghost, .slice TA tp tc, .slice UA ta uc] 29))
      have F7 := Lib.hid (At.new w6 29 #[.int .u64 (f.lsn : Nat), .int .i64 f.kind, .int .u64 (f.txn : Nat), .int .u64 (f.prev : Nat), .int .u64 (f.next : Nat), .int .u64 (f.rc.id : Nat), .int .u64 (f.rc.key : Nat), .int .u32 (f.rc.x : Nat), .int .u32 (f.rc.y : Nat), .string (strOf f.rc.val), .bool f.rc.ghost, .slice TA tp tc, .slice UA ta uc])
      have EG := Lib.hid ((hel.under ((Below.refl _ _).alloc (Nat.le_refl _) (.cells #[.int .u64 (f.lsn : Nat), .int .i64 f.kind, .int .u64 (f.txn : Nat), .int .u64 (f.prev : Nat), .int .u64 (f.next : Nat), .int .u64 (f.rc.id : Nat), .int .u64 (f.rc.key : Nat), .int .u32 (f.rc.x : Nat), .int .u32 (f.rc.y : Nat), .string (strOf f.rc.val), .bool f.rc.ghost, .slice TA tp tc, .slice UA ta uc] 29))).up (B' := (w6.alloc (.cells #[.int .u64 (f.lsn : Nat), .int .i64 f.kind, .int .u64 (f.txn : Nat), .int .u64 (f.prev : Nat), .int .u64 (f.next : Nat), .int .u64 (f.rc.id : Nat), .int .u64 (f.rc.key : Nat), .int .u32 (f.rc.x : Nat), .int .u32 (f.rc.y : Nat), .string (strOf f.rc.val), .bool f.rc.ghost, .slice TA tp tc, .slice UA ta uc] 29)).heap.size) (by simp))
      have ONG := Lib.hid (ent_one f TA tp tc UA ta uc)
      clear hel hb6 LB B5
      go_wp2_with (first
        | refine wpList_store_new 29 (.tmp 9) (.tmp 45) rfl rfl rfl w6.heap.size w6 rfl rfl #[.int .u64 (f.lsn : Nat), .int .i64 f.kind, .int .u64 (f.txn : Nat), .int .u64 (f.prev : Nat), .int .u64 (f.next : Nat), .int .u64 (f.rc.id : Nat), .int .u64 (f.rc.key : Nat), .int .u32 (f.rc.x : Nat), .int .u32 (f.rc.y : Nat), .string (strOf f.rc.val), .bool f.rc.ghost, .slice TA tp tc, .slice UA ta uc] #[.int .u64 0, .int .i64 0, .int .u64 0, .int .u64 0, .int .u64 0, .int .u64 0, .int .u64 0, .int .u32 0, .int .u32 0, .string ⟨#[]⟩, .bool false, .slice none 0 0, .slice none 0 0] 13 rfl str29 rfl rfl ONG.out rfl ?_
        | refine wpList_load_at 29 64 (.tmp 9) rfl rfl rfl w6.heap.size rfl #[.int .u64 (f.lsn : Nat), .int .i64 f.kind, .int .u64 (f.txn : Nat), .int .u64 (f.prev : Nat), .int .u64 (f.next : Nat), .int .u64 (f.rc.id : Nat), .int .u64 (f.rc.key : Nat), .int .u32 (f.rc.x : Nat), .int .u32 (f.rc.y : Nat), .string (strOf f.rc.val), .bool f.rc.ghost, .slice TA tp tc, .slice UA ta uc] 13 str29 rfl F7.out ?_)
      generalize hV : w6.alloc (.cells #[.int .u64 (f.lsn : Nat), .int .i64 f.kind, .int .u64 (f.txn : Nat), .int .u64 (f.prev : Nat), .int .u64 (f.next : Nat), .int .u64 (f.rc.id : Nat), .int .u64 (f.rc.key : Nat), .int .u32 (f.rc.x : Nat), .int .u32 (f.rc.y : Nat), .string (strOf f.rc.val), .bool f.rc.ghost, .slice TA tp tc, .slice UA ta uc] 29) = w7 at *
      clear hV
      refine (put_good f TA UA tp tc ta uc w7 EG.out hf hk).mono ?_
      rintro r w8 ⟨A8, n8, c8, rfl, ho8, hb8⟩
      have L8 := Lib.hid (Lies.of_own ho8)
      have B8 := Lib.hid (B7.out.trans (hb8.mono B7.out.size))
      clear ho8 hb8 B7 F7 EG ONG
      go_wp2_with fail
      refine (same_any _ _ _ _ _ _ _ _ _ _ w8 L8.out (L0.out.under B8.out)).mono ?_
      rintro r w9 ⟨rfl, rfl⟩
      rw [show (sealL (entL f) == sealL (entL f)) = true by simp]
      go_wp2_with fail
      refine (works_any _).mono ?_
      rintro r w10 ⟨rfl, hb10⟩
      have B10 := Lib.hid (B8.out.trans (hb10.mono B8.out.size))
      clear hb10
      go_wp2_with fail
      go_ret
      exact ⟨rfl, B10.out⟩
  · refine (put_bad e PA QA np pc na qc w1 (chk e) E1.out (by have := NN.out; omega) (by have := NN.out; omega) (by have := NN.out; omega) rfl (by rw [bne_iff_ne]; exact hz)).mono ?_
    rintro r w5 ⟨rfl, hb2⟩
    have B5 := Lib.hid (B1.out.trans (hb2.mono B1.out.size))
    obtain ⟨z, HZ⟩ : ∃ z, chk e = z := ⟨_, rfl⟩
    rw [HZ] at hz ⊢
    have hz2 : decide (z = 0) = false := by simp; exact hz
    clear hb2 X1 B1 E1 HZ
    go_wp2_with fail
    have LB := Lib.hid ((L0.out.under B5.out).up B5.out.size)
    refine (get_all n c A l w5 LB.out (by omega) HC.out).mono ?_
    rintro r w6 (⟨rfl, hb6⟩ | ⟨rfl, hb6⟩ | ⟨f, hf, hk, rfl, TA, tp, tc, UA, ta, uc, rfl, hel, _, hb6⟩)
    · have B7 := Lib.hid ((B5.out.trans (hb6.mono B5.out.size)).alloc (Nat.le_trans B5.out.size hb6.size) (.cells #[.int .u64 0, .int .i64 0, .int .u64 0, .int .u64 0, .int .u64 0, .int .u64 0, .int .u64 0, .int .u32 0, .int .u32 0, .string ⟨#[]⟩, .bool false, .slice none 0 0, .slice none 0 0] 29))
      have F7 := Lib.hid (At.new w6 29 #[.int .u64 0, .int .i64 0, .int .u64 0, .int .u64 0, .int .u64 0, .int .u64 0, .int .u64 0, .int .u32 0, .int .u32 0, .string ⟨#[]⟩, .bool false, .slice none 0 0, .slice none 0 0])
      clear hb6 LB B5
      go_wp2_with (first
        | refine wpList_store_new 29 (.tmp 9) (.tmp 45) rfl rfl rfl w6.heap.size w6 rfl rfl #[.int .u64 0, .int .i64 0, .int .u64 0, .int .u64 0, .int .u64 0, .int .u64 0, .int .u64 0, .int .u32 0, .int .u32 0, .string ⟨#[]⟩, .bool false, .slice none 0 0, .slice none 0 0] #[.int .u64 0, .int .i64 0, .int .u64 0, .int .u64 0, .int .u64 0, .int .u64 0, .int .u64 0, .int .u32 0, .int .u32 0, .string ⟨#[]⟩, .bool false, .slice none 0 0, .slice none 0 0] 13 rfl str29 rfl rfl zz_one rfl ?_
        | refine wpList_load_atG 29 56 (.tmp 9) rfl (by rfl) rfl w6.heap.size rfl #[.int .u64 0, .int .i64 0, .int .u64 0, .int .u64 0, .int .u64 0, .int .u64 0, .int .u64 0, .int .u32 0, .int .u32 0, .string ⟨#[]⟩, .bool false, .slice none 0 0, .slice none 0 0] 13 str29 rfl F7.out ?_)
      generalize hV : w6.alloc (.cells #[.int .u64 0, .int .i64 0, .int .u64 0, .int .u64 0, .int .u64 0, .int .u64 0, .int .u64 0, .int .u32 0, .int .u32 0, .string ⟨#[]⟩, .bool false, .slice none 0 0, .slice none 0 0] 29) = w7 at *
      clear hV
      refine (refSame_any zent zent none none none none 0 0 0 0 0 0 0 0 w7 ⟨LI.empty, Lies.empty⟩ ⟨LI.empty, Lies.empty⟩ (by omega) (by omega) (by omega) (by omega)).mono ?_
      rintro r w8 ⟨rfl, hb8⟩
      rw [sameE_refl]
      have B8 := Lib.hid (B7.out.trans (hb8.mono B7.out.size))
      clear hb8 B7 F7
      go_wp2_with fail
      refine (works_any _).mono ?_
      rintro r w10 ⟨rfl, hb10⟩
      have B10 := Lib.hid (B8.out.trans (hb10.mono B8.out.size))
      clear hb10
      go_wp2_with fail
      go_ret
      exact ⟨rfl, B10.out⟩
    · have B7 := Lib.hid ((B5.out.trans (hb6.mono B5.out.size)).alloc (Nat.le_trans B5.out.size hb6.size) (.cells #[.int .u64 0, .int .i64 0, .int .u64 0, .int .u64 0, .int .u64 0, .int .u64 0, .int .u64 0, .int .u32 0, .int .u32 0, .string ⟨#[]⟩, .bool false, .slice none 0 0, .slice none 0 0] 29))
      have F7 := Lib.hid (At.new w6 29 #[.int .u64 0, .int .i64 0, .int .u64 0, .int .u64 0, .int .u64 0, .int .u64 0, .int .u64 0, .int .u32 0, .int .u32 0, .string ⟨#[]⟩, .bool false, .slice none 0 0, .slice none 0 0])
      clear hb6 LB B5
      go_wp2_with (first
        | refine wpList_store_new 29 (.tmp 9) (.tmp 45) rfl rfl rfl w6.heap.size w6 rfl rfl #[.int .u64 0, .int .i64 0, .int .u64 0, .int .u64 0, .int .u64 0, .int .u64 0, .int .u64 0, .int .u32 0, .int .u32 0, .string ⟨#[]⟩, .bool false, .slice none 0 0, .slice none 0 0] #[.int .u64 0, .int .i64 0, .int .u64 0, .int .u64 0, .int .u64 0, .int .u64 0, .int .u64 0, .int .u32 0, .int .u32 0, .string ⟨#[]⟩, .bool false, .slice none 0 0, .slice none 0 0] 13 rfl str29 rfl rfl zz_one rfl ?_
        | refine wpList_load_atG 29 56 (.tmp 9) rfl (by rfl) rfl w6.heap.size rfl #[.int .u64 0, .int .i64 0, .int .u64 0, .int .u64 0, .int .u64 0, .int .u64 0, .int .u64 0, .int .u32 0, .int .u32 0, .string ⟨#[]⟩, .bool false, .slice none 0 0, .slice none 0 0] 13 str29 rfl F7.out ?_)
      generalize hV : w6.alloc (.cells #[.int .u64 0, .int .i64 0, .int .u64 0, .int .u64 0, .int .u64 0, .int .u64 0, .int .u64 0, .int .u32 0, .int .u32 0, .string ⟨#[]⟩, .bool false, .slice none 0 0, .slice none 0 0] 29) = w7 at *
      clear hV
      refine (refSame_any zent zent none none none none 0 0 0 0 0 0 0 0 w7 ⟨LI.empty, Lies.empty⟩ ⟨LI.empty, Lies.empty⟩ (by omega) (by omega) (by omega) (by omega)).mono ?_
      rintro r w8 ⟨rfl, hb8⟩
      rw [sameE_refl]
      have B8 := Lib.hid (B7.out.trans (hb8.mono B7.out.size))
      clear hb8 B7 F7
      go_wp2_with fail
      refine (works_any _).mono ?_
      rintro r w10 ⟨rfl, hb10⟩
      have B10 := Lib.hid (B8.out.trans (hb10.mono B8.out.size))
      clear hb10
      go_wp2_with fail
      go_ret
      exact ⟨rfl, B10.out⟩
    · have g2 := (chk_zero hk).pages
      have g3 := (chk_zero hk).act
      rw [hel.lenP] at g2
      rw [hel.lenA] at g3
      have B7 := Lib.hid ((B5.out.trans (hb6.mono B5.out.size)).alloc (Nat.le_trans B5.out.size hb6.size) (.cells #[.int .u64 (f.lsn : Nat), .int .i64 f.kind, .int .u64 (f.txn : Nat), .int .u64 (f.prev : Nat), .int .u64 (f.next : Nat), .int .u64 (f.rc.id : Nat), .int .u64 (f.rc.key : Nat), .int .u32 (f.rc.x : Nat), .int .u32 (f.rc.y : Nat), .string (strOf f.rc.val), .bool f.rc.ghost, .slice TA tp tc, .slice UA ta uc] 29))
      have F7 := Lib.hid (At.new w6 29 #[.int .u64 (f.lsn : Nat), .int .i64 f.kind, .int .u64 (f.txn : Nat), .int .u64 (f.prev : Nat), .int .u64 (f.next : Nat), .int .u64 (f.rc.id : Nat), .int .u64 (f.rc.key : Nat), .int .u32 (f.rc.x : Nat), .int .u32 (f.rc.y : Nat), .string (strOf f.rc.val), .bool f.rc.ghost, .slice TA tp tc, .slice UA ta uc])
      have EG := Lib.hid ((hel.under ((Below.refl _ _).alloc (Nat.le_refl _) (.cells #[.int .u64 (f.lsn : Nat), .int .i64 f.kind, .int .u64 (f.txn : Nat), .int .u64 (f.prev : Nat), .int .u64 (f.next : Nat), .int .u64 (f.rc.id : Nat), .int .u64 (f.rc.key : Nat), .int .u32 (f.rc.x : Nat), .int .u32 (f.rc.y : Nat), .string (strOf f.rc.val), .bool f.rc.ghost, .slice TA tp tc, .slice UA ta uc] 29))).up (B' := (w6.alloc (.cells #[.int .u64 (f.lsn : Nat), .int .i64 f.kind, .int .u64 (f.txn : Nat), .int .u64 (f.prev : Nat), .int .u64 (f.next : Nat), .int .u64 (f.rc.id : Nat), .int .u64 (f.rc.key : Nat), .int .u32 (f.rc.x : Nat), .int .u32 (f.rc.y : Nat), .string (strOf f.rc.val), .bool f.rc.ghost, .slice TA tp tc, .slice UA ta uc] 29)).heap.size) (by simp))
      have ONG := Lib.hid (ent_one f TA tp tc UA ta uc)
      clear hel hb6 LB B5
      go_wp2_with (first
        | refine wpList_store_new 29 (.tmp 9) (.tmp 45) rfl rfl rfl w6.heap.size w6 rfl rfl #[.int .u64 (f.lsn : Nat), .int .i64 f.kind, .int .u64 (f.txn : Nat), .int .u64 (f.prev : Nat), .int .u64 (f.next : Nat), .int .u64 (f.rc.id : Nat), .int .u64 (f.rc.key : Nat), .int .u32 (f.rc.x : Nat), .int .u32 (f.rc.y : Nat), .string (strOf f.rc.val), .bool f.rc.ghost, .slice TA tp tc, .slice UA ta uc] #[.int .u64 0, .int .i64 0, .int .u64 0, .int .u64 0, .int .u64 0, .int .u64 0, .int .u64 0, .int .u32 0, .int .u32 0, .string ⟨#[]⟩, .bool false, .slice none 0 0, .slice none 0 0] 13 rfl str29 rfl rfl ONG.out rfl ?_
        | refine wpList_load_at 29 64 (.tmp 9) rfl rfl rfl w6.heap.size rfl #[.int .u64 (f.lsn : Nat), .int .i64 f.kind, .int .u64 (f.txn : Nat), .int .u64 (f.prev : Nat), .int .u64 (f.next : Nat), .int .u64 (f.rc.id : Nat), .int .u64 (f.rc.key : Nat), .int .u32 (f.rc.x : Nat), .int .u32 (f.rc.y : Nat), .string (strOf f.rc.val), .bool f.rc.ghost, .slice TA tp tc, .slice UA ta uc] 13 str29 rfl F7.out ?_)
      generalize hV : w6.alloc (.cells #[.int .u64 (f.lsn : Nat), .int .i64 f.kind, .int .u64 (f.txn : Nat), .int .u64 (f.prev : Nat), .int .u64 (f.next : Nat), .int .u64 (f.rc.id : Nat), .int .u64 (f.rc.key : Nat), .int .u32 (f.rc.x : Nat), .int .u32 (f.rc.y : Nat), .string (strOf f.rc.val), .bool f.rc.ghost, .slice TA tp tc, .slice UA ta uc] 29) = w7 at *
      clear hV
      refine (put_good f TA UA tp tc ta uc w7 EG.out hf hk).mono ?_
      rintro r w8 ⟨A8, n8, c8, rfl, ho8, hb8⟩
      have L8 := Lib.hid (Lies.of_own ho8)
      have B8 := Lib.hid (B7.out.trans (hb8.mono B7.out.size))
      clear ho8 hb8 B7 F7 EG ONG
      go_wp2_with fail
      refine (same_any _ _ _ _ _ _ _ _ _ _ w8 L8.out (L0.out.under B8.out)).mono ?_
      rintro r w9 ⟨rfl, rfl⟩
      rw [show (sealL (entL f) == sealL (entL f)) = true by simp]
      go_wp2_with fail
      refine (works_any _).mono ?_
      rintro r w10 ⟨rfl, hb10⟩
      have B10 := Lib.hid (B8.out.trans (hb10.mono B8.out.size))
      clear hb10
      go_wp2_with fail
      go_ret
      exact ⟨rfl, B10.out⟩
end Go.Proofs.YtihlmjknhgnjpaaDoor
