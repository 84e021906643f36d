/-
  Walks: entry.Get.
  Conditions: at most 9000 bytes.
-/
import Derived.Test.YthicidpdgggbjaaDoorT6Q
namespace Go.Proofs.YthicidpdgggbjaaDoor
open Go.RowKit
set_option maxRecDepth 8000

/-- No entry comes back, but a code. -/
def GtNo (w : World) (z : Int) (e : Ending) (w' : World) : Prop := e = .returned (.tuple #[.agg #[.int .u64 0, .int .i64 0, .int .u64 0, .int .u64 0, .int .u64 0, .int .u64 0, .int .u64 0, .int .u32 0, .int .u32 0, .string ⟨#[]⟩, .bool false, .slice none 0 0, .slice none 0 0], .int .i64 z]) ∧ Below w.heap.size w w'
def GtYes (w : World) (f : Ent) (e : Ending) (w' : World) : Prop :=
  ∃ PA np pc QA na qc, e = .returned (.tuple #[.agg #[.int .u64 (f.lsn : Nat), .int .i64 f.kind, .int .u64 (f.txn : Nat), .int .u64 (f.prev : Nat), .int .u64 (f.next : Nat), .int .u64 (f.rc.id : Nat), .int .u64 (f.rc.key : Nat), .int .u32 (f.rc.x : Nat), .int .u32 (f.rc.y : Nat), .string (strOf f.rc.val), .bool f.rc.ghost, .slice PA np pc, .slice QA na qc], .int .i64 0]) ∧ EL w' w'.heap.size f PA np QA na ∧ (∀ a, PA = some a ∨ QA = some a → w.heap.size ≤ a.block) ∧ Below w.heap.size w w'
/-- Whether bytes are an entry. -/
def isE (b : List UInt8) : Bool := reOk (b, false) && (decide ((e10 (b, false)).1 = []) && decide (chk (reEnt (b, false)) = 0))
def Gt (w : World) (b : List UInt8) (e : Ending) (w' : World) : Prop := if isE b = true then GtYes w (reEnt (b, false)) e w' else GtNo w 3 e w'

theorem below_at {w w' : World} {g : Nat} (hb : Below w.heap.size w w') (cs : Array Value) (hs : w.heap.size < w'.heap.size) (h : At w' w.heap.size 42 cs) {w2 : World} (hg : w'.grownBy w2 (some g)) (hgl : w.heap.size < g) : Below w.heap.size w w2 ∧ At w2 w.heap.size 42 cs :=
  ⟨hb.grown hg (by omega) (fun k hk => by injection hk with hk; omega), h.grown hg (by intro e; injection e with e; omega)⟩

theorem wpList_load_atG {ops : Array Oper} {rest : List Oper} {op : Oper} {a : Act} {w : World} {Q : Exit → Act → World → Prop} (ty d : Nat) (x : Operand) (hop : op.dst = some d) (hw : Region.wanted op (yielded ops a.tmps) = true) (ho : op.op = .load ty x) (g : Nat) (hx : a.eval x = .pointer (some ⟨g, 0, none⟩)) (cs : Array Value) (n : Nat) (hs : Str ty n) (hn : cs.size = n)
    (hc : At w g ty cs) (h : wpList Tryd.prog ops Q rest (a.put (some d) (.agg cs)) w) : wpList Tryd.prog ops Q (op :: rest) a w := by
  obtain ⟨ds, h1, h2, h3⟩ := hs
  rw [wpList, if_pos hw]
  left
  refine wp_load_row ty x ho g hx ty cs (0, 0) ds hc h1 (by cases ds <;> first | rfl | cases h2) (by rw [hn]; exact h3) ?_
  rw [hop]
  exact h

set_option maxHeartbeats 800000 in
theorem get_bad (n c : Nat) (A : Option Addr) (l : List UInt8) (w : World) (h : Lies w w.heap.size 1 A n (BC l)) (hn : n ≤ 9000) (hc : n ≤ c) (hz : n < 4 ∨ (l.drop (n - 4) == Crc.le4 (Crc.sumN (l.take (n - 4)))) = false) :
    Calls Tryd.prog 49 #[.slice A n c] w (GtNo w 5) := by
  have B0 := Lib.hid ((Below.refl w.heap.size w).alloc (Nat.le_refl _) (.cells #[.int .u64 0, .int .i64 0, .int .u64 0, .int .u64 0, .int .u64 0, .int .u64 0, .int .u64 0, .int .u32 0, .int .u32 0, .string ⟨#[]⟩, .bool false, .slice none 0 0, .slice none 0 0] 42))
  have X0 := Lib.hid (At.new w 42 #[.int .u64 0, .int .i64 0, .int .u64 0, .int .u64 0, .int .u64 0, .int .u64 0, .int .u64 0, .int .u32 0, .int .u32 0, .string ⟨#[]⟩, .bool false, .slice none 0 0, .slice none 0 0])
  have G : Hid (Calls Tryd.prog 69 #[.slice A n c] (w.alloc (.cells #[.int .u64 0, .int .i64 0, .int .u64 0, .int .u64 0, .int .u64 0, .int .u64 0, .int .u64 0, .int .u32 0, .int .u32 0, .string ⟨#[]⟩, .bool false, .slice none 0 0, .slice none 0 0] 42)) (NoB (w.alloc (.cells #[.int .u64 0, .int .i64 0, .int .u64 0, .int .u64 0, .int .u64 0, .int .u64 0, .int .u64 0, .int .u32 0, .int .u32 0, .string ⟨#[]⟩, .bool false, .slice none 0 0, .slice none 0 0] 42)))) := by
    by_cases h4 : n < 4
    · exact get_short n c A _ h4
    · rcases hz with hz | hz
      · exact absurd hz h4
      · obtain ⟨m, rfl⟩ : ∃ m, n = m + 4 := ⟨n - 4, by omega⟩
        rw [show m + 4 - 4 = m from by omega] at hz
        exact get_long m c A l _ false ((h.under B0.out).up (by simp)) (by omega) hc hz
  clear h hz
  go_enter Tryd.func49, Tryd.ntmps49
  go_wp2_with fail
  refine G.out.mono ?_
  rintro e w1 ⟨rfl, hb1⟩
  have X1 := Lib.hid (X0.out.under hb1 X0.out.lt)
  have B1 := Lib.hid (B0.out.trans (hb1.mono (by simp)))
  clear hb1 X0 B0 G
  go_wp2_with (refine wpList_store_at 42 (.tmp 2) (.tmp 15) rfl rfl rfl w.heap.size rfl #[.int .u64 0, .int .i64 0, .int .u64 0, .int .u64 0, .int .u64 0, .int .u64 0, .int .u64 0, .int .u32 0, .int .u32 0, .string ⟨#[]⟩, .bool false, .slice none 0 0, .slice none 0 0] #[.int .u64 0, .int .i64 0, .int .u64 0, .int .u64 0, .int .u64 0, .int .u64 0, .int .u64 0, .int .u32 0, .int .u32 0, .string ⟨#[]⟩, .bool false, .slice none 0 0, .slice none 0 0] 13 rfl str29 rfl rfl zz_one X1.out ?_; intro w2 h2 g2; have H2 := Lib.hid h2; have K2 := Lib.hid (B1.out.grown g2 B1.out.size (fun k hk => by injection hk with hk; omega)); clear h2 g2)
  refine bodyPost_ret (v := .tuple #[.agg #[.int .u64 0, .int .i64 0, .int .u64 0, .int .u64 0, .int .u64 0, .int .u64 0, .int .u64 0, .int .u32 0, .int .u32 0, .string ⟨#[]⟩, .bool false, .slice none 0 0, .slice none 0 0], .int .i64 5]) (results_at2 rfl H2.out str29 rfl Tryd.results49 rfl) rfl ?_
  exact ⟨rfl, K2.out⟩

theorem isE_no1 {b : List UInt8} (h : ¬ (rrOk (e5 (b, false)) && okK (eNp (b, false)) (e7 (b, false))) = true) : ¬ isE b = true := by
  intro hc
  simp only [isE, reOk, Bool.and_eq_true] at hc
  exact h (by rw [hc.1.1, hc.1.2.1]; rfl)

set_option maxHeartbeats 3200000 in
theorem get_body (n c : Nat) (A : Option Addr) (l : List UInt8) (w : World) (m : Nat) (b : List UInt8) (h : Lies w w.heap.size 1 A n (BC l)) (hn : n ≤ 9000) (hc : n ≤ c) (hm : n = m + 4) (hz : (l.drop m == Crc.le4 (Crc.sumN (l.take m))) = true) (hb : b = l.take m) :
    Calls Tryd.prog 49 #[.slice A n c] w (Gt w b) := by
  have B0 := Lib.hid ((Below.refl w.heap.size w).alloc (Nat.le_refl _) (.cells #[.int .u64 0, .int .i64 0, .int .u64 0, .int .u64 0, .int .u64 0, .int .u64 0, .int .u64 0, .int .u32 0, .int .u32 0, .string ⟨#[]⟩, .bool false, .slice none 0 0, .slice none 0 0] 42))
  have X0 := Lib.hid (At.new w 42 #[.int .u64 0, .int .i64 0, .int .u64 0, .int .u64 0, .int .u64 0, .int .u64 0, .int .u64 0, .int .u32 0, .int .u32 0, .string ⟨#[]⟩, .bool false, .slice none 0 0, .slice none 0 0])
  subst hm
  have G : Hid (Calls Tryd.prog 69 #[.slice A (m + 4) c] (w.alloc (.cells #[.int .u64 0, .int .i64 0, .int .u64 0, .int .u64 0, .int .u64 0, .int .u64 0, .int .u64 0, .int .u32 0, .int .u32 0, .string ⟨#[]⟩, .bool false, .slice none 0 0, .slice none 0 0] 42)) (YesB (w.alloc (.cells #[.int .u64 0, .int .i64 0, .int .u64 0, .int .u64 0, .int .u64 0, .int .u64 0, .int .u64 0, .int .u32 0, .int .u32 0, .string ⟨#[]⟩, .bool false, .slice none 0 0, .slice none 0 0] 42)) b)) := by
    have := get_long m c A l _ true ((h.under B0.out).up (by simp)) (by omega) hc hz
    rw [← hb] at this
    exact this
  have hbl : b.length ≤ 9000 := by rw [hb, List.length_take]; omega
  have HBL := Lib.hid hbl
  clear h hz hb
  go_enter Tryd.func49, Tryd.ntmps49
  go_wp2_with fail
  refine G.out.mono ?_
  rintro e w1 ⟨A1, c1, rfl, ho1, hb1⟩
  obtain ⟨n1, HN1⟩ : ∃ n1, Hid (b.length = n1) := ⟨_, Lib.hid rfl⟩
  rw [HN1.out] at ho1 hbl ⊢
  have X1 := Lib.hid (X0.out.under hb1 X0.out.lt)
  have B1 := Lib.hid (B0.out.trans (hb1.mono (by simp)))
  have L1 := Lib.hid (Lies.of_own ho1)
  clear hb1 X0 B0 G ho1
  go_wp2_with fail
  refine (read_any w1.heap.size n1 c1 A1 b w1 L1.out (Nat.le_refl _) (by omega)).mono ?_
  rintro e w2 ⟨g, rfl, hg, hrd, hb2⟩
  have X2 := Lib.hid (X1.out.under hb2 X1.out.lt)
  have B2 := Lib.hid (B1.out.trans (hb2.mono B1.out.size))
  have hgl : w.heap.size < g := by have := X1.out.lt; omega
  have hw2 := X2.out.lt
  have RD := Lib.hid hrd
  clear hb2 L1 X1 B1 hrd
  go_wp2_with fail
  refine (readEntry_any g (b, false) w2 RD.out (by have := HBL.out; show b.length ≤ 10000; omega)).mono ?_
  intro e w3 h3
  by_cases hre : (rrOk (e5 (b, false)) && okK (eNp (b, false)) (e7 (b, false))) = true
  · rw [Re, if_pos hre] at h3
    obtain ⟨PA, np, pc, QA, na, qc, rfl, hel, hup, hrd, hgr⟩ := h3
    have UP := Lib.hid hup
    have hlt2 := X2.out.lt
    obtain ⟨b3, x3⟩ := below_at B2.out #[.int .u64 0, .int .i64 0, .int .u64 0, .int .u64 0, .int .u64 0, .int .u64 0, .int .u64 0, .int .u32 0, .int .u32 0, .string ⟨#[]⟩, .bool false, .slice none 0 0, .slice none 0 0] hlt2 X2.out hgr hgl
    have X3 := Lib.hid (x3.alloc (.cells #[.int .u64 ((reEnt (b, false)).lsn : Nat), .int .i64 (reEnt (b, false)).kind, .int .u64 ((reEnt (b, false)).txn : Nat), .int .u64 ((reEnt (b, false)).prev : Nat), .int .u64 ((reEnt (b, false)).next : Nat), .int .u64 ((reEnt (b, false)).rc.id : Nat), .int .u64 ((reEnt (b, false)).rc.key : Nat), .int .u32 ((reEnt (b, false)).rc.x : Nat), .int .u32 ((reEnt (b, false)).rc.y : Nat), .string (strOf (reEnt (b, false)).rc.val), .bool (reEnt (b, false)).rc.ghost, .slice PA np pc, .slice QA na qc] 42))
    have B3 := Lib.hid (b3.alloc b3.size (.cells #[.int .u64 ((reEnt (b, false)).lsn : Nat), .int .i64 (reEnt (b, false)).kind, .int .u64 ((reEnt (b, false)).txn : Nat), .int .u64 ((reEnt (b, false)).prev : Nat), .int .u64 ((reEnt (b, false)).next : Nat), .int .u64 ((reEnt (b, false)).rc.id : Nat), .int .u64 ((reEnt (b, false)).rc.key : Nat), .int .u32 ((reEnt (b, false)).rc.x : Nat), .int .u32 ((reEnt (b, false)).rc.y : Nat), .string (strOf (reEnt (b, false)).rc.val), .bool (reEnt (b, false)).rc.ghost, .slice PA np pc, .slice QA na qc] 42))
    have hba := (Below.refl w3.heap.size w3).alloc (Nat.le_refl _) (.cells #[.int .u64 ((reEnt (b, false)).lsn : Nat), .int .i64 (reEnt (b, false)).kind, .int .u64 ((reEnt (b, false)).txn : Nat), .int .u64 ((reEnt (b, false)).prev : Nat), .int .u64 ((reEnt (b, false)).next : Nat), .int .u64 ((reEnt (b, false)).rc.id : Nat), .int .u64 ((reEnt (b, false)).rc.key : Nat), .int .u32 ((reEnt (b, false)).rc.x : Nat), .int .u32 ((reEnt (b, false)).rc.y : Nat), .string (strOf (reEnt (b, false)).rc.val), .bool (reEnt (b, false)).rc.ghost, .slice PA np pc, .slice QA na qc] 42)
    have E3 := Lib.hid ((hel.under hba).up (Nat.le_of_lt (show w3.heap.size < (w3.alloc (.cells #[.int .u64 ((reEnt (b, false)).lsn : Nat), .int .i64 (reEnt (b, false)).kind, .int .u64 ((reEnt (b, false)).txn : Nat), .int .u64 ((reEnt (b, false)).prev : Nat), .int .u64 ((reEnt (b, false)).next : Nat), .int .u64 ((reEnt (b, false)).rc.id : Nat), .int .u64 ((reEnt (b, false)).rc.key : Nat), .int .u32 ((reEnt (b, false)).rc.x : Nat), .int .u32 ((reEnt (b, false)).rc.y : Nat), .string (strOf (reEnt (b, false)).rc.val), .bool (reEnt (b, false)).rc.ghost, .slice PA np pc, .slice QA na qc] 42)).heap.size by simp)))
    have R3 := Lib.hid (hrd.below hba)
    have NX := Lib.hid (At.new w3 42 #[.int .u64 ((reEnt (b, false)).lsn : Nat), .int .i64 (reEnt (b, false)).kind, .int .u64 ((reEnt (b, false)).txn : Nat), .int .u64 ((reEnt (b, false)).prev : Nat), .int .u64 ((reEnt (b, false)).next : Nat), .int .u64 ((reEnt (b, false)).rc.id : Nat), .int .u64 ((reEnt (b, false)).rc.key : Nat), .int .u32 ((reEnt (b, false)).rc.x : Nat), .int .u32 ((reEnt (b, false)).rc.y : Nat), .string (strOf (reEnt (b, false)).rc.val), .bool (reEnt (b, false)).rc.ghost, .slice PA np pc, .slice QA na qc])
    have lp : np < 256 := by rw [← hel.lenP]; show (imK _ _).length < 256; rw [imK_length]; exact vl_lt1 _
    have la : na < 256 := by rw [← hel.lenA]; show (acK _ _).length < 256; rw [acK_length]; exact vl_lt1 _
    have hrr : rrOk (e5 (b, false)) = true := by simp only [Bool.and_eq_true] at hre; exact hre.1
    have lv : (reEnt (b, false)).rc.val.length ≤ 15 := (rr_inv hrr).2.2.2
    have HRE := Lib.hid hre
    have ONE := Lib.hid (ent_one (reEnt (b, false)) PA np pc QA na qc)
    clear hre hrr hel hup hrd hgr b3 x3 hba X2 B2 RD
    obtain ⟨z, HZ⟩ : ∃ z, Hid ((e10 (b, false)).2 = z) := ⟨_, Lib.hid rfl⟩
    rw [HZ.out]
    cases z with
    | true =>
      have HNO : Hid (¬ isE b = true) := by
        intro hc
        simp only [isE, reOk, HZ.out, Bool.and_eq_true] at hc
        simp at hc
      go_wp2_with (first
        | refine wpList_store_new 42 (.tmp 7) (.tmp 21) rfl rfl rfl w3.heap.size w3 rfl rfl #[.int .u64 ((reEnt (b, false)).lsn : Nat), .int .i64 (reEnt (b, false)).kind, .int .u64 ((reEnt (b, false)).txn : Nat), .int .u64 ((reEnt (b, false)).prev : Nat), .int .u64 ((reEnt (b, false)).next : Nat), .int .u64 ((reEnt (b, false)).rc.id : Nat), .int .u64 ((reEnt (b, false)).rc.key : Nat), .int .u32 ((reEnt (b, false)).rc.x : Nat), .int .u32 ((reEnt (b, false)).rc.y : Nat), .string (strOf (reEnt (b, false)).rc.val), .bool (reEnt (b, false)).rc.ghost, .slice PA np pc, .slice QA na qc] #[.int .u64 0, .int .i64 0, .int .u64 0, .int .u64 0, .int .u64 0, .int .u64 0, .int .u64 0, .int .u32 0, .int .u32 0, .string ⟨#[]⟩, .bool false, .slice none 0 0, .slice none 0 0] 13 rfl str29 rfl rfl ONE.out rfl ?_
        | (refine wpList_store_at 42 (.tmp 2) (.tmp 35) rfl rfl rfl w.heap.size rfl #[.int .u64 0, .int .i64 0, .int .u64 0, .int .u64 0, .int .u64 0, .int .u64 0, .int .u64 0, .int .u32 0, .int .u32 0, .string ⟨#[]⟩, .bool false, .slice none 0 0, .slice none 0 0] #[.int .u64 0, .int .i64 0, .int .u64 0, .int .u64 0, .int .u64 0, .int .u64 0, .int .u64 0, .int .u32 0, .int .u32 0, .string ⟨#[]⟩, .bool false, .slice none 0 0, .slice none 0 0] 13 rfl str29 rfl rfl zz_one X3.out ?_; intro w6 h6 g6; have H6 := Lib.hid h6; have K6 := Lib.hid (B3.out.grown g6 B3.out.size (fun k hk => by injection hk with hk; omega)); clear h6 g6))
      refine bodyPost_ret (v := .tuple #[.agg #[.int .u64 0, .int .i64 0, .int .u64 0, .int .u64 0, .int .u64 0, .int .u64 0, .int .u64 0, .int .u32 0, .int .u32 0, .string ⟨#[]⟩, .bool false, .slice none 0 0, .slice none 0 0], .int .i64 3]) (results_at2 rfl H6.out str29 rfl Tryd.results49 rfl) rfl ?_
      rw [Gt, if_neg HNO.out]
      exact ⟨rfl, K6.out⟩
    | false =>
      obtain ⟨q, HQ⟩ : ∃ q, Hid ((e10 (b, false)).1.length = q) := ⟨_, Lib.hid rfl⟩
      have ROK : Hid (reOk (b, false) = true) := by
        show _ = _
        have := HRE.out
        simp only [Bool.and_eq_true] at this
        rw [reOk, this.1, this.2, HZ.out]
        rfl
      go_wp2_with (first
        | refine wpList_store_new 42 (.tmp 7) (.tmp 21) rfl rfl rfl w3.heap.size w3 rfl rfl #[.int .u64 ((reEnt (b, false)).lsn : Nat), .int .i64 (reEnt (b, false)).kind, .int .u64 ((reEnt (b, false)).txn : Nat), .int .u64 ((reEnt (b, false)).prev : Nat), .int .u64 ((reEnt (b, false)).next : Nat), .int .u64 ((reEnt (b, false)).rc.id : Nat), .int .u64 ((reEnt (b, false)).rc.key : Nat), .int .u32 ((reEnt (b, false)).rc.x : Nat), .int .u32 ((reEnt (b, false)).rc.y : Nat), .string (strOf (reEnt (b, false)).rc.val), .bool (reEnt (b, false)).rc.ghost, .slice PA np pc, .slice QA na qc] #[.int .u64 0, .int .i64 0, .int .u64 0, .int .u64 0, .int .u64 0, .int .u64 0, .int .u64 0, .int .u32 0, .int .u32 0, .string ⟨#[]⟩, .bool false, .slice none 0 0, .slice none 0 0] 13 rfl str29 rfl rfl ONE.out rfl ?_)
      refine (left_any g (e10 (b, false)).1 (e10 (b, false)).2 _ R3.out).mono ?_
      rintro e w4 ⟨rfl, rfl⟩
      rw [HQ.out]
      by_cases hq : q = 0
      · subst hq
        obtain ⟨ck, HCK⟩ : ∃ ck, Hid (chk (reEnt (b, false)) = ck) := ⟨_, Lib.hid rfl⟩
        have EMP := Lib.hid (show (e10 (b, false)).1 = [] from List.eq_nil_of_length_eq_zero HQ.out)
        go_wp2_with (refine wpList_load_atG 42 31 (.tmp 7) rfl (by rfl) rfl w3.heap.size rfl #[.int .u64 ((reEnt (b, false)).lsn : Nat), .int .i64 (reEnt (b, false)).kind, .int .u64 ((reEnt (b, false)).txn : Nat), .int .u64 ((reEnt (b, false)).prev : Nat), .int .u64 ((reEnt (b, false)).next : Nat), .int .u64 ((reEnt (b, false)).rc.id : Nat), .int .u64 ((reEnt (b, false)).rc.key : Nat), .int .u32 ((reEnt (b, false)).rc.x : Nat), .int .u32 ((reEnt (b, false)).rc.y : Nat), .string (strOf (reEnt (b, false)).rc.val), .bool (reEnt (b, false)).rc.ghost, .slice PA np pc, .slice QA na qc] 13 str29 rfl NX.out ?_)
        refine (check_any (reEnt (b, false)) PA QA np pc na qc _ E3.out (by omega) (by omega) (by omega)).mono ?_
        rintro e w5 ⟨rfl, hb5⟩
        rw [HCK.out]
        have X5 := Lib.hid (X3.out.under hb5 X3.out.lt)
        have NX5 := Lib.hid (NX.out.under hb5 NX.out.lt)
        have B5 := Lib.hid (B3.out.trans (hb5.mono B3.out.size))
        have E5 := Lib.hid (E3.out.under hb5)
        have s5 := hb5.size
        clear hb5 X3 NX B3 E3
        by_cases hck : ck = 0
        · subst hck
          have HYES : Hid (isE b = true) := by
            show _ = _
            rw [isE, ROK.out, EMP.out, HCK.out]
            rfl
          go_wp2_with (first
            | refine wpList_load_at 42 36 (.tmp 7) rfl rfl rfl w3.heap.size rfl #[.int .u64 ((reEnt (b, false)).lsn : Nat), .int .i64 (reEnt (b, false)).kind, .int .u64 ((reEnt (b, false)).txn : Nat), .int .u64 ((reEnt (b, false)).prev : Nat), .int .u64 ((reEnt (b, false)).next : Nat), .int .u64 ((reEnt (b, false)).rc.id : Nat), .int .u64 ((reEnt (b, false)).rc.key : Nat), .int .u32 ((reEnt (b, false)).rc.x : Nat), .int .u32 ((reEnt (b, false)).rc.y : Nat), .string (strOf (reEnt (b, false)).rc.val), .bool (reEnt (b, false)).rc.ghost, .slice PA np pc, .slice QA na qc] 13 str29 rfl NX5.out ?_
            | (refine wpList_store_at 42 (.tmp 2) (.tmp 36) rfl rfl rfl w.heap.size rfl #[.int .u64 ((reEnt (b, false)).lsn : Nat), .int .i64 (reEnt (b, false)).kind, .int .u64 ((reEnt (b, false)).txn : Nat), .int .u64 ((reEnt (b, false)).prev : Nat), .int .u64 ((reEnt (b, false)).next : Nat), .int .u64 ((reEnt (b, false)).rc.id : Nat), .int .u64 ((reEnt (b, false)).rc.key : Nat), .int .u32 ((reEnt (b, false)).rc.x : Nat), .int .u32 ((reEnt (b, false)).rc.y : Nat), .string (strOf (reEnt (b, false)).rc.val), .bool (reEnt (b, false)).rc.ghost, .slice PA np pc, .slice QA na qc] #[.int .u64 0, .int .i64 0, .int .u64 0, .int .u64 0, .int .u64 0, .int .u64 0, .int .u64 0, .int .u32 0, .int .u32 0, .string ⟨#[]⟩, .bool false, .slice none 0 0, .slice none 0 0] 13 rfl str29 rfl rfl ONE.out X5.out ?_; intro w6 h6 g6; have H6 := Lib.hid h6; have K6 := Lib.hid (B5.out.grown g6 B5.out.size (fun k hk => by injection hk with hk; omega)); have G6 := Lib.hid g6; clear h6 g6))
          refine bodyPost_ret (v := .tuple #[.agg #[.int .u64 ((reEnt (b, false)).lsn : Nat), .int .i64 (reEnt (b, false)).kind, .int .u64 ((reEnt (b, false)).txn : Nat), .int .u64 ((reEnt (b, false)).prev : Nat), .int .u64 ((reEnt (b, false)).next : Nat), .int .u64 ((reEnt (b, false)).rc.id : Nat), .int .u64 ((reEnt (b, false)).rc.key : Nat), .int .u32 ((reEnt (b, false)).rc.x : Nat), .int .u32 ((reEnt (b, false)).rc.y : Nat), .string (strOf (reEnt (b, false)).rc.val), .bool (reEnt (b, false)).rc.ghost, .slice PA np pc, .slice QA na qc], .int .i64 0]) (results_at2 rfl H6.out str29 rfl Tryd.results49 rfl) rfl ?_
          rw [Gt, if_pos HYES.out]
          refine ⟨PA, np, pc, QA, na, qc, rfl, ?_, fun a ha => by have := UP.out a ha; omega, K6.out⟩
          have eb : (w3.alloc (.cells #[.int .u64 ((reEnt (b, false)).lsn : Nat), .int .i64 (reEnt (b, false)).kind, .int .u64 ((reEnt (b, false)).txn : Nat), .int .u64 ((reEnt (b, false)).prev : Nat), .int .u64 ((reEnt (b, false)).next : Nat), .int .u64 ((reEnt (b, false)).rc.id : Nat), .int .u64 ((reEnt (b, false)).rc.key : Nat), .int .u32 ((reEnt (b, false)).rc.x : Nat), .int .u32 ((reEnt (b, false)).rc.y : Nat), .string (strOf (reEnt (b, false)).rc.val), .bool (reEnt (b, false)).rc.ghost, .slice PA np pc, .slice QA na qc] 42)).heap.size ≤ w5.heap.size := s5
          have hoff : ∀ n' A', (∀ a, A' = some a → w2.heap.size < a.block) → Off n' (.slice (some ⟨w.heap.size, 0, none⟩) 0 0) A' := fun n' A' hA _ q a hq ha => by
            injection hq with hq
            have := hA a ha
            have hq : w.heap.size = q := hq
            omega
          have := G6.out.size
          refine ⟨(E5.out.pages.grown (v := .slice (some ⟨w.heap.size, 0, none⟩) 0 0) G6.out eb (hoff _ _ fun a ha => UP.out a (.inl ha))).up (by omega), (E5.out.act.grown (v := .slice (some ⟨w.heap.size, 0, none⟩) 0 0) G6.out (hoff _ _ fun a ha => UP.out a (.inr ha))).up (by omega)⟩
        · have hne : (ck != 0) = true := by rw [bne_iff_ne]; exact hck
          have HNO : Hid (¬ isE b = true) := by
            intro hc
            simp only [isE, Bool.and_eq_true, decide_eq_true_eq] at hc
            exact hck (by rw [← HCK.out]; exact hc.2.2)
          go_wp2_with (refine wpList_store_at 42 (.tmp 2) (.tmp 35) rfl rfl rfl w.heap.size rfl #[.int .u64 0, .int .i64 0, .int .u64 0, .int .u64 0, .int .u64 0, .int .u64 0, .int .u64 0, .int .u32 0, .int .u32 0, .string ⟨#[]⟩, .bool false, .slice none 0 0, .slice none 0 0] #[.int .u64 0, .int .i64 0, .int .u64 0, .int .u64 0, .int .u64 0, .int .u64 0, .int .u64 0, .int .u32 0, .int .u32 0, .string ⟨#[]⟩, .bool false, .slice none 0 0, .slice none 0 0] 13 rfl str29 rfl rfl zz_one X5.out ?_; intro w6 h6 g6; have H6 := Lib.hid h6; have K6 := Lib.hid (B5.out.grown g6 B5.out.size (fun k hk => by injection hk with hk; omega)); clear h6 g6)
          refine bodyPost_ret (v := .tuple #[.agg #[.int .u64 0, .int .i64 0, .int .u64 0, .int .u64 0, .int .u64 0, .int .u64 0, .int .u64 0, .int .u32 0, .int .u32 0, .string ⟨#[]⟩, .bool false, .slice none 0 0, .slice none 0 0], .int .i64 3]) (results_at2 rfl H6.out str29 rfl Tryd.results49 rfl) rfl ?_
          rw [Gt, if_neg HNO.out]
          exact ⟨rfl, K6.out⟩
      · have hne : ((q : Int) != 0) = true := by rw [bne_iff_ne]; omega
        have HNO : Hid (¬ isE b = true) := by
          intro hc
          simp only [isE, Bool.and_eq_true, decide_eq_true_eq] at hc
          exact hq (by rw [← HQ.out, hc.2.1]; rfl)
        go_wp2_with (refine wpList_store_at 42 (.tmp 2) (.tmp 35) rfl rfl rfl w.heap.size rfl #[.int .u64 0, .int .i64 0, .int .u64 0, .int .u64 0, .int .u64 0, .int .u64 0, .int .u64 0, .int .u32 0, .int .u32 0, .string ⟨#[]⟩, .bool false, .slice none 0 0, .slice none 0 0] #[.int .u64 0, .int .i64 0, .int .u64 0, .int .u64 0, .int .u64 0, .int .u64 0, .int .u64 0, .int .u32 0, .int .u32 0, .string ⟨#[]⟩, .bool false, .slice none 0 0, .slice none 0 0] 13 rfl str29 rfl rfl zz_one X3.out ?_; intro w6 h6 g6; have H6 := Lib.hid h6; have K6 := Lib.hid (B3.out.grown g6 B3.out.size (fun k hk => by injection hk with hk; omega)); clear h6 g6)
        refine bodyPost_ret (v := .tuple #[.agg #[.int .u64 0, .int .i64 0, .int .u64 0, .int .u64 0, .int .u64 0, .int .u64 0, .int .u64 0, .int .u32 0, .int .u32 0, .string ⟨#[]⟩, .bool false, .slice none 0 0, .slice none 0 0], .int .i64 3]) (results_at2 rfl H6.out str29 rfl Tryd.results49 rfl) rfl ?_
        rw [Gt, if_neg HNO.out]
        exact ⟨rfl, K6.out⟩
  · rw [Re, if_neg hre] at h3
    obtain ⟨rfl, hgr⟩ := h3
    have HNO := Lib.hid (isE_no1 hre)
    have hlt2 := X2.out.lt
    obtain ⟨b3, x3⟩ := below_at B2.out #[.int .u64 0, .int .i64 0, .int .u64 0, .int .u64 0, .int .u64 0, .int .u64 0, .int .u64 0, .int .u32 0, .int .u32 0, .string ⟨#[]⟩, .bool false, .slice none 0 0, .slice none 0 0] hlt2 X2.out hgr hgl
    have X3 := Lib.hid (x3.alloc (.cells #[.int .u64 0, .int .i64 0, .int .u64 0, .int .u64 0, .int .u64 0, .int .u64 0, .int .u64 0, .int .u32 0, .int .u32 0, .string ⟨#[]⟩, .bool false, .slice none 0 0, .slice none 0 0] 42))
    have B3 := Lib.hid (b3.alloc b3.size (.cells #[.int .u64 0, .int .i64 0, .int .u64 0, .int .u64 0, .int .u64 0, .int .u64 0, .int .u64 0, .int .u32 0, .int .u32 0, .string ⟨#[]⟩, .bool false, .slice none 0 0, .slice none 0 0] 42))
    clear b3 x3 hgr hre X2 B2 RD
    go_wp2_with (first
      | refine wpList_store_new 42 (.tmp 7) (.tmp 21) rfl rfl rfl w3.heap.size w3 rfl rfl #[.int .u64 0, .int .i64 0, .int .u64 0, .int .u64 0, .int .u64 0, .int .u64 0, .int .u64 0, .int .u32 0, .int .u32 0, .string ⟨#[]⟩, .bool false, .slice none 0 0, .slice none 0 0] #[.int .u64 0, .int .i64 0, .int .u64 0, .int .u64 0, .int .u64 0, .int .u64 0, .int .u64 0, .int .u32 0, .int .u32 0, .string ⟨#[]⟩, .bool false, .slice none 0 0, .slice none 0 0] 13 rfl str29 rfl rfl zz_one rfl ?_
      | (refine wpList_store_at 42 (.tmp 2) (.tmp 35) rfl rfl rfl w.heap.size rfl #[.int .u64 0, .int .i64 0, .int .u64 0, .int .u64 0, .int .u64 0, .int .u64 0, .int .u64 0, .int .u32 0, .int .u32 0, .string ⟨#[]⟩, .bool false, .slice none 0 0, .slice none 0 0] #[.int .u64 0, .int .i64 0, .int .u64 0, .int .u64 0, .int .u64 0, .int .u64 0, .int .u64 0, .int .u32 0, .int .u32 0, .string ⟨#[]⟩, .bool false, .slice none 0 0, .slice none 0 0] 13 rfl str29 rfl rfl zz_one X3.out ?_; intro w6 h6 g6; have H6 := Lib.hid h6; have K6 := Lib.hid (B3.out.grown g6 B3.out.size (fun k hk => by injection hk with hk; omega)); clear h6 g6))
    refine bodyPost_ret (v := .tuple #[.agg #[.int .u64 0, .int .i64 0, .int .u64 0, .int .u64 0, .int .u64 0, .int .u64 0, .int .u64 0, .int .u32 0, .int .u32 0, .string ⟨#[]⟩, .bool false, .slice none 0 0, .slice none 0 0], .int .i64 3]) (results_at2 rfl H6.out str29 rfl Tryd.results49 rfl) rfl ?_
    rw [Gt, if_neg HNO.out]
    exact ⟨rfl, K6.out⟩
end Go.Proofs.YthicidpdgggbjaaDoor
