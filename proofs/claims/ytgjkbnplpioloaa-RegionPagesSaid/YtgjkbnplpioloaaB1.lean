/-
  slices.Clone of records and of numbers, with, twin, Room.
  Conditions: at most 100000 records or pages.
-/
import Derived.Test.YtgjkbnplpioloaaB0
import Derived.Lib.SliceRun
namespace Go.Proofs.Ytgjkbnplpioloaa
open Go.RowKit
attribute [local go_sem] Oper.semAt_some
set_option maxRecDepth 20000

set_option maxHeartbeats 400000 in
theorem cloneR_some (X : Nat → Prop) (n c : Nat) (a : Addr) (l : List Rc) (w : World) (h : Lz X w 4 (some a) n (rcsL l)) (hn : n ≤ 100000) :
    Calls Try.prog 47 #[.slice (some a) n c] w fun e w' => ∃ v, e = .returned v ∧ w'.ownsRow w.heap.size 50 4 v n (rcsL l) ∧ Below w.heap.size w w' := by
  obtain ⟨i0, hi0, hz0, hz1, hz2⟩ := rc_info
  have hnil := fun W => Lib.run_eql_slice_nil (P := Try.prog) W 40 50 (some a) n c 0 0 Try.underlying40
  have HH := Lib.hid h
  clear h
  have hm : (w.alloc (.cells #[] 50)).ownsRow w.heap.size 50 4 (.slice (some ⟨w.heap.size, 0, none⟩) 0 0) 0 [] := World.ownsRow_made w #[] 0 (Nat.le_refl _) (by simp [maxLen]) rfl
  have HM := Lib.hid hm
  clear hm
  go_enter Try.func47, Try.ntmps47
  go_wp2_with (at_builtin; refine pl_wpList_app _ rfl (.tmp 5) (.tmp 6) _ rfl w.heap.size 50 i0 _ 4 24 Try.underlying40 hi0 hz0 hz1 hz2 rfl (by omega) _ 0 [] rfl HM.out a n c (rcsL l) rfl HH.out.len (HH.out.alloc _).cells (rcsL_cell l) (by simp only [maxLen]; omega) (by omega) (by simp) ?_; intro v1 w1 hown hg)
  go_ret
  exact ⟨v1, rfl, by simpa using hown, pl_below_own ((Below.refl _ _).alloc (Nat.le_refl _) _) HM.out hg (Nat.le_refl _) (by simp)⟩
set_option maxHeartbeats 400000 in
theorem cloneR_none (n c : Nat) (w : World) : Calls Try.prog 47 #[.slice none n c] w fun e w' => e = .returned (.slice none 0 0) ∧ w = w' := by
  have hnil := fun W => Lib.run_eql_slice_nil (P := Try.prog) W 40 50 none n c 0 0 Try.underlying40
  go_enter Try.func47, Try.ntmps47
  go_wp2_with fail
  go_ret
  exact ⟨rfl, rfl⟩
/-- New records come back; nothing that was there has turned. -/
def RetRs (w : World) (l : List Rc) (e : Ending) (w' : World) : Prop := ∃ A c, e = .returned (.slice A l.length c) ∧ w'.ownsRow w.heap.size 50 4 (.slice A l.length c) l.length (rcsL l) ∧ Below w.heap.size w w'
theorem RetRs.mk {w w' : World} {l : List Rc} {v : Value} {n : Nat} (h : w'.ownsRow w.heap.size 50 4 v n (rcsL l)) (hb : Below w.heap.size w w') : RetRs w l (.returned v) w' := by
  have hl : l.length = n := by have := h.1; rw [rcsL_length] at this; omega
  subst hl
  obtain ⟨A, c, rfl, _⟩ := pl_own_slice h
  exact ⟨A, c, rfl, h, hb⟩
theorem cloneR_any (X : Nat → Prop) (n c : Nat) (A : Option Addr) (l : List Rc) (w : World) (h : Lz X w 4 A n (rcsL l)) (hn : n ≤ 100000) : Calls Try.prog 47 #[.slice A n c] w (RetRs w l) := by
  have hlen := h.rclen
  cases A with
  | some a =>
    refine (cloneR_some X n c a l w h hn).mono ?_
    rintro e w' ⟨v, rfl, ho, hb⟩
    exact RetRs.mk ho hb
  | none =>
    refine (cloneR_none n c w).mono ?_
    rintro e w' ⟨rfl, rfl⟩
    obtain ⟨rfl, _⟩ := h.nil_of_none
    have : l = [] := List.eq_nil_of_length_eq_zero hlen
    subst this
    exact RetRs.mk (World.ownsRow_nil w w.heap.size 50 4) (Below.refl _ _)
set_option maxHeartbeats 400000 in
theorem cloneI_some (X : Nat → Prop) (n c : Nat) (a : Addr) (l : List Int) (w : World) (h : Lz X w 1 (some a) n (ICs l)) (hn : n ≤ 100000) :
    Calls Try.prog 48 #[.slice (some a) n c] w fun e w' => ∃ v, e = .returned v ∧ w'.ownsRow w.heap.size 3 1 v n (ICs l) ∧ Below w.heap.size w w' := by
  obtain ⟨i0, hi0, hz0, hz1, hz2⟩ := int_info
  have hnil := fun W => Lib.run_eql_slice_nil (P := Try.prog) W 42 3 (some a) n c 0 0 Try.underlying42
  have HH := Lib.hid h
  clear h
  have hm : (w.alloc (.cells #[] 3)).ownsRow w.heap.size 3 1 (.slice (some ⟨w.heap.size, 0, none⟩) 0 0) 0 [] := World.ownsRow_made w #[] 0 (Nat.le_refl _) (by simp [maxLen]) rfl
  have HM := Lib.hid hm
  clear hm
  go_enter Try.func48, Try.ntmps48
  go_wp2_with (at_builtin; refine pl_wpList_app _ rfl (.tmp 5) (.tmp 6) _ rfl w.heap.size 3 i0 _ 1 8 Try.underlying42 hi0 hz0 hz1 hz2 rfl (by omega) _ 0 [] rfl HM.out a n c (ICs l) rfl HH.out.len (HH.out.alloc _).cells (ICs_cell l) (by simp only [maxLen]; omega) (by omega) (by simp) ?_; intro v1 w1 hown hg)
  go_ret
  exact ⟨v1, rfl, by simpa using hown, pl_below_own ((Below.refl _ _).alloc (Nat.le_refl _) _) HM.out hg (Nat.le_refl _) (by simp)⟩
set_option maxHeartbeats 400000 in
theorem cloneI_none (n c : Nat) (w : World) : Calls Try.prog 48 #[.slice none n c] w fun e w' => e = .returned (.slice none 0 0) ∧ w = w' := by
  have hnil := fun W => Lib.run_eql_slice_nil (P := Try.prog) W 42 3 none n c 0 0 Try.underlying42
  go_enter Try.func48, Try.ntmps48
  go_wp2_with fail
  go_ret
  exact ⟨rfl, rfl⟩
/-- New numbers come back; nothing that was there has turned. -/
def RetIs (w : World) (l : List Int) (e : Ending) (w' : World) : Prop := ∃ A c, e = .returned (.slice A l.length c) ∧ w'.ownsRow w.heap.size 3 1 (.slice A l.length c) l.length (ICs l) ∧ Below w.heap.size w w'
theorem RetIs.mk {w w' : World} {l : List Int} {v : Value} {n : Nat} (h : w'.ownsRow w.heap.size 3 1 v n (ICs l)) (hb : Below w.heap.size w w') : RetIs w l (.returned v) w' := by
  have hl : l.length = n := by have := h.1; rw [ICs_length] at this; omega
  subst hl
  obtain ⟨A, c, rfl, _⟩ := pl_own_slice h
  exact ⟨A, c, rfl, h, hb⟩
theorem cloneI_any (X : Nat → Prop) (n c : Nat) (A : Option Addr) (l : List Int) (w : World) (h : Lz X w 1 A n (ICs l)) (hn : n ≤ 100000) : Calls Try.prog 48 #[.slice A n c] w (RetIs w l) := by
  have hlen := h.iclen
  cases A with
  | some a =>
    refine (cloneI_some X n c a l w h hn).mono ?_
    rintro e w' ⟨v, rfl, ho, hb⟩
    exact RetIs.mk ho hb
  | none =>
    refine (cloneI_none n c w).mono ?_
    rintro e w' ⟨rfl, rfl⟩
    obtain ⟨rfl, _⟩ := h.nil_of_none
    have : l = [] := List.eq_nil_of_length_eq_zero hlen
    subst this
    exact RetIs.mk (World.ownsRow_nil w w.heap.size 3 1) (Below.refl _ _)
/-- A box's numbers. -/
structure Bx where
  x0 : Int
  y0 : Int
  x1 : Int
  y1 : Int
  deriving DecidableEq
def bxL (b : Bx) : List Value := [.int .i64 b.x0, .int .i64 b.y0, .int .i64 b.x1, .int .i64 b.y1]
def bxA (b : Bx) : Array Value := (bxL b).toArray
def zbx : Bx := ⟨0, 0, 0, 0⟩
theorem bxA_one (b : Bx) : (bxA b).all (·.oneCell') = true := by simp [bxA, bxL, Value.oneCell']
theorem strX : Str 23 4 := ⟨_, Try.underlying23, rfl, by kernel_rfl⟩
theorem strXr : Str 26 4 := ⟨_, Try.underlying26, rfl, by kernel_rfl⟩
/-- What a region's cells hold. -/
def bkA (d : Bx) (P R : Value) : Array Value := #[.int .i64 d.x0, .int .i64 d.y0, .int .i64 d.x1, .int .i64 d.y1, P, R]
theorem bkA_one (d : Bx) (A B : Option Addr) (n m c e : Nat) : (bkA d (.slice A n c) (.slice B m e)).all (·.oneCell') = true := by simp [bkA, Value.oneCell']
def zbk : Array Value := bkA zbx (.slice none 0 0) (.slice none 0 0)
theorem bk_box {w : World} {g : Nat} {d : Bx} {P R : Value} (h : At w g 44 (bkA d P R)) : w.rangeAt g 0 (bxL d) := fun j v hv => by
  rw [Nat.zero_add, h.cell j]
  have hj : j < 4 := (List.getElem?_eq_some_iff.1 hv).1
  rcases (by omega : j = 0 ∨ j = 1 ∨ j = 2 ∨ j = 3) with rfl | rfl | rfl | rfl <;> exact hv
section
variable {op : Oper} {a : Act}
theorem exec_load_bx {w : World} (x : Operand) (ho : op.op = .load 23 x) (g o : Nat) (hx : a.eval x = .pointer (some ⟨g, o, none⟩)) (b : Bx) (hc : w.rangeAt g o (bxL b)) : (execOp a.eval op).run Try.prog w = .ok (.value (.agg (bxA b))) w := by
  obtain ⟨ds, h1, h2, h3⟩ := strX
  unfold execOp
  simp only [ho, hx, Instr.loadAt, Instr.sureAddr, Sem.run_bind, Sem.run_pure, Result.andThen_ok, run_loadVar_mid w g o 23 (bxL b) ds hc h1 h2 h3]
  rfl
end
section
variable {op : Oper} {a : Act}
theorem exec_build_bk {w : World} (x y z : Operand) (ho : op.op = .build 44 #[(0, x), (1, y), (2, z)]) (d : Bx) (A B : Option Addr) (n c m e : Nat) (hx : a.eval x = .agg (bxA d)) (hy : a.eval y = .slice A n c) (hz : a.eval z = .slice B m e) : (execOp a.eval op).run Try.prog w = .ok (.value (.agg (bkA d (.slice A n c) (.slice B m e)))) w := by
  have h0 : (Instr.build 44 #[(0, .agg (bxA d)), (1, .slice A n c), (2, .slice B m e)]).run Try.prog w = .ok (.agg (bkA d (.slice A n c) (.slice B m e))) w := by
    unfold bxA bxL
    go_simp
    rfl
  unfold execOp
  simp [ho, hx, hy, hz, h0, Result.andThen]
end
/-- What a function hands back that returns a struct out of a cell. -/
theorem results_at1 {fn : Func} {p : Tmp} {ty : TypeId} {tmps : Array Value} {w : World} {g n : Nat} {cs : Array Value} (hp : tmps.getD p undef = .pointer (some ⟨g, 0, none⟩)) (hc : At w g ty cs) (hs : Str ty n) (hn : cs.size = n)
    (h : fn.results = #[.cell p ty]) : (results fn tmps).run Try.prog w = .ok (.agg cs) w := by
  obtain ⟨ds, h1, h2, h3⟩ := hs
  have hp' : tmps[p]?.getD undef = .pointer (some ⟨g, 0, none⟩) := by simpa using hp
  have hl := run_loadVar_row w g ty ty cs (0, 0) ds hc h1 (by cases ds <;> first | rfl | cases h2) (by rw [hn]; exact h3)
  simp [results, h, hp', asAddr, hl]
/-- While a result is made in box g. -/
def MkS (g : Nat) (w0 : World) (wz : World) : Prop := Below g w0 wz ∧ ∃ cs : Array Value, cs.size = 6 ∧ At wz g 44 cs
theorem MkS.start {w : World} (cs0 : Array Value) (t0 : TypeId) : MkS (w.heap.size + 1) ((w.alloc (.cells cs0 t0)).alloc (.cells zbk 44)) ((w.alloc (.cells cs0 t0)).alloc (.cells zbk 44)).drew := by
  have h := At.new (w.alloc (.cells cs0 t0)) 44 zbk
  rw [World.size_alloc] at h
  exact ⟨(Below.refl _ _).drew, zbk, rfl, h⟩
theorem MkS.call {g : Nat} {w0 a b : World} (h : MkS g w0 a) (hb : Below a.heap.size a b) : MkS g w0 b := by
  obtain ⟨h1, cs, h2, h3⟩ := h
  exact ⟨h1.trans (hb.mono (by have := h3.lt; omega)), cs, h2, h3.under hb h3.lt⟩
theorem MkS.store {g : Nat} {w0 a b : World} {cs : Array Value} (h : MkS g w0 a) (hg : a.grownBy b (some g)) (ha : At b g 44 cs) (hc : cs.size = 6) : MkS g w0 b := by
  obtain ⟨h1, cs', _, h3⟩ := h
  exact ⟨h1.grown hg (by have := h3.lt; omega) (fun k e => by injection e with e; omega), cs, hc, ha⟩
/-- What with returns. -/
def RetW (w : World) (d : Bx) (ps : List Int) (R : Value) (n : Nat) (e : Ending) (z : World) : Prop := ∃ A c, e = .returned (.agg (bkA d (.slice A n c) R)) ∧ z.ownsRow w.heap.size 3 1 (.slice A n c) n (ICs ps) ∧ Below w.heap.size w z
set_option maxHeartbeats 3200000 in
theorem with_any (d : Bx) (PA : Option Addr) (pn pc : Nat) (ps : List Int) (R0 : Value) (RA : Option Addr) (rn rc : Nat) (w : World) (h : Lz NoX w 1 PA pn (ICs ps)) (hn : pn ≤ 100000) :
    Calls Try.prog 37 #[.agg (bkA d (.slice PA pn pc) R0), .slice RA rn rc] w (RetW w d ps (.slice RA rn rc) pn) := by
  have HLN := Lib.hid h.iclen
  have HL := Lib.hid h
  clear h
  go_enter Try.func37, Try.ntmps37
  go_upto_region 1 with fail
  have hz0 : (#[Value.int .i64 0, .int .i64 0, .int .i64 0, .int .i64 0, .slice none 0 0, .slice none 0 0] : Array Value) = zbk := rfl
  rw [hz0]
  clear hz0
  have HS0 := Lib.hid (MkS.start (w := w) (bkA d (.slice PA pn pc) R0) 44)
  have HA2 : Hid (At ((w.alloc (.cells (bkA d (.slice PA pn pc) R0) 44)).alloc (.cells zbk 44)) w.heap.size 44 (bkA d (.slice PA pn pc) R0)) := (At.new w 44 _).alloc _
  have HBW : Hid (Below w.heap.size w ((w.alloc (.cells (bkA d (.slice PA pn pc) R0) 44)).alloc (.cells zbk 44))) := ((Below.refl _ w).alloc (Nat.le_refl _) _).alloc (by simp) _
  generalize ((w.alloc (.cells (bkA d (.slice PA pn pc) R0) 44)).alloc (.cells zbk 44)) = w2 at HS0 HA2 HBW ⊢
  have HCL : Hid (∀ wz, Below (w.heap.size + 1) w2 wz → Calls Try.prog 48 #[.slice PA pn pc] wz (RetIs wz ps)) := fun wz hz => cloneI_any NoX pn pc PA ps wz (HL.out.below (HBW.out.trans (hz.mono (Nat.le_succ _)))) hn
  refine wp_region_held_drew (S := MkS (w.heap.size + 1) w2) (by kernel_rfl) HS0.out (fun hS => ?_)
  refine tkS 0 hS ?_
  refine tkS (v := .agg (bxA d)) 1 hS ?_ (hy := by intro wz hz; have q1 : wz.cell? ⟨w.heap.size, 4, none⟩ = some (.slice PA pn pc) := (hz.1.cell (p := ⟨w.heap.size, 4, none⟩) (Nat.lt_succ_self _)).trans (HA2.out.cell 4); exact exec_load_bx (.tmp 5) rfl w.heap.size 0 rfl d (bk_box (HA2.out.under hz.1 (Nat.lt_succ_self _))))
  refine tkS 2 hS ?_
  refine tkS 3 hS ?_ (hy := by intro wz hz; have q1 : wz.cell? ⟨w.heap.size, 4, none⟩ = some (.slice PA pn pc) := (hz.1.cell (p := ⟨w.heap.size, 4, none⟩) (Nat.lt_succ_self _)).trans (HA2.out.cell 4); go_simp <;> with_reducible rfl)
  refine tkS 5 hS ?_
  refine wpAnyH_ready (rs := [4]) (by kernel_rfl) (by simp) ?_
  refine AllReadyH.cons rfl (fun K hK => ?_) AllReadyH.nil
  go_simp
  refine (HCL.out _ hS.1).mono ?_
  rintro e y9 ⟨A5, c5, rfl, ho9, hb9⟩
  rw [HLN.out] at ho9 ⊢
  have hb : True := trivial
  have HO9 := Lib.hid ho9
  have HZ9 := Lib.hid hS.1
  have HB9 := Lib.hid hb9
  have HS9 := Lib.hid (hS.call hb9)
  clear ho9 hb9
  refine hK.out _ _ (HS9.out) (fun hT => ?_)
  clear hK hb hS
  have hS := hT
  clear hT
  refine tkS (v := .agg (bkA d (.slice A5 pn c5) (.slice RA rn rc))) 6 hS ?_ (hy := by intro wz hz; have q1 : wz.cell? ⟨w.heap.size, 4, none⟩ = some (.slice PA pn pc) := (hz.1.cell (p := ⟨w.heap.size, 4, none⟩) (Nat.lt_succ_self _)).trans (HA2.out.cell 4); exact exec_build_bk (.tmp 6) (.tmp 9) (.tmp 10) rfl d A5 RA pn c5 rn rc rfl rfl rfl)
  refine wpAnyH_ready (rs := [7]) (by kernel_rfl) (by simp) ?_
  refine AllReadyH.cons rfl (fun K hK => ?_) AllReadyH.nil
  rw [if_pos (by rfl)]
  obtain ⟨cs9, hcs9, ha8⟩ := hS.2
  refine wp_store_at 44 (.tmp 4) (.tmp 11) rfl rfl (w.heap.size + 1) rfl (bkA d (.slice A5 pn c5) (.slice RA rn rc)) cs9 6 rfl strBk rfl hcs9 (bkA_one _ _ _ _ _ _ _) ha8 ?_
  intro w9 ha9 hg9
  have A9 := Lib.hid ha9
  have G9 := Lib.hid hg9
  have HSS := Lib.hid (hS.store hg9 ha9 rfl)
  clear ha9 hg9 ha8
  refine hK.out _ _ (HSS.out) (fun hT => ?_)
  clear hK hS
  have hS := hT
  clear hT
  refine wpAnyH_done (by kernel_rfl) ?_ _
  clear hS
  have hb9 : Below w.heap.size w w9 := (HBW.out.trans (HZ9.out.mono (Nat.le_succ _))).trans ((HB9.out.mono (by have := (HBW.out.trans (HZ9.out.mono (Nat.le_succ _))).size; omega)).grown G9.out (by have := (HBW.out.trans (HZ9.out.mono (Nat.le_succ _))).size; have := HB9.out.size; omega) (fun k e => by injection e with e; omega))
  have ho9 : w9.ownsRow w.heap.size 3 1 (.slice A5 pn c5) pn (ICs ps) := own_base (HO9.out.kept G9.out (by
    cases hv : (Value.slice A5 pn c5).ownBlock with
    | none => exact .inl rfl
    | some k =>
      obtain ⟨cs8, _, ha8⟩ := HS9.out.2
      exact .inr fun e => own_ne HO9.out ha8 (by decide) (by rw [hv, e]))) (HBW.out.trans (HZ9.out.mono (Nat.le_succ _))).size
  have HR9 : Hid (RetW w d ps (.slice RA rn rc) pn (.returned (.agg (bkA d (.slice A5 pn c5) (.slice RA rn rc)))) w9) := ⟨A5, c5, rfl, ho9, hb9⟩
  clear hb9 ho9
  go_wp2_with fail
  dsimp only [Act.put]
  exact bodyPost_ret (results_at1 (g := w.heap.size + 1) rfl A9.out strBk rfl rfl) rfl HR9.out
end Go.Proofs.Ytgjkbnplpioloaa
