/-
  works.
  Conditions: none.
-/
import Derived.Test.YtgjkbnplpioloaaB27
namespace Go.Proofs.Ytgjkbnplpioloaa
open Go.RowKit
attribute [local go_sem] Oper.semAt_some
set_option maxRecDepth 20000

/-- A box with a bucket whose rows are the call's own. -/
structure BkO (w : World) (g : Nat) (d : Bx) (ps : List Int) (pn : Nat) (rs : List Rc) (rn : Nat) (PA : Option Addr) (pc : Nat) (RA : Option Addr) (rc : Nat) (y : World) : Prop where
  box : At y g 44 (bkA d (.slice PA pn pc) (.slice RA rn rc))
  nums : y.ownsRow w.heap.size 3 1 (.slice PA pn pc) pn (ICs ps)
  recs : y.ownsRow w.heap.size 50 4 (.slice RA rn rc) rn (rcsL rs)
section
variable {w y z : World} {g : Nat} {d : Bx} {ps : List Int} {pn rn pc rc : Nat} {rs : List Rc} {PA RA : Option Addr}
theorem BkO.call (h : BkO w g d ps pn rs rn PA pc RA rc y) (hb : Below y.heap.size y z) : BkO w g d ps pn rs rn PA pc RA rc z := ⟨h.box.under hb h.box.lt, own_under h.nums hb (Nat.le_refl _), own_under h.recs hb (Nat.le_refl _)⟩
theorem BkO.bk (h : BkO w g d ps pn rs rn PA pc RA rc y) : BkL y PA pn RA rn ps rs := ⟨Lz.of_own h.nums (fun _ h => h.elim), Lz.of_own h.recs (fun _ h => h.elim)⟩
theorem BkO.cap (h : BkO w g d ps pn rs rn PA pc RA rc y) : rn ≤ rc := by
  obtain ⟨A, c, e, h1, _⟩ := pl_own_slice h.recs
  injection e with _ e1 e2
  omega
theorem BkO.new {y0 : World} (hw : w.heap.size ≤ y0.heap.size) (h1 : y.ownsRow y0.heap.size 3 1 (.slice PA pn pc) pn (ICs ps)) (h2 : y.ownsRow y0.heap.size 50 4 (.slice RA rn rc) rn (rcsL rs)) : BkO w y.heap.size d ps pn rs rn PA pc RA rc (y.alloc (.cells (bkA d (.slice PA pn pc) (.slice RA rn rc)) 44)) :=
  ⟨At.new y 44 _, own_under (own_base h1 hw) ((Below.refl _ _).alloc (Nat.le_refl _) _) (Nat.le_refl _), own_under (own_base h2 hw) ((Below.refl _ _).alloc (Nat.le_refl _) _) (Nat.le_refl _)⟩
theorem BkO.store {y0 : World} {cs : Array Value} (hw : w.heap.size ≤ y0.heap.size) (h1 : y.ownsRow y0.heap.size 3 1 (.slice PA pn pc) pn (ICs ps)) (h2 : y.ownsRow y0.heap.size 50 4 (.slice RA rn rc) rn (rcsL rs)) (ha : At y g 44 cs) (hz : At z g 44 (bkA d (.slice PA pn pc) (.slice RA rn rc))) (hg : y.grownBy z (some g)) : BkO w g d ps pn rs rn PA pc RA rc z := by
  have k : ∀ {b e s v m xs}, y.ownsRow b e s v m xs → 44 ≠ e → z.ownsRow b e s v m xs := fun {b e s v m xs} ho hne => by
    refine ho.kept hg ?_
    cases hv : v.ownBlock with
    | none => exact .inl rfl
    | some k => exact .inr fun e1 => own_ne ho ha hne (by rw [hv, e1])
  exact ⟨hz, own_base (k h1 (by decide)) hw, own_base (k h2 (by decide)) hw⟩
end
def BelO (w y : World) : Prop := Below w.heap.size w y
theorem BelO.call {w y z : World} (h : BelO w y) (hb : Below y.heap.size y z) : BelO w z := Below.trans h (hb.mono (Below.size h))
def LIO (y : World) (A : Option Addr) (n : Nat) (l : List Im) : Prop := LI y y.heap.size A n l
theorem LIO.call {y z : World} {A : Option Addr} {n : Nat} {l : List Im} (h : LIO y A n l) (hb : Below y.heap.size y z) : LIO z A n l := (LI.under h hb).up hb.size
def CelO (y : World) (g : Nat) (v : Value) : Prop := y.cell? ⟨g, 0, none⟩ = some v
theorem CelO.call {y z : World} {g : Nat} {v : Value} (h : CelO y g v) (hb : Below y.heap.size y z) : CelO z g v := (hb.cell (p := ⟨g, 0, none⟩) (World.block_lt_of_cell? _ _ h)).trans h
theorem At.call {y z : World} {g : Nat} {t : TypeId} {cs : Array Value} (h : At y g t cs) (hb : Below y.heap.size y z) : At z g t cs := h.under hb h.lt
theorem GetW (w5 : World) (g7 c4 : Nat) (A4 : Option Addr) (hc : CelO w5 g7 (.slice A4 1 c4)) (hi : LIO w5 A4 1 [xW]) : Calls Try.prog 27 #[.agg (bxA bW), .int .i64 7, .func (.func 33) #[] #[.pointer (some ⟨g7, 0, none⟩)]] w5 (fun e z => ∃ AP cP AR cR, e = .returned (.tuple #[.agg (bkA bW (.slice AP 1 cP) (.slice AR 1 cR)), .bool true]) ∧
    z.ownsRow w5.heap.size 3 1 (.slice AP 1 cP) 1 (ICs [7]) ∧ z.ownsRow w5.heap.size 50 4 (.slice AR 1 cR) 1 (rcsL [pW]) ∧ Below w5.heap.size w5 z) := by
  refine (Get_any 33 #[.pointer (some ⟨g7, 0, none⟩)] fW bW 7 w5 ent_works1 (fun W n hW => works1_any xW g7 W.heap.size c4 A4 n W (CelO.call hc hW) (LIO.call hi hW) (Nat.le_refl _))).mono ?_
  rintro e z ⟨hb, ⟨k, hk, AP, cP, AR, cR, he, h1, h2⟩ | ⟨hno, _⟩⟩
  · obtain rfl := hk.one fineW gW1
    rw [gRsW, gPsW] at *
    exact ⟨AP, cP, AR, cR, he, h1, h2, hb⟩
  · exact absurd ⟨1, getW⟩ hno
theorem GetNo (w5 : World) : Calls Try.prog 27 #[.agg (bxA bW), .int .i64 7, .func (.func 34) #[] #[]] w5 (fun e z => e = .returned (.tuple #[.agg zbk, .bool false]) ∧ Below w5.heap.size w5 z) := by
  refine (Get_any 34 #[] (fun _ => (zpg, true)) bW 7 w5 ent_works2 (fun W n hW => works2_any n W)).mono ?_
  rintro e z ⟨hb, ⟨k, hk, _⟩ | ⟨_, he⟩⟩
  · exact absurd ⟨k, hk⟩ noW
  · exact ⟨he, hb⟩
/-- What the example looks at in its page. -/
theorem imW {y : World} {b o : Nat} (h : LIO y (some ⟨b, o, none⟩) 1 [xW]) : y.cell? ⟨b, o + 1, none⟩ = some (.int .u8 82) ∧ y.cell? ⟨b, o + 1 + 2, none⟩ = some (.int .u8 1) := by
  obtain ⟨b1, o1, _, e1, _, h0⟩ := LI.at h (k := 0) (by omega)
  injection e1 with e1
  injection e1 with e2 e3
  subst e2 e3
  rw [Nat.zero_mul] at h0
  have a := im_byte h0 (j := 0) (by omega)
  have c := im_byte h0 (j := 2) (by omega)
  have e0 : (([xW] : List Im)[0]).p.toList.getD 0 0 = 82 := bytesW.1
  have e2 : (([xW] : List Im)[0]).p.toList.getD 2 0 = 1 := bytesW.2
  rw [e0] at a
  rw [e2] at c
  exact ⟨a, c⟩
theorem two_new {z w3 : World} {t : TypeId} (g3 : ((z.alloc (.cells (bxA zbx) t)).alloc (.cells (bxA zbx) t)).grownBy w3 (some z.heap.size)) : Below z.heap.size z w3 ∧ At w3 (z.heap.size + 1) t (bxA zbx) := by
  have hb : Below z.heap.size z ((z.alloc (.cells (bxA zbx) t)).alloc (.cells (bxA zbx) t)) := ((Below.refl _ z).alloc (Nat.le_refl _) _).alloc (by simp) _
  have ha : At ((z.alloc (.cells (bxA zbx) t)).alloc (.cells (bxA zbx) t)) (z.heap.size + 1) t (bxA zbx) := by
    have := At.new (z.alloc (.cells (bxA zbx) t)) t (bxA zbx)
    rw [World.size_alloc] at this
    exact this
  exact ⟨hb.grown g3 hb.size (fun j e => by injection e with e; omega), ha.grown g3 (fun e => by injection e with e; omega)⟩
theorem exec_build_b2 {w : World} {op : Oper} {a : Act} (x y : Operand) (ho : op.op = .build 44 #[(0, x), (1, y)]) (d : Bx) (A : Option Addr) (n c : Nat) (hx : a.eval x = .agg (bxA d)) (hy : a.eval y = .slice A n c) : (execOp a.eval op).run Try.prog w = .ok (.value (.agg (bkA d (.slice A n c) (.slice none 0 0)))) w := by
  have h0 : (Instr.build 44 #[(0, .agg (bxA d)), (1, .slice A n c)]).run Try.prog w = .ok (.agg (bkA d (.slice A n c) (.slice none 0 0))) w := by
    unfold bxA bxL
    go_simp
    rfl
  unfold execOp
  simp [ho, hx, hy, h0, Result.andThen]
theorem row7 {w z : World} (hw : w.heap.size ≤ z.heap.size) : (z.alloc (.cells #[.int .i64 7] 3)).ownsRow w.heap.size 3 1 (.slice (some ⟨z.heap.size, 0, none⟩) 1 1) 1 (ICs [7]) := ⟨rfl, .inr ⟨z.heap.size, 1, #[.int .i64 7], rfl, hw, heap_alloc_new z _, Nat.le_refl _, by simp [maxLen], rfl, rfl⟩⟩
theorem e1W : ([pW] : List Rc).length = 1 := rfl
set_option maxHeartbeats 25600000 in
theorem works_any (w : World) : Calls Try.prog 15 #[] w (RetV w (.bool true)) := by
  have BL : Hid (BelO w w) := Below.refl _ w
  go_enter Try.func15, Try.ntmps15
  go_wp2_with (first
    | ((with_reducible show wpList _ _ _ (⟨none, _, _, _, _, _⟩ :: _) _ _); refine wpList_store_new 23 (.tmp 1) (.tmp 19) rfl rfl rfl w.heap.size w rfl rfl (bxA bW) _ 4 rfl strX rfl rfl (bxA_one _) rfl ?_; have hk := (Below.refl w.heap.size w).alloc (Nat.le_refl _) (.cells (bxA bW) 23); replace BL := Lib.hid (BL.out.call hk); clear hk; have B1 := Lib.hid (At.new w 23 (bxA bW)); generalize w.alloc (.cells (bxA bW) 23) = y1 at BL B1 ⊢; generalize w.heap.size = g1 at B1 ⊢)
    | ((with_reducible show wpList _ _ _ (⟨some 21, _, _, _, _, _⟩ :: _) _ _); refine wpList_load_at 23 21 (.tmp 1) rfl rfl rfl g1 rfl (bxA bW) 4 strX rfl B1.out ?_)
    )
  refine (xHalves_any bW _ rtW).mono ?_
  rintro e z2 ⟨rfl, hk⟩
  rw [halvesW]
  replace BL := Lib.hid (BL.out.call hk)
  replace B1 := Lib.hid (B1.out.call hk)
  clear hk
  go_wp2_with (first
    | ((with_reducible show wpList _ _ _ (⟨none, _, _, _, _, _⟩ :: _) _ _); refine wpList_store_at 23 (.tmp 2) (.tmp 23) rfl rfl rfl z2.heap.size rfl (bxA loW) (bxA zbx) 4 rfl strX rfl rfl (bxA_one _) ((At.new z2 23 (bxA zbx)).alloc (.cells (bxA zbx) 23)) ?_; intro w3 h3 g3; have H2 := Lib.hid h3; have HT := Lib.hid (two_new g3); clear h3 g3)
    | ((with_reducible show wpList _ _ _ (⟨none, _, _, _, _, _⟩ :: _) _ _); refine wpList_store_at 23 (.tmp 3) (.tmp 24) rfl rfl rfl (z2.heap.size + 1) rfl (bxA hiW) (bxA zbx) 4 rfl strX rfl rfl (bxA_one _) HT.out.2 ?_; intro w4 h4 g4; have hk : Below z2.heap.size z2 w4 := HT.out.1.grown g4 HT.out.1.size (fun j e => by injection e with e; omega); replace BL := Lib.hid (BL.out.call hk); replace B1 := Lib.hid (B1.out.call hk); have B2 := Lib.hid (H2.out.grown g4 (fun e => by injection e with e; omega)); have B3 := Lib.hid h4; clear hk h4 g4 HT H2; generalize z2.heap.size + 1 = g3 at B3 ⊢; generalize z2.heap.size = g2 at B2 ⊢)
    | ((with_reducible show wpList _ _ _ (⟨some 27, _, _, _, _, _⟩ :: _) _ _); refine wpList_load_at 23 27 (.tmp 2) rfl rfl rfl g2 rfl (bxA loW) 4 strX rfl B2.out ?_)
    | ((with_reducible show wpList _ _ _ (⟨some 28, _, _, _, _, _⟩ :: _) _ _); refine wpList_load_at 23 28 (.tmp 3) rfl rfl rfl g3 rfl (bxA hiW) 4 strX rfl B3.out ?_)
    )
  refine (Join_any loW hiW _).mono ?_
  rintro e z3 ⟨rfl, hk⟩
  rw [joinW]
  replace BL := Lib.hid (BL.out.call hk)
  replace B1 := Lib.hid (B1.out.call hk)
  replace B2 := Lib.hid (B2.out.call hk)
  replace B3 := Lib.hid (B3.out.call hk)
  clear hk
  go_wp2_with (first
    | ((with_reducible show wpList _ _ _ (⟨none, _, _, _, _, _⟩ :: _) _ _); refine wpList_store_new 23 (.tmp 5) (.tmp 30) rfl rfl rfl z3.heap.size z3 rfl rfl (bxA bW) _ 4 rfl strX rfl rfl (bxA_one _) rfl ?_; have hk := (Below.refl z3.heap.size z3).alloc (Nat.le_refl _) (.cells (bxA bW) 23); replace BL := Lib.hid (BL.out.call hk); replace B1 := Lib.hid (B1.out.call hk); replace B2 := Lib.hid (B2.out.call hk); replace B3 := Lib.hid (B3.out.call hk); clear hk; have B5 := Lib.hid (At.new z3 23 (bxA bW)); generalize z3.alloc (.cells (bxA bW) 23) = y4 at BL B1 B2 B3 B5 ⊢; generalize z3.heap.size = g5 at B5 ⊢)
    | ((with_reducible show wpList _ _ _ (⟨some 32, _, _, _, _, _⟩ :: _) _ _); refine wpList_load_at 23 32 (.tmp 1) rfl rfl rfl g1 rfl (bxA bW) 4 strX rfl B1.out ?_)
    | ((with_reducible show wpList _ _ _ (⟨some 33, _, _, _, _, _⟩ :: _) _ _); refine wpList_lit1i 33 rfl (.const (.int .i64 7)) rfl rfl 7 rfl ?_; have P7 := Lib.hid (row7 (w := w) (Below.size BL.out) : (y4.alloc (.cells #[.int .i64 7] 3)).ownsRow w.heap.size 3 1 (.slice (some ⟨y4.heap.size, 0, none⟩) 1 1) 1 (ICs [7])); have hk := (Below.refl y4.heap.size y4).alloc (Nat.le_refl _) (.cells #[.int .i64 7] 3); replace BL := Lib.hid (BL.out.call hk); replace B1 := Lib.hid (B1.out.call hk); replace B2 := Lib.hid (B2.out.call hk); replace B3 := Lib.hid (B3.out.call hk); replace B5 := Lib.hid (B5.out.call hk); clear hk; generalize y4.alloc (.cells #[.int .i64 7] 3) = ya at BL B1 B2 B3 B5 P7 ⊢; generalize y4.heap.size = gp at P7 ⊢)
    | ((with_reducible show wpList _ _ _ (⟨some 34, _, _, _, _, _⟩ :: _) _ _); refine wpList_of_exec 34 (.agg (bkA bW (.slice (some ⟨gp, 0, none⟩) 1 1) (.slice none 0 0))) rfl rfl (exec_build_b2 (.tmp 32) (.tmp 33) rfl bW (some ⟨gp, 0, none⟩) 1 1 rfl rfl) ?_)
    | ((with_reducible show wpList _ _ _ (⟨none, _, _, _, _, _⟩ :: _) _ _); refine wpList_store_new 44 (.tmp 7) (.tmp 34) rfl rfl rfl ya.heap.size ya rfl rfl (bkA bW (.slice (some ⟨gp, 0, none⟩) 1 1) (.slice none 0 0)) _ 6 rfl strBk rfl rfl (bkA_one _ _ _ _ _ _ _) rfl ?_; have hk := (Below.refl ya.heap.size ya).alloc (Nat.le_refl _) (.cells (bkA bW (.slice (some ⟨gp, 0, none⟩) 1 1) (.slice none 0 0)) 44); replace BL := Lib.hid (BL.out.call hk); replace B1 := Lib.hid (B1.out.call hk); replace B2 := Lib.hid (B2.out.call hk); replace B3 := Lib.hid (B3.out.call hk); replace B5 := Lib.hid (B5.out.call hk); clear hk; have R7 := Lib.hid (BkO.new (w := w) (y0 := w) (d := bW) (ps := [7]) (rs := []) (Nat.le_refl _) P7.out (World.ownsRow_nil _ _ _ _)); generalize ya.alloc (.cells (bkA bW (.slice (some ⟨gp, 0, none⟩) 1 1) (.slice none 0 0)) 44) = y5 at BL B1 B2 B3 B5 R7 ⊢; generalize ya.heap.size = g7 at R7 ⊢)
    | ((with_reducible show wpList _ _ _ (⟨some 36, _, _, _, _, _⟩ :: _) _ _); refine wpList_load_at 44 36 (.tmp 7) rfl rfl rfl g7 rfl (bkA bW (.slice (some ⟨gp, 0, none⟩) 1 1) (.slice none 0 0)) 6 strBk rfl R7.out.box ?_)
    )
  have BLo := BL
  refine (Add_any bW (some ⟨gp, 0, none⟩) 1 1 none 0 0 [7] [] pW y5 R7.out.bk (by omega) (by omega) (by omega)).mono ?_
  rw [addW]
  rintro e z6 ⟨v, rfl, A8, c8, A9, c9, rfl, h5, h6, hk⟩
  rw [e1W] at h6 ⊢
  replace BL := Lib.hid (BL.out.call hk)
  replace B1 := Lib.hid (B1.out.call hk)
  replace B2 := Lib.hid (B2.out.call hk)
  replace B3 := Lib.hid (B3.out.call hk)
  replace B5 := Lib.hid (B5.out.call hk)
  replace R7 := Lib.hid (R7.out.call hk)
  have H5 := Lib.hid h5
  have H6 := Lib.hid h6
  have HSZ := Lib.hid (show w.heap.size ≤ y5.heap.size from Below.size BLo.out)
  clear hk h5 h6
  go_wp2_with (first
    | ((with_reducible show wpList _ _ _ (⟨none, _, _, _, _, _⟩ :: _) _ _); refine wpList_store_new 44 (.tmp 8) (.tmp 39) rfl rfl rfl z6.heap.size z6 rfl rfl (bkA bW (.slice A8 1 c8) (.slice A9 1 c9)) _ 6 rfl strBk rfl rfl (bkA_one _ _ _ _ _ _ _) rfl ?_; have hk := (Below.refl z6.heap.size z6).alloc (Nat.le_refl _) (.cells (bkA bW (.slice A8 1 c8) (.slice A9 1 c9)) 44); replace BL := Lib.hid (BL.out.call hk); replace B1 := Lib.hid (B1.out.call hk); replace B2 := Lib.hid (B2.out.call hk); replace B3 := Lib.hid (B3.out.call hk); replace B5 := Lib.hid (B5.out.call hk); replace R7 := Lib.hid (R7.out.call hk); clear hk; have R8 := Lib.hid (BkO.new (w := w) (d := bW) (ps := [7]) (rs := [pW]) HSZ.out H5.out H6.out); generalize z6.alloc (.cells (bkA bW (.slice A8 1 c8) (.slice A9 1 c9)) 44) = y7 at BL B1 B2 B3 B5 R7 R8 ⊢; generalize z6.heap.size = g8 at R8 ⊢)
    | ((with_reducible show wpList _ _ _ (⟨some 42, _, _, _, _, _⟩ :: _) _ _); refine wpList_load_at 44 42 (.tmp 8) rfl rfl rfl g8 rfl (bkA bW (.slice A8 1 c8) (.slice A9 1 c9)) 6 strBk rfl R8.out.box ?_)
    )
  have hcap := R8.out.cap
  clear H5 H6 HSZ BLo P7
  refine (Add_any bW A8 1 c8 A9 1 c9 [7] [pW] pW y7 R8.out.bk (by omega) (by omega) hcap).mono ?_
  rw [addW2]
  rintro e z8 ⟨v, rfl, A8b, c8b, A9b, c9b, rfl, h5, h6, hk⟩
  replace BL := Lib.hid (BL.out.call hk)
  replace B1 := Lib.hid (B1.out.call hk)
  replace B2 := Lib.hid (B2.out.call hk)
  replace B3 := Lib.hid (B3.out.call hk)
  replace B5 := Lib.hid (B5.out.call hk)
  replace R7 := Lib.hid (R7.out.call hk)
  replace R8 := Lib.hid (R8.out.call hk)
  clear hk h5 h6
  go_wp2_with (first
    | ((with_reducible show wpList _ _ _ (⟨none, _, _, _, _, _⟩ :: _) _ _); refine wpList_store_new 44 (.tmp 10) (.tmp 45) rfl rfl rfl z8.heap.size z8 rfl rfl (bkA bW (.slice A8b 1 c8b) (.slice A9b [pW].length c9b)) _ 6 rfl strBk rfl rfl (bkA_one _ _ _ _ _ _ _) rfl ?_; have hk := (Below.refl z8.heap.size z8).alloc (Nat.le_refl _) (.cells (bkA bW (.slice A8b 1 c8b) (.slice A9b [pW].length c9b)) 44); replace BL := Lib.hid (BL.out.call hk); replace B1 := Lib.hid (B1.out.call hk); replace B2 := Lib.hid (B2.out.call hk); replace B3 := Lib.hid (B3.out.call hk); replace B5 := Lib.hid (B5.out.call hk); replace R7 := Lib.hid (R7.out.call hk); replace R8 := Lib.hid (R8.out.call hk); clear hk; generalize z8.alloc (.cells (bkA bW (.slice A8b 1 c8b) (.slice A9b [pW].length c9b)) 44) = y9 at BL B1 B2 B3 B5 R7 R8 ⊢)
    | ((with_reducible show wpList _ _ _ (⟨some 47, _, _, _, _, _⟩ :: _) _ _); refine wpList_load_at 44 47 (.tmp 8) rfl rfl rfl g8 rfl (bkA bW (.slice A8 1 c8) (.slice A9 1 c9)) 6 strBk rfl R8.out.box ?_)
    )
  refine (putG_any bW A8 1 c8 A9 1 c9 [7] [pW] y9 R8.out.bk okW (by omega) (by omega) hcap).mono ?_
  rw [putW]
  rintro e z10 ⟨A4, n4, c4, rfl, hl4, hk⟩
  have h24 := hl4.len
  have h24b : n4 = 1 := h24.symm
  subst h24b
  have L12 : Hid (LIO z10 A4 1 [xW]) := hl4
  replace BL := Lib.hid (BL.out.call hk)
  replace B1 := Lib.hid (B1.out.call hk)
  replace B2 := Lib.hid (B2.out.call hk)
  replace B3 := Lib.hid (B3.out.call hk)
  replace B5 := Lib.hid (B5.out.call hk)
  replace R7 := Lib.hid (R7.out.call hk)
  replace R8 := Lib.hid (R8.out.call hk)
  clear hk hl4 h24
  go_upto_region 8 with fail
  have hk := (Below.refl z10.heap.size z10).alloc (Nat.le_refl _) (.cells #[.slice A4 1 c4] 60)
  replace BL := Lib.hid (BL.out.call hk)
  replace B1 := Lib.hid (B1.out.call hk)
  replace B2 := Lib.hid (B2.out.call hk)
  replace B3 := Lib.hid (B3.out.call hk)
  replace B5 := Lib.hid (B5.out.call hk)
  replace R7 := Lib.hid (R7.out.call hk)
  replace R8 := Lib.hid (R8.out.call hk)
  replace L12 := Lib.hid (L12.out.call hk)
  have C12 : Hid (CelO (z10.alloc (.cells #[.slice A4 1 c4] 60)) z10.heap.size (.slice A4 1 c4)) := (At.new z10 60 #[.slice A4 1 c4]).cell 0
  clear hk
  generalize z10.alloc (.cells #[.slice A4 1 c4] 60) = w5 at BL B1 B2 B3 B5 R7 R8 L12 C12 ⊢
  generalize z10.heap.size = g12 at C12 ⊢
  have c12 : w5.cell? ⟨g12, 0, none⟩ = some (.slice A4 1 c4) := C12.out
  have hmf : ∀ (fn : Fn) (first cap : Array Value) (w : World), (Instr.makeFunc fn first cap).run Try.prog w = .ok (.func fn first cap) w := fun _ _ _ _ => rfl
  go_wp2_with (first
    | ((with_reducible show wpList _ _ _ (⟨some 53, _, _, _, _, _⟩ :: _) _ _); refine wpList_load_at 23 53 (.tmp 1) rfl rfl rfl g1 rfl (bxA bW) 4 strX rfl B1.out ?_)
    )
  clear c12
  have BLo := BL
  refine (GetW w5 g12 c4 A4 C12.out L12.out).mono ?_
  rintro e z11 ⟨AP, cP, AR, cR, rfl, h1, h2, hk⟩
  replace BL := Lib.hid (BL.out.call hk)
  replace B1 := Lib.hid (B1.out.call hk)
  replace B2 := Lib.hid (B2.out.call hk)
  replace B3 := Lib.hid (B3.out.call hk)
  replace B5 := Lib.hid (B5.out.call hk)
  replace R7 := Lib.hid (R7.out.call hk)
  replace R8 := Lib.hid (R8.out.call hk)
  replace L12 := Lib.hid (L12.out.call hk)
  replace C12 := Lib.hid (C12.out.call hk)
  have H5 := Lib.hid h1
  have H6 := Lib.hid h2
  have HSZ := Lib.hid (show w.heap.size ≤ w5.heap.size from Below.size BLo.out)
  clear hk h1 h2 BLo
  go_wp2_with (first
    | ((with_reducible show wpList _ _ _ (⟨none, _, _, _, _, _⟩ :: _) _ _); refine wpList_store_new 44 (.tmp 13) (.tmp 56) rfl rfl rfl z11.heap.size z11 rfl rfl (bkA bW (.slice AP 1 cP) (.slice AR 1 cR)) _ 6 rfl strBk rfl rfl (bkA_one _ _ _ _ _ _ _) rfl ?_; have hk := (Below.refl z11.heap.size z11).alloc (Nat.le_refl _) (.cells (bkA bW (.slice AP 1 cP) (.slice AR 1 cR)) 44); replace BL := Lib.hid (BL.out.call hk); replace B1 := Lib.hid (B1.out.call hk); replace B2 := Lib.hid (B2.out.call hk); replace B3 := Lib.hid (B3.out.call hk); replace B5 := Lib.hid (B5.out.call hk); replace R7 := Lib.hid (R7.out.call hk); replace R8 := Lib.hid (R8.out.call hk); replace L12 := Lib.hid (L12.out.call hk); replace C12 := Lib.hid (C12.out.call hk); clear hk; have R13 := Lib.hid (BkO.new (w := w) (d := bW) (ps := [7]) (rs := [pW]) HSZ.out H5.out H6.out); generalize z11.alloc (.cells (bkA bW (.slice AP 1 cP) (.slice AR 1 cR)) 44) = y12 at BL B1 B2 B3 B5 R7 R8 L12 C12 R13 ⊢; generalize z11.heap.size = g13 at R13 ⊢)
    | ((with_reducible show wpList _ _ _ (⟨some 59, _, _, _, _, _⟩ :: _) _ _); refine wpList_load_at 44 59 (.tmp 8) rfl rfl rfl g8 rfl (bkA bW (.slice A8 1 c8) (.slice A9 1 c9)) 6 strBk rfl R8.out.box ?_)
    )
  clear H5 H6 HSZ
  have BLo := BL
  refine (Drop_any bW A8 1 c8 A9 1 c9 [7] [pW] pW y12 R8.out.bk (by omega) (by omega) hcap).mono ?_
  rw [dropW]
  rintro e z13 ⟨v, rfl, A5c, c5c, A6c, c6c, rfl, h5, h6, hk⟩
  replace BL := Lib.hid (BL.out.call hk)
  replace B1 := Lib.hid (B1.out.call hk)
  replace B2 := Lib.hid (B2.out.call hk)
  replace B3 := Lib.hid (B3.out.call hk)
  replace B5 := Lib.hid (B5.out.call hk)
  replace R7 := Lib.hid (R7.out.call hk)
  replace R8 := Lib.hid (R8.out.call hk)
  replace L12 := Lib.hid (L12.out.call hk)
  replace C12 := Lib.hid (C12.out.call hk)
  replace R13 := Lib.hid (R13.out.call hk)
  have H5 := Lib.hid h5
  have H6 := Lib.hid h6
  have HSZ := Lib.hid (show w.heap.size ≤ y12.heap.size from Below.size BLo.out)
  clear hk h5 h6 BLo
  go_wp2_with (first
    | ((with_reducible show wpList _ _ _ (⟨none, _, _, _, _, _⟩ :: _) _ _); refine wpList_store_new 44 (.tmp 15) (.tmp 62) rfl rfl rfl z13.heap.size z13 rfl rfl (bkA bW (.slice A5c 1 c5c) (.slice A6c 0 c6c)) _ 6 rfl strBk rfl rfl (bkA_one _ _ _ _ _ _ _) rfl ?_; have hk := (Below.refl z13.heap.size z13).alloc (Nat.le_refl _) (.cells (bkA bW (.slice A5c 1 c5c) (.slice A6c 0 c6c)) 44); replace BL := Lib.hid (BL.out.call hk); replace B1 := Lib.hid (B1.out.call hk); replace B2 := Lib.hid (B2.out.call hk); replace B3 := Lib.hid (B3.out.call hk); replace B5 := Lib.hid (B5.out.call hk); replace R7 := Lib.hid (R7.out.call hk); replace R8 := Lib.hid (R8.out.call hk); replace L12 := Lib.hid (L12.out.call hk); replace C12 := Lib.hid (C12.out.call hk); replace R13 := Lib.hid (R13.out.call hk); clear hk; have R15 := Lib.hid (BkO.new (w := w) (d := bW) (ps := [7]) (rs := []) HSZ.out H5.out H6.out); generalize z13.alloc (.cells (bkA bW (.slice A5c 1 c5c) (.slice A6c 0 c6c)) 44) = y14 at BL B1 B2 B3 B5 R7 R8 L12 C12 R13 R15 ⊢; generalize z13.heap.size = g15 at R15 ⊢)
    | ((with_reducible show wpList _ _ _ (⟨some 65, _, _, _, _, _⟩ :: _) _ _); refine wpList_load_at 23 65 (.tmp 1) rfl rfl rfl g1 rfl (bxA bW) 4 strX rfl B1.out ?_)
    )
  refine (GetNo y14).mono ?_
  rintro e z15 ⟨rfl, hk⟩
  replace BL := Lib.hid (BL.out.call hk)
  replace B1 := Lib.hid (B1.out.call hk)
  replace B2 := Lib.hid (B2.out.call hk)
  replace B3 := Lib.hid (B3.out.call hk)
  replace B5 := Lib.hid (B5.out.call hk)
  replace R7 := Lib.hid (R7.out.call hk)
  replace R8 := Lib.hid (R8.out.call hk)
  replace L12 := Lib.hid (L12.out.call hk)
  replace C12 := Lib.hid (C12.out.call hk)
  replace R13 := Lib.hid (R13.out.call hk)
  replace R15 := Lib.hid (R15.out.call hk)
  clear hk
  go_wp2_with (first
    | ((with_reducible show wpList _ _ _ (⟨none, _, _, _, _, _⟩ :: _) _ _); refine wpList_store_new 44 (.tmp 17) (.tmp 67) rfl rfl rfl z15.heap.size z15 rfl rfl zbk _ 6 rfl strBk rfl rfl (zbk_one) rfl ?_; have hk := (Below.refl z15.heap.size z15).alloc (Nat.le_refl _) (.cells zbk 44); replace BL := Lib.hid (BL.out.call hk); replace B1 := Lib.hid (B1.out.call hk); replace B2 := Lib.hid (B2.out.call hk); replace B3 := Lib.hid (B3.out.call hk); replace B5 := Lib.hid (B5.out.call hk); replace R7 := Lib.hid (R7.out.call hk); replace R8 := Lib.hid (R8.out.call hk); replace L12 := Lib.hid (L12.out.call hk); replace C12 := Lib.hid (C12.out.call hk); replace R13 := Lib.hid (R13.out.call hk); replace R15 := Lib.hid (R15.out.call hk); clear hk; generalize z15.alloc (.cells zbk 44) = y16 at BL B1 B2 B3 B5 R7 R8 L12 C12 R13 R15 ⊢; obtain ⟨b, o, _, hA4, _, _⟩ := LI.at L12.out (k := 0) (by omega); subst hA4; have p22 : y16.cell? ⟨g2, 2, none⟩ = some (.int .i64 1) := B2.out.cell 2; have p30 : y16.cell? ⟨g3, 0, none⟩ = some (.int .i64 1) := B3.out.cell 0; have p155 : y16.cell? ⟨g15, 5, none⟩ = some (.slice A6c 0 c6c) := R15.out.box.cell 5; have p10 : y16.cell? ⟨g1, 0, none⟩ = some (.int .i64 0) := B1.out.cell 0; have p11 : y16.cell? ⟨g1, 1, none⟩ = some (.int .i64 1) := B1.out.cell 1; have p12 : y16.cell? ⟨g1, 2, none⟩ = some (.int .i64 3) := B1.out.cell 2; have p13 : y16.cell? ⟨g1, 3, none⟩ = some (.int .i64 2) := B1.out.cell 3; have p50 : y16.cell? ⟨g5, 0, none⟩ = some (.int .i64 0) := B5.out.cell 0; have p51 : y16.cell? ⟨g5, 1, none⟩ = some (.int .i64 1) := B5.out.cell 1; have p52 : y16.cell? ⟨g5, 2, none⟩ = some (.int .i64 3) := B5.out.cell 2; have p53 : y16.cell? ⟨g5, 3, none⟩ = some (.int .i64 2) := B5.out.cell 3; have p70 : y16.cell? ⟨g7, 0, none⟩ = some (.int .i64 0) := R7.out.box.cell 0; have p71 : y16.cell? ⟨g7, 1, none⟩ = some (.int .i64 1) := R7.out.box.cell 1; have p72 : y16.cell? ⟨g7, 2, none⟩ = some (.int .i64 3) := R7.out.box.cell 2; have p73 : y16.cell? ⟨g7, 3, none⟩ = some (.int .i64 2) := R7.out.box.cell 3; have p74 : y16.cell? ⟨g7, 4, none⟩ = some (.slice (some ⟨gp, 0, none⟩) 1 1) := R7.out.box.cell 4; have p75 : y16.cell? ⟨g7, 5, none⟩ = some (.slice none 0 0) := R7.out.box.cell 5; have p80 : y16.cell? ⟨g8, 0, none⟩ = some (.int .i64 0) := R8.out.box.cell 0; have p81 : y16.cell? ⟨g8, 1, none⟩ = some (.int .i64 1) := R8.out.box.cell 1; have p82 : y16.cell? ⟨g8, 2, none⟩ = some (.int .i64 3) := R8.out.box.cell 2; have p83 : y16.cell? ⟨g8, 3, none⟩ = some (.int .i64 2) := R8.out.box.cell 3; have p84 : y16.cell? ⟨g8, 4, none⟩ = some (.slice A8 1 c8) := R8.out.box.cell 4; have p85 : y16.cell? ⟨g8, 5, none⟩ = some (.slice A9 1 c9) := R8.out.box.cell 5; have p130 : y16.cell? ⟨g13, 0, none⟩ = some (.int .i64 0) := R13.out.box.cell 0; have p131 : y16.cell? ⟨g13, 1, none⟩ = some (.int .i64 1) := R13.out.box.cell 1; have p132 : y16.cell? ⟨g13, 2, none⟩ = some (.int .i64 3) := R13.out.box.cell 2; have p133 : y16.cell? ⟨g13, 3, none⟩ = some (.int .i64 2) := R13.out.box.cell 3; have p134 : y16.cell? ⟨g13, 4, none⟩ = some (.slice AP 1 cP) := R13.out.box.cell 4; have p135 : y16.cell? ⟨g13, 5, none⟩ = some (.slice AR 1 cR) := R13.out.box.cell 5; have pL : y16.cell? ⟨g12, 0, none⟩ = some (.slice (some ⟨b, o, none⟩) 1 c4) := C12.out; have m1 := (imW L12.out).1; have m2 := (imW L12.out).2)
    | ((with_reducible show wpList _ _ _ (⟨some 86, _, _, _, _, _⟩ :: _) _ _); refine tkL (v := .bool true) ?_ (hy := exec_eql_bx (.tmp 84) (.tmp 85) rfl bW bW _ true rfl rfl (sameX_refl bW)))
    )
  clear p22 p30 p155 p10 p11 p12 p13 p50 p51 p52 p53 p70 p71 p72 p73 p74 p75 p80 p81 p82 p83 p84 p85 p130 p131 p132 p133 p134 p135 pL m1 m2
  go_wp2_with fail
  refine (xHas_any bW 2 1 _).mono ?_
  rintro e z17 ⟨rfl, hk⟩
  rw [has1W]
  replace BL := Lib.hid (BL.out.call hk)
  replace B1 := Lib.hid (B1.out.call hk)
  replace B2 := Lib.hid (B2.out.call hk)
  replace B3 := Lib.hid (B3.out.call hk)
  replace B5 := Lib.hid (B5.out.call hk)
  replace R7 := Lib.hid (R7.out.call hk)
  replace R8 := Lib.hid (R8.out.call hk)
  replace L12 := Lib.hid (L12.out.call hk)
  replace C12 := Lib.hid (C12.out.call hk)
  replace R13 := Lib.hid (R13.out.call hk)
  replace R15 := Lib.hid (R15.out.call hk)
  clear hk
  have p22 : z17.cell? ⟨g2, 2, none⟩ = some (.int .i64 1) := B2.out.cell 2
  have p30 : z17.cell? ⟨g3, 0, none⟩ = some (.int .i64 1) := B3.out.cell 0
  have p155 : z17.cell? ⟨g15, 5, none⟩ = some (.slice A6c 0 c6c) := R15.out.box.cell 5
  have p10 : z17.cell? ⟨g1, 0, none⟩ = some (.int .i64 0) := B1.out.cell 0
  have p11 : z17.cell? ⟨g1, 1, none⟩ = some (.int .i64 1) := B1.out.cell 1
  have p12 : z17.cell? ⟨g1, 2, none⟩ = some (.int .i64 3) := B1.out.cell 2
  have p13 : z17.cell? ⟨g1, 3, none⟩ = some (.int .i64 2) := B1.out.cell 3
  have p50 : z17.cell? ⟨g5, 0, none⟩ = some (.int .i64 0) := B5.out.cell 0
  have p51 : z17.cell? ⟨g5, 1, none⟩ = some (.int .i64 1) := B5.out.cell 1
  have p52 : z17.cell? ⟨g5, 2, none⟩ = some (.int .i64 3) := B5.out.cell 2
  have p53 : z17.cell? ⟨g5, 3, none⟩ = some (.int .i64 2) := B5.out.cell 3
  have p70 : z17.cell? ⟨g7, 0, none⟩ = some (.int .i64 0) := R7.out.box.cell 0
  have p71 : z17.cell? ⟨g7, 1, none⟩ = some (.int .i64 1) := R7.out.box.cell 1
  have p72 : z17.cell? ⟨g7, 2, none⟩ = some (.int .i64 3) := R7.out.box.cell 2
  have p73 : z17.cell? ⟨g7, 3, none⟩ = some (.int .i64 2) := R7.out.box.cell 3
  have p74 : z17.cell? ⟨g7, 4, none⟩ = some (.slice (some ⟨gp, 0, none⟩) 1 1) := R7.out.box.cell 4
  have p75 : z17.cell? ⟨g7, 5, none⟩ = some (.slice none 0 0) := R7.out.box.cell 5
  have p80 : z17.cell? ⟨g8, 0, none⟩ = some (.int .i64 0) := R8.out.box.cell 0
  have p81 : z17.cell? ⟨g8, 1, none⟩ = some (.int .i64 1) := R8.out.box.cell 1
  have p82 : z17.cell? ⟨g8, 2, none⟩ = some (.int .i64 3) := R8.out.box.cell 2
  have p83 : z17.cell? ⟨g8, 3, none⟩ = some (.int .i64 2) := R8.out.box.cell 3
  have p84 : z17.cell? ⟨g8, 4, none⟩ = some (.slice A8 1 c8) := R8.out.box.cell 4
  have p85 : z17.cell? ⟨g8, 5, none⟩ = some (.slice A9 1 c9) := R8.out.box.cell 5
  have p130 : z17.cell? ⟨g13, 0, none⟩ = some (.int .i64 0) := R13.out.box.cell 0
  have p131 : z17.cell? ⟨g13, 1, none⟩ = some (.int .i64 1) := R13.out.box.cell 1
  have p132 : z17.cell? ⟨g13, 2, none⟩ = some (.int .i64 3) := R13.out.box.cell 2
  have p133 : z17.cell? ⟨g13, 3, none⟩ = some (.int .i64 2) := R13.out.box.cell 3
  have p134 : z17.cell? ⟨g13, 4, none⟩ = some (.slice AP 1 cP) := R13.out.box.cell 4
  have p135 : z17.cell? ⟨g13, 5, none⟩ = some (.slice AR 1 cR) := R13.out.box.cell 5
  have pL : z17.cell? ⟨g12, 0, none⟩ = some (.slice (some ⟨b, o, none⟩) 1 c4) := C12.out
  have m1 := (imW L12.out).1
  have m2 := (imW L12.out).2
  go_wp2_with fail
  clear p22 p30 p155 p10 p11 p12 p13 p50 p51 p52 p53 p70 p71 p72 p73 p74 p75 p80 p81 p82 p83 p84 p85 p130 p131 p132 p133 p134 p135 pL m1 m2
  go_wp2_with fail
  refine (xHas_any bW 3 1 _).mono ?_
  rintro e z18 ⟨rfl, hk⟩
  rw [has2W]
  replace BL := Lib.hid (BL.out.call hk)
  replace B1 := Lib.hid (B1.out.call hk)
  replace B2 := Lib.hid (B2.out.call hk)
  replace B3 := Lib.hid (B3.out.call hk)
  replace B5 := Lib.hid (B5.out.call hk)
  replace R7 := Lib.hid (R7.out.call hk)
  replace R8 := Lib.hid (R8.out.call hk)
  replace L12 := Lib.hid (L12.out.call hk)
  replace C12 := Lib.hid (C12.out.call hk)
  replace R13 := Lib.hid (R13.out.call hk)
  replace R15 := Lib.hid (R15.out.call hk)
  clear hk
  have p22 : z18.cell? ⟨g2, 2, none⟩ = some (.int .i64 1) := B2.out.cell 2
  have p30 : z18.cell? ⟨g3, 0, none⟩ = some (.int .i64 1) := B3.out.cell 0
  have p155 : z18.cell? ⟨g15, 5, none⟩ = some (.slice A6c 0 c6c) := R15.out.box.cell 5
  have p10 : z18.cell? ⟨g1, 0, none⟩ = some (.int .i64 0) := B1.out.cell 0
  have p11 : z18.cell? ⟨g1, 1, none⟩ = some (.int .i64 1) := B1.out.cell 1
  have p12 : z18.cell? ⟨g1, 2, none⟩ = some (.int .i64 3) := B1.out.cell 2
  have p13 : z18.cell? ⟨g1, 3, none⟩ = some (.int .i64 2) := B1.out.cell 3
  have p50 : z18.cell? ⟨g5, 0, none⟩ = some (.int .i64 0) := B5.out.cell 0
  have p51 : z18.cell? ⟨g5, 1, none⟩ = some (.int .i64 1) := B5.out.cell 1
  have p52 : z18.cell? ⟨g5, 2, none⟩ = some (.int .i64 3) := B5.out.cell 2
  have p53 : z18.cell? ⟨g5, 3, none⟩ = some (.int .i64 2) := B5.out.cell 3
  have p70 : z18.cell? ⟨g7, 0, none⟩ = some (.int .i64 0) := R7.out.box.cell 0
  have p71 : z18.cell? ⟨g7, 1, none⟩ = some (.int .i64 1) := R7.out.box.cell 1
  have p72 : z18.cell? ⟨g7, 2, none⟩ = some (.int .i64 3) := R7.out.box.cell 2
  have p73 : z18.cell? ⟨g7, 3, none⟩ = some (.int .i64 2) := R7.out.box.cell 3
  have p74 : z18.cell? ⟨g7, 4, none⟩ = some (.slice (some ⟨gp, 0, none⟩) 1 1) := R7.out.box.cell 4
  have p75 : z18.cell? ⟨g7, 5, none⟩ = some (.slice none 0 0) := R7.out.box.cell 5
  have p80 : z18.cell? ⟨g8, 0, none⟩ = some (.int .i64 0) := R8.out.box.cell 0
  have p81 : z18.cell? ⟨g8, 1, none⟩ = some (.int .i64 1) := R8.out.box.cell 1
  have p82 : z18.cell? ⟨g8, 2, none⟩ = some (.int .i64 3) := R8.out.box.cell 2
  have p83 : z18.cell? ⟨g8, 3, none⟩ = some (.int .i64 2) := R8.out.box.cell 3
  have p84 : z18.cell? ⟨g8, 4, none⟩ = some (.slice A8 1 c8) := R8.out.box.cell 4
  have p85 : z18.cell? ⟨g8, 5, none⟩ = some (.slice A9 1 c9) := R8.out.box.cell 5
  have p130 : z18.cell? ⟨g13, 0, none⟩ = some (.int .i64 0) := R13.out.box.cell 0
  have p131 : z18.cell? ⟨g13, 1, none⟩ = some (.int .i64 1) := R13.out.box.cell 1
  have p132 : z18.cell? ⟨g13, 2, none⟩ = some (.int .i64 3) := R13.out.box.cell 2
  have p133 : z18.cell? ⟨g13, 3, none⟩ = some (.int .i64 2) := R13.out.box.cell 3
  have p134 : z18.cell? ⟨g13, 4, none⟩ = some (.slice AP 1 cP) := R13.out.box.cell 4
  have p135 : z18.cell? ⟨g13, 5, none⟩ = some (.slice AR 1 cR) := R13.out.box.cell 5
  have pL : z18.cell? ⟨g12, 0, none⟩ = some (.slice (some ⟨b, o, none⟩) 1 c4) := C12.out
  have m1 := (imW L12.out).1
  have m2 := (imW L12.out).2
  go_wp2_with fail
  clear p22 p30 p155 p10 p11 p12 p13 p50 p51 p52 p53 p70 p71 p72 p73 p74 p75 p80 p81 p82 p83 p84 p85 p130 p131 p132 p133 p134 p135 pL m1 m2
  go_wp2_with fail
  refine (xCells_any bW _).mono ?_
  rintro e z19 ⟨rfl, hk⟩
  rw [cellsW]
  replace BL := Lib.hid (BL.out.call hk)
  replace B1 := Lib.hid (B1.out.call hk)
  replace B2 := Lib.hid (B2.out.call hk)
  replace B3 := Lib.hid (B3.out.call hk)
  replace B5 := Lib.hid (B5.out.call hk)
  replace R7 := Lib.hid (R7.out.call hk)
  replace R8 := Lib.hid (R8.out.call hk)
  replace L12 := Lib.hid (L12.out.call hk)
  replace C12 := Lib.hid (C12.out.call hk)
  replace R13 := Lib.hid (R13.out.call hk)
  replace R15 := Lib.hid (R15.out.call hk)
  clear hk
  have p22 : z19.cell? ⟨g2, 2, none⟩ = some (.int .i64 1) := B2.out.cell 2
  have p30 : z19.cell? ⟨g3, 0, none⟩ = some (.int .i64 1) := B3.out.cell 0
  have p155 : z19.cell? ⟨g15, 5, none⟩ = some (.slice A6c 0 c6c) := R15.out.box.cell 5
  have p10 : z19.cell? ⟨g1, 0, none⟩ = some (.int .i64 0) := B1.out.cell 0
  have p11 : z19.cell? ⟨g1, 1, none⟩ = some (.int .i64 1) := B1.out.cell 1
  have p12 : z19.cell? ⟨g1, 2, none⟩ = some (.int .i64 3) := B1.out.cell 2
  have p13 : z19.cell? ⟨g1, 3, none⟩ = some (.int .i64 2) := B1.out.cell 3
  have p50 : z19.cell? ⟨g5, 0, none⟩ = some (.int .i64 0) := B5.out.cell 0
  have p51 : z19.cell? ⟨g5, 1, none⟩ = some (.int .i64 1) := B5.out.cell 1
  have p52 : z19.cell? ⟨g5, 2, none⟩ = some (.int .i64 3) := B5.out.cell 2
  have p53 : z19.cell? ⟨g5, 3, none⟩ = some (.int .i64 2) := B5.out.cell 3
  have p70 : z19.cell? ⟨g7, 0, none⟩ = some (.int .i64 0) := R7.out.box.cell 0
  have p71 : z19.cell? ⟨g7, 1, none⟩ = some (.int .i64 1) := R7.out.box.cell 1
  have p72 : z19.cell? ⟨g7, 2, none⟩ = some (.int .i64 3) := R7.out.box.cell 2
  have p73 : z19.cell? ⟨g7, 3, none⟩ = some (.int .i64 2) := R7.out.box.cell 3
  have p74 : z19.cell? ⟨g7, 4, none⟩ = some (.slice (some ⟨gp, 0, none⟩) 1 1) := R7.out.box.cell 4
  have p75 : z19.cell? ⟨g7, 5, none⟩ = some (.slice none 0 0) := R7.out.box.cell 5
  have p80 : z19.cell? ⟨g8, 0, none⟩ = some (.int .i64 0) := R8.out.box.cell 0
  have p81 : z19.cell? ⟨g8, 1, none⟩ = some (.int .i64 1) := R8.out.box.cell 1
  have p82 : z19.cell? ⟨g8, 2, none⟩ = some (.int .i64 3) := R8.out.box.cell 2
  have p83 : z19.cell? ⟨g8, 3, none⟩ = some (.int .i64 2) := R8.out.box.cell 3
  have p84 : z19.cell? ⟨g8, 4, none⟩ = some (.slice A8 1 c8) := R8.out.box.cell 4
  have p85 : z19.cell? ⟨g8, 5, none⟩ = some (.slice A9 1 c9) := R8.out.box.cell 5
  have p130 : z19.cell? ⟨g13, 0, none⟩ = some (.int .i64 0) := R13.out.box.cell 0
  have p131 : z19.cell? ⟨g13, 1, none⟩ = some (.int .i64 1) := R13.out.box.cell 1
  have p132 : z19.cell? ⟨g13, 2, none⟩ = some (.int .i64 3) := R13.out.box.cell 2
  have p133 : z19.cell? ⟨g13, 3, none⟩ = some (.int .i64 2) := R13.out.box.cell 3
  have p134 : z19.cell? ⟨g13, 4, none⟩ = some (.slice AP 1 cP) := R13.out.box.cell 4
  have p135 : z19.cell? ⟨g13, 5, none⟩ = some (.slice AR 1 cR) := R13.out.box.cell 5
  have pL : z19.cell? ⟨g12, 0, none⟩ = some (.slice (some ⟨b, o, none⟩) 1 c4) := C12.out
  have m1 := (imW L12.out).1
  have m2 := (imW L12.out).2
  go_wp2_with fail
  clear p22 p30 p155 p10 p11 p12 p13 p50 p51 p52 p53 p70 p71 p72 p73 p74 p75 p80 p81 p82 p83 p84 p85 p130 p131 p132 p133 p134 p135 pL m1 m2
  go_wp2_with fail
  refine (xRight_any bW _).mono ?_
  rintro e z20 ⟨rfl, hk⟩
  rw [rightW]
  replace BL := Lib.hid (BL.out.call hk)
  replace B1 := Lib.hid (B1.out.call hk)
  replace B2 := Lib.hid (B2.out.call hk)
  replace B3 := Lib.hid (B3.out.call hk)
  replace B5 := Lib.hid (B5.out.call hk)
  replace R7 := Lib.hid (R7.out.call hk)
  replace R8 := Lib.hid (R8.out.call hk)
  replace L12 := Lib.hid (L12.out.call hk)
  replace C12 := Lib.hid (C12.out.call hk)
  replace R13 := Lib.hid (R13.out.call hk)
  replace R15 := Lib.hid (R15.out.call hk)
  clear hk
  have p22 : z20.cell? ⟨g2, 2, none⟩ = some (.int .i64 1) := B2.out.cell 2
  have p30 : z20.cell? ⟨g3, 0, none⟩ = some (.int .i64 1) := B3.out.cell 0
  have p155 : z20.cell? ⟨g15, 5, none⟩ = some (.slice A6c 0 c6c) := R15.out.box.cell 5
  have p10 : z20.cell? ⟨g1, 0, none⟩ = some (.int .i64 0) := B1.out.cell 0
  have p11 : z20.cell? ⟨g1, 1, none⟩ = some (.int .i64 1) := B1.out.cell 1
  have p12 : z20.cell? ⟨g1, 2, none⟩ = some (.int .i64 3) := B1.out.cell 2
  have p13 : z20.cell? ⟨g1, 3, none⟩ = some (.int .i64 2) := B1.out.cell 3
  have p50 : z20.cell? ⟨g5, 0, none⟩ = some (.int .i64 0) := B5.out.cell 0
  have p51 : z20.cell? ⟨g5, 1, none⟩ = some (.int .i64 1) := B5.out.cell 1
  have p52 : z20.cell? ⟨g5, 2, none⟩ = some (.int .i64 3) := B5.out.cell 2
  have p53 : z20.cell? ⟨g5, 3, none⟩ = some (.int .i64 2) := B5.out.cell 3
  have p70 : z20.cell? ⟨g7, 0, none⟩ = some (.int .i64 0) := R7.out.box.cell 0
  have p71 : z20.cell? ⟨g7, 1, none⟩ = some (.int .i64 1) := R7.out.box.cell 1
  have p72 : z20.cell? ⟨g7, 2, none⟩ = some (.int .i64 3) := R7.out.box.cell 2
  have p73 : z20.cell? ⟨g7, 3, none⟩ = some (.int .i64 2) := R7.out.box.cell 3
  have p74 : z20.cell? ⟨g7, 4, none⟩ = some (.slice (some ⟨gp, 0, none⟩) 1 1) := R7.out.box.cell 4
  have p75 : z20.cell? ⟨g7, 5, none⟩ = some (.slice none 0 0) := R7.out.box.cell 5
  have p80 : z20.cell? ⟨g8, 0, none⟩ = some (.int .i64 0) := R8.out.box.cell 0
  have p81 : z20.cell? ⟨g8, 1, none⟩ = some (.int .i64 1) := R8.out.box.cell 1
  have p82 : z20.cell? ⟨g8, 2, none⟩ = some (.int .i64 3) := R8.out.box.cell 2
  have p83 : z20.cell? ⟨g8, 3, none⟩ = some (.int .i64 2) := R8.out.box.cell 3
  have p84 : z20.cell? ⟨g8, 4, none⟩ = some (.slice A8 1 c8) := R8.out.box.cell 4
  have p85 : z20.cell? ⟨g8, 5, none⟩ = some (.slice A9 1 c9) := R8.out.box.cell 5
  have p130 : z20.cell? ⟨g13, 0, none⟩ = some (.int .i64 0) := R13.out.box.cell 0
  have p131 : z20.cell? ⟨g13, 1, none⟩ = some (.int .i64 1) := R13.out.box.cell 1
  have p132 : z20.cell? ⟨g13, 2, none⟩ = some (.int .i64 3) := R13.out.box.cell 2
  have p133 : z20.cell? ⟨g13, 3, none⟩ = some (.int .i64 2) := R13.out.box.cell 3
  have p134 : z20.cell? ⟨g13, 4, none⟩ = some (.slice AP 1 cP) := R13.out.box.cell 4
  have p135 : z20.cell? ⟨g13, 5, none⟩ = some (.slice AR 1 cR) := R13.out.box.cell 5
  have pL : z20.cell? ⟨g12, 0, none⟩ = some (.slice (some ⟨b, o, none⟩) 1 c4) := C12.out
  have m1 := (imW L12.out).1
  have m2 := (imW L12.out).2
  go_wp2_with (first
    | ((with_reducible show wpList _ _ _ (⟨some 137, _, _, _, _, _⟩ :: _) _ _); refine tkL (v := .bool true) ?_ (hy := exec_eql_bx (.tmp 135) (.tmp 136) rfl bW bW _ true rfl rfl (sameX_refl bW)))
    )
  clear p22 p30 p155 p10 p11 p12 p13 p50 p51 p52 p53 p70 p71 p72 p73 p74 p75 p80 p81 p82 p83 p84 p85 p130 p131 p132 p133 p134 p135 pL m1 m2
  go_wp2_with fail
  refine (Same_any AR A9 1 cR c9 [pW] _ R13.out.bk.r R8.out.bk.r (by omega)).mono ?_
  rintro e z21 ⟨rfl, hk⟩
  replace BL := Lib.hid (BL.out.call hk)
  replace B1 := Lib.hid (B1.out.call hk)
  replace B2 := Lib.hid (B2.out.call hk)
  replace B3 := Lib.hid (B3.out.call hk)
  replace B5 := Lib.hid (B5.out.call hk)
  replace R7 := Lib.hid (R7.out.call hk)
  replace R8 := Lib.hid (R8.out.call hk)
  replace L12 := Lib.hid (L12.out.call hk)
  replace C12 := Lib.hid (C12.out.call hk)
  replace R13 := Lib.hid (R13.out.call hk)
  replace R15 := Lib.hid (R15.out.call hk)
  clear hk
  have p22 : z21.cell? ⟨g2, 2, none⟩ = some (.int .i64 1) := B2.out.cell 2
  have p30 : z21.cell? ⟨g3, 0, none⟩ = some (.int .i64 1) := B3.out.cell 0
  have p155 : z21.cell? ⟨g15, 5, none⟩ = some (.slice A6c 0 c6c) := R15.out.box.cell 5
  have p10 : z21.cell? ⟨g1, 0, none⟩ = some (.int .i64 0) := B1.out.cell 0
  have p11 : z21.cell? ⟨g1, 1, none⟩ = some (.int .i64 1) := B1.out.cell 1
  have p12 : z21.cell? ⟨g1, 2, none⟩ = some (.int .i64 3) := B1.out.cell 2
  have p13 : z21.cell? ⟨g1, 3, none⟩ = some (.int .i64 2) := B1.out.cell 3
  have p50 : z21.cell? ⟨g5, 0, none⟩ = some (.int .i64 0) := B5.out.cell 0
  have p51 : z21.cell? ⟨g5, 1, none⟩ = some (.int .i64 1) := B5.out.cell 1
  have p52 : z21.cell? ⟨g5, 2, none⟩ = some (.int .i64 3) := B5.out.cell 2
  have p53 : z21.cell? ⟨g5, 3, none⟩ = some (.int .i64 2) := B5.out.cell 3
  have p70 : z21.cell? ⟨g7, 0, none⟩ = some (.int .i64 0) := R7.out.box.cell 0
  have p71 : z21.cell? ⟨g7, 1, none⟩ = some (.int .i64 1) := R7.out.box.cell 1
  have p72 : z21.cell? ⟨g7, 2, none⟩ = some (.int .i64 3) := R7.out.box.cell 2
  have p73 : z21.cell? ⟨g7, 3, none⟩ = some (.int .i64 2) := R7.out.box.cell 3
  have p74 : z21.cell? ⟨g7, 4, none⟩ = some (.slice (some ⟨gp, 0, none⟩) 1 1) := R7.out.box.cell 4
  have p75 : z21.cell? ⟨g7, 5, none⟩ = some (.slice none 0 0) := R7.out.box.cell 5
  have p80 : z21.cell? ⟨g8, 0, none⟩ = some (.int .i64 0) := R8.out.box.cell 0
  have p81 : z21.cell? ⟨g8, 1, none⟩ = some (.int .i64 1) := R8.out.box.cell 1
  have p82 : z21.cell? ⟨g8, 2, none⟩ = some (.int .i64 3) := R8.out.box.cell 2
  have p83 : z21.cell? ⟨g8, 3, none⟩ = some (.int .i64 2) := R8.out.box.cell 3
  have p84 : z21.cell? ⟨g8, 4, none⟩ = some (.slice A8 1 c8) := R8.out.box.cell 4
  have p85 : z21.cell? ⟨g8, 5, none⟩ = some (.slice A9 1 c9) := R8.out.box.cell 5
  have p130 : z21.cell? ⟨g13, 0, none⟩ = some (.int .i64 0) := R13.out.box.cell 0
  have p131 : z21.cell? ⟨g13, 1, none⟩ = some (.int .i64 1) := R13.out.box.cell 1
  have p132 : z21.cell? ⟨g13, 2, none⟩ = some (.int .i64 3) := R13.out.box.cell 2
  have p133 : z21.cell? ⟨g13, 3, none⟩ = some (.int .i64 2) := R13.out.box.cell 3
  have p134 : z21.cell? ⟨g13, 4, none⟩ = some (.slice AP 1 cP) := R13.out.box.cell 4
  have p135 : z21.cell? ⟨g13, 5, none⟩ = some (.slice AR 1 cR) := R13.out.box.cell 5
  have pL : z21.cell? ⟨g12, 0, none⟩ = some (.slice (some ⟨b, o, none⟩) 1 c4) := C12.out
  have m1 := (imW L12.out).1
  have m2 := (imW L12.out).2
  go_wp2_with fail
  clear p22 p30 p155 p10 p11 p12 p13 p50 p51 p52 p53 p70 p71 p72 p73 p74 p75 p80 p81 p82 p83 p84 p85 p130 p131 p132 p133 p134 p135 pL m1 m2
  go_wp2_with fail
  refine (Room_any bW (some ⟨gp, 0, none⟩) 1 1 none 0 0 _ (by omega) (by omega)).mono ?_
  rintro e z22 ⟨rfl, hk⟩
  rw [room7W]
  replace BL := Lib.hid (BL.out.call hk)
  replace B1 := Lib.hid (B1.out.call hk)
  replace B2 := Lib.hid (B2.out.call hk)
  replace B3 := Lib.hid (B3.out.call hk)
  replace B5 := Lib.hid (B5.out.call hk)
  replace R7 := Lib.hid (R7.out.call hk)
  replace R8 := Lib.hid (R8.out.call hk)
  replace L12 := Lib.hid (L12.out.call hk)
  replace C12 := Lib.hid (C12.out.call hk)
  replace R13 := Lib.hid (R13.out.call hk)
  replace R15 := Lib.hid (R15.out.call hk)
  clear hk
  have p22 : z22.cell? ⟨g2, 2, none⟩ = some (.int .i64 1) := B2.out.cell 2
  have p30 : z22.cell? ⟨g3, 0, none⟩ = some (.int .i64 1) := B3.out.cell 0
  have p155 : z22.cell? ⟨g15, 5, none⟩ = some (.slice A6c 0 c6c) := R15.out.box.cell 5
  have p10 : z22.cell? ⟨g1, 0, none⟩ = some (.int .i64 0) := B1.out.cell 0
  have p11 : z22.cell? ⟨g1, 1, none⟩ = some (.int .i64 1) := B1.out.cell 1
  have p12 : z22.cell? ⟨g1, 2, none⟩ = some (.int .i64 3) := B1.out.cell 2
  have p13 : z22.cell? ⟨g1, 3, none⟩ = some (.int .i64 2) := B1.out.cell 3
  have p50 : z22.cell? ⟨g5, 0, none⟩ = some (.int .i64 0) := B5.out.cell 0
  have p51 : z22.cell? ⟨g5, 1, none⟩ = some (.int .i64 1) := B5.out.cell 1
  have p52 : z22.cell? ⟨g5, 2, none⟩ = some (.int .i64 3) := B5.out.cell 2
  have p53 : z22.cell? ⟨g5, 3, none⟩ = some (.int .i64 2) := B5.out.cell 3
  have p70 : z22.cell? ⟨g7, 0, none⟩ = some (.int .i64 0) := R7.out.box.cell 0
  have p71 : z22.cell? ⟨g7, 1, none⟩ = some (.int .i64 1) := R7.out.box.cell 1
  have p72 : z22.cell? ⟨g7, 2, none⟩ = some (.int .i64 3) := R7.out.box.cell 2
  have p73 : z22.cell? ⟨g7, 3, none⟩ = some (.int .i64 2) := R7.out.box.cell 3
  have p74 : z22.cell? ⟨g7, 4, none⟩ = some (.slice (some ⟨gp, 0, none⟩) 1 1) := R7.out.box.cell 4
  have p75 : z22.cell? ⟨g7, 5, none⟩ = some (.slice none 0 0) := R7.out.box.cell 5
  have p80 : z22.cell? ⟨g8, 0, none⟩ = some (.int .i64 0) := R8.out.box.cell 0
  have p81 : z22.cell? ⟨g8, 1, none⟩ = some (.int .i64 1) := R8.out.box.cell 1
  have p82 : z22.cell? ⟨g8, 2, none⟩ = some (.int .i64 3) := R8.out.box.cell 2
  have p83 : z22.cell? ⟨g8, 3, none⟩ = some (.int .i64 2) := R8.out.box.cell 3
  have p84 : z22.cell? ⟨g8, 4, none⟩ = some (.slice A8 1 c8) := R8.out.box.cell 4
  have p85 : z22.cell? ⟨g8, 5, none⟩ = some (.slice A9 1 c9) := R8.out.box.cell 5
  have p130 : z22.cell? ⟨g13, 0, none⟩ = some (.int .i64 0) := R13.out.box.cell 0
  have p131 : z22.cell? ⟨g13, 1, none⟩ = some (.int .i64 1) := R13.out.box.cell 1
  have p132 : z22.cell? ⟨g13, 2, none⟩ = some (.int .i64 3) := R13.out.box.cell 2
  have p133 : z22.cell? ⟨g13, 3, none⟩ = some (.int .i64 2) := R13.out.box.cell 3
  have p134 : z22.cell? ⟨g13, 4, none⟩ = some (.slice AP 1 cP) := R13.out.box.cell 4
  have p135 : z22.cell? ⟨g13, 5, none⟩ = some (.slice AR 1 cR) := R13.out.box.cell 5
  have pL : z22.cell? ⟨g12, 0, none⟩ = some (.slice (some ⟨b, o, none⟩) 1 c4) := C12.out
  have m1 := (imW L12.out).1
  have m2 := (imW L12.out).2
  go_wp2_with fail
  clear p22 p30 p155 p10 p11 p12 p13 p50 p51 p52 p53 p70 p71 p72 p73 p74 p75 p80 p81 p82 p83 p84 p85 p130 p131 p132 p133 p134 p135 pL m1 m2
  go_wp2_with fail
  refine (Room_any bW A8 1 c8 A9 1 c9 _ (by omega) (by omega)).mono ?_
  rintro e z23 ⟨rfl, hk⟩
  rw [room8W]
  replace BL := Lib.hid (BL.out.call hk)
  replace B1 := Lib.hid (B1.out.call hk)
  replace B2 := Lib.hid (B2.out.call hk)
  replace B3 := Lib.hid (B3.out.call hk)
  replace B5 := Lib.hid (B5.out.call hk)
  replace R7 := Lib.hid (R7.out.call hk)
  replace R8 := Lib.hid (R8.out.call hk)
  replace L12 := Lib.hid (L12.out.call hk)
  replace C12 := Lib.hid (C12.out.call hk)
  replace R13 := Lib.hid (R13.out.call hk)
  replace R15 := Lib.hid (R15.out.call hk)
  clear hk
  have p22 : z23.cell? ⟨g2, 2, none⟩ = some (.int .i64 1) := B2.out.cell 2
  have p30 : z23.cell? ⟨g3, 0, none⟩ = some (.int .i64 1) := B3.out.cell 0
  have p155 : z23.cell? ⟨g15, 5, none⟩ = some (.slice A6c 0 c6c) := R15.out.box.cell 5
  have p10 : z23.cell? ⟨g1, 0, none⟩ = some (.int .i64 0) := B1.out.cell 0
  have p11 : z23.cell? ⟨g1, 1, none⟩ = some (.int .i64 1) := B1.out.cell 1
  have p12 : z23.cell? ⟨g1, 2, none⟩ = some (.int .i64 3) := B1.out.cell 2
  have p13 : z23.cell? ⟨g1, 3, none⟩ = some (.int .i64 2) := B1.out.cell 3
  have p50 : z23.cell? ⟨g5, 0, none⟩ = some (.int .i64 0) := B5.out.cell 0
  have p51 : z23.cell? ⟨g5, 1, none⟩ = some (.int .i64 1) := B5.out.cell 1
  have p52 : z23.cell? ⟨g5, 2, none⟩ = some (.int .i64 3) := B5.out.cell 2
  have p53 : z23.cell? ⟨g5, 3, none⟩ = some (.int .i64 2) := B5.out.cell 3
  have p70 : z23.cell? ⟨g7, 0, none⟩ = some (.int .i64 0) := R7.out.box.cell 0
  have p71 : z23.cell? ⟨g7, 1, none⟩ = some (.int .i64 1) := R7.out.box.cell 1
  have p72 : z23.cell? ⟨g7, 2, none⟩ = some (.int .i64 3) := R7.out.box.cell 2
  have p73 : z23.cell? ⟨g7, 3, none⟩ = some (.int .i64 2) := R7.out.box.cell 3
  have p74 : z23.cell? ⟨g7, 4, none⟩ = some (.slice (some ⟨gp, 0, none⟩) 1 1) := R7.out.box.cell 4
  have p75 : z23.cell? ⟨g7, 5, none⟩ = some (.slice none 0 0) := R7.out.box.cell 5
  have p80 : z23.cell? ⟨g8, 0, none⟩ = some (.int .i64 0) := R8.out.box.cell 0
  have p81 : z23.cell? ⟨g8, 1, none⟩ = some (.int .i64 1) := R8.out.box.cell 1
  have p82 : z23.cell? ⟨g8, 2, none⟩ = some (.int .i64 3) := R8.out.box.cell 2
  have p83 : z23.cell? ⟨g8, 3, none⟩ = some (.int .i64 2) := R8.out.box.cell 3
  have p84 : z23.cell? ⟨g8, 4, none⟩ = some (.slice A8 1 c8) := R8.out.box.cell 4
  have p85 : z23.cell? ⟨g8, 5, none⟩ = some (.slice A9 1 c9) := R8.out.box.cell 5
  have p130 : z23.cell? ⟨g13, 0, none⟩ = some (.int .i64 0) := R13.out.box.cell 0
  have p131 : z23.cell? ⟨g13, 1, none⟩ = some (.int .i64 1) := R13.out.box.cell 1
  have p132 : z23.cell? ⟨g13, 2, none⟩ = some (.int .i64 3) := R13.out.box.cell 2
  have p133 : z23.cell? ⟨g13, 3, none⟩ = some (.int .i64 2) := R13.out.box.cell 3
  have p134 : z23.cell? ⟨g13, 4, none⟩ = some (.slice AP 1 cP) := R13.out.box.cell 4
  have p135 : z23.cell? ⟨g13, 5, none⟩ = some (.slice AR 1 cR) := R13.out.box.cell 5
  have pL : z23.cell? ⟨g12, 0, none⟩ = some (.slice (some ⟨b, o, none⟩) 1 c4) := C12.out
  have m1 := (imW L12.out).1
  have m2 := (imW L12.out).2
  go_wp2_with fail
  go_ret
  exact ⟨rfl, BL.out⟩
end Go.Proofs.Ytgjkbnplpioloaa
