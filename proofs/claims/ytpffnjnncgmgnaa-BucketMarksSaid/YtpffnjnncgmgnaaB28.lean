/-
  works.
  Conditions: none.
-/
import Derived.Test.YtpffnjnncgmgnaaB27
namespace Go.Proofs.Ytpffnjnncgmgnaa
open Go.RowKit
attribute [local go_sem] Oper.semAt_some
set_option maxRecDepth 20000

/-- A box with a bucket whose rows are the call's own. -/
structure BkO (w : World) (g : Nat) (d : Int) (ps : List Int) (pn : Nat) (rs : List Rc) (rn : Nat) (PA : Option Addr) (pc : Nat) (RA : Option Addr) (rc : Nat) (y : World) : Prop where
  box : At y g 29 (bkA d (.slice PA pn pc) (.slice RA rn rc))
  nums : y.ownsRow w.heap.size 3 1 (.slice PA pn pc) pn (ICs ps)
  recs : y.ownsRow w.heap.size 52 6 (.slice RA rn rc) rn (rcsL rs)
section
variable {w y z : World} {g : Nat} {d : Int} {ps : List Int} {pn rn pc rc : Nat} {rs : List Rc} {PA RA : Option Addr}
theorem BkO.call (h : BkO w g d ps pn rs rn PA pc RA rc y) (hb : Below y.heap.size y z) : BkO w g d ps pn rs rn PA pc RA rc z := ⟨h.box.under hb h.box.lt, own_under h.nums hb (Nat.le_refl _), own_under h.recs hb (Nat.le_refl _)⟩
theorem BkO.bk (h : BkO w g d ps pn rs rn PA pc RA rc y) : BkL y PA pn RA rn ps rs := ⟨Lz.of_own h.nums (fun _ h => h.elim), Lz.of_own h.recs (fun _ h => h.elim)⟩
theorem BkO.cap (h : BkO w g d ps pn rs rn PA pc RA rc y) : rn ≤ rc := by
  obtain ⟨A, c, e, h1, _⟩ := pl_own_slice h.recs
  injection e with _ e1 e2
  omega
theorem BkO.new {y0 : World} (hw : w.heap.size ≤ y0.heap.size) (h1 : y.ownsRow y0.heap.size 3 1 (.slice PA pn pc) pn (ICs ps)) (h2 : y.ownsRow y0.heap.size 52 6 (.slice RA rn rc) rn (rcsL rs)) : BkO w y.heap.size d ps pn rs rn PA pc RA rc (y.alloc (.cells (bkA d (.slice PA pn pc) (.slice RA rn rc)) 29)) :=
  ⟨At.new y 29 _, own_under (own_base h1 hw) ((Below.refl _ _).alloc (Nat.le_refl _) _) (Nat.le_refl _), own_under (own_base h2 hw) ((Below.refl _ _).alloc (Nat.le_refl _) _) (Nat.le_refl _)⟩
theorem BkO.store {y0 : World} {cs : Array Value} (hw : w.heap.size ≤ y0.heap.size) (h1 : y.ownsRow y0.heap.size 3 1 (.slice PA pn pc) pn (ICs ps)) (h2 : y.ownsRow y0.heap.size 52 6 (.slice RA rn rc) rn (rcsL rs)) (ha : At y g 29 cs) (hz : At z g 29 (bkA d (.slice PA pn pc) (.slice RA rn rc))) (hg : y.grownBy z (some g)) : BkO w g d ps pn rs rn PA pc RA rc z := by
  have k : ∀ {b e s v m xs}, y.ownsRow b e s v m xs → 29 ≠ e → z.ownsRow b e s v m xs := fun {b e s v m xs} ho hne => by
    refine ho.kept hg ?_
    cases hv : v.ownBlock with
    | none => exact .inl rfl
    | some k => exact .inr fun e1 => own_ne ho ha hne (by rw [hv, e1])
  exact ⟨hz, own_base (k h1 (by decide)) hw, own_base (k h2 (by decide)) hw⟩
end
def BelO (w y : World) : Prop := Below w.heap.size w y
theorem BelO.call {w y z : World} (h : BelO w y) (hb : Below y.heap.size y z) : BelO w z := Below.trans h (hb.mono (Below.size h))
def LIO (y : World) (A : Option Addr) (n : Nat) (l : List Im) : Prop := LI y y.heap.size A n l
theorem LIO.call {y z : World} {A : Option Addr} {n : Nat} {l : List Im} (h : LIO y A n l) (hb : Below y.heap.size y z) : LIO z A n l := (LI.under h hb).up hb.size
def CelO (y : World) (g : Nat) (v : Value) : Prop := y.cell? ⟨g, 0, none⟩ = some v
theorem CelO.call {y z : World} {g : Nat} {v : Value} (h : CelO y g v) (hb : Below y.heap.size y z) : CelO z g v := (hb.cell (p := ⟨g, 0, none⟩) (World.block_lt_of_cell? _ _ h)).trans h
/-- The loop of the example. -/
def WkS (w : World) (k : Nat) (y : World) : Prop := (∃ PA pc RA rc, BkO w (w.heap.size + 1) 2 [4, 9] 2 (rsW k) k PA pc RA rc y) ∧ BelO w y
theorem GetW (w5 : World) (g7 c4 : Nat) (A4 : Option Addr) (hc : CelO w5 g7 (.slice A4 2 c4)) (hi : LIO w5 A4 2 [xW, yW]) : Calls Try.prog 18 #[.int .i64 4, .func (.func 25) #[] #[.pointer (some ⟨g7, 0, none⟩)]] w5 (fun e z => ∃ AP cP AR cR, e = .returned (.tuple #[.agg (bkA 2 (.slice AP 2 cP) (.slice AR 7 cR)), .bool true]) ∧
    z.ownsRow w5.heap.size 3 1 (.slice AP 2 cP) 2 (ICs [4, 9]) ∧ z.ownsRow w5.heap.size 52 6 (.slice AR 7 cR) 7 (rcsL (rsW 7)) ∧ Below w5.heap.size w5 z) := by
  refine (Get_any 25 #[.pointer (some ⟨g7, 0, none⟩)] (fW xW yW) 4 w5 ent_works1 (fun W n hW => works1_any xW yW g7 W.heap.size c4 A4 n W (CelO.call hc hW) (LIO.call hi hW) (Nat.le_refl _))).mono ?_
  rintro e z ⟨hb, ⟨k, hk, AP, cP, AR, cR, he, h1, h2⟩ | ⟨hno, _⟩⟩
  · obtain rfl := hk.one fineW gW2
    rw [gRsW, gPsW] at *
    have e2 : gD (fW xW yW) 4 2 = 2 := by
      show (rdDepth (fW xW yW (gN (fW xW yW) 4 1)).1 : Int) = 2
      rw [gW1, fW9, rbY.2.1]
      rfl
    rw [e2] at he
    exact ⟨AP, cP, AR, cR, he, h1, h2, hb⟩
  · exact absurd ⟨2, getW⟩ hno
theorem GetNo (w5 : World) : Calls Try.prog 18 #[.int .i64 4, .func (.func 26) #[] #[]] w5 (fun e z => e = .returned (.tuple #[.agg zbk, .bool false]) ∧ Below w5.heap.size w5 z) := by
  refine (Get_any 26 #[] (fun _ => (zpg, true)) 4 w5 ent_works2 (fun W n hW => works2_any n W)).mono ?_
  rintro e z ⟨hb, ⟨k, hk, _⟩ | ⟨_, he⟩⟩
  · exact absurd ⟨k, hk⟩ noW
  · exact ⟨he, hb⟩
/-- What the example looks at in its two pages. -/
theorem imW {y : World} {b o : Nat} (h : LIO y (some ⟨b, o, none⟩) 2 [xW, yW]) : y.cell? ⟨b, o + 225, none⟩ = some (.int .i64 9) ∧ y.cell? ⟨b, o + 1 + 3, none⟩ = some (.int .u8 5) ∧ y.cell? ⟨b, o + 1 + 2, none⟩ = some (.int .u8 9) := by
  obtain ⟨b1, o1, _, e1, _, h0⟩ := LI.at h (k := 0) (by omega)
  injection e1 with e1
  injection e1 with e2 e3
  subst e2 e3
  obtain ⟨b1, o1, _, e1, _, h1⟩ := LI.at h (k := 1) (by omega)
  injection e1 with e1
  injection e1 with e2 e3
  subst e2 e3
  rw [Nat.zero_mul] at h0
  rw [Nat.one_mul] at h1
  have a := im_byte h0 (j := 3) (by omega)
  have c := im_byte h0 (j := 2) (by omega)
  have e3 : (([xW, yW] : List Im)[0]).p.toList.getD 3 0 = 5 := bytesW.1
  have e2 : (([xW, yW] : List Im)[0]).p.toList.getD 2 0 = 9 := bytesW.2
  rw [e3] at a
  rw [e2] at c
  exact ⟨im_page h1, a, c⟩
set_option maxHeartbeats 12800000 in
theorem works_any (w : World) : Calls Try.prog 8 #[] w (RetV w (.bool true)) := by
  have HA0 : Hid (BkO w (w.heap.size + 1) 2 [4, 9] 2 (rsW 0) 0 (some ⟨w.heap.size, 0, none⟩) 2 none 0 ((w.alloc (.cells #[.int .i64 4, .int .i64 9] 3)).alloc (.cells (bkA 2 (.slice (some ⟨w.heap.size, 0, none⟩) 2 2) (.slice none 0 0)) 29))) := by
    have h1 : (w.alloc (.cells #[.int .i64 4, .int .i64 9] 3)).ownsRow w.heap.size 3 1 (.slice (some ⟨w.heap.size, 0, none⟩) 2 2) 2 (ICs [4, 9]) := ⟨rfl, .inr ⟨w.heap.size, 2, #[.int .i64 4, .int .i64 9], rfl, Nat.le_refl _, heap_alloc_new w _, Nat.le_refl _, by simp [maxLen], rfl, rfl⟩⟩
    have := BkO.new (w := w) (y0 := w) (y := w.alloc (.cells #[.int .i64 4, .int .i64 9] 3)) (d := 2) (rs := rsW 0) (RA := none) (rn := 0) (rc := 0) (Nat.le_refl _) h1 (World.ownsRow_nil _ w.heap.size 52 6)
    rw [World.size_alloc] at this
    exact this
  have HB0 : Hid (BelO w ((w.alloc (.cells #[.int .i64 4, .int .i64 9] 3)).alloc (.cells (bkA 2 (.slice (some ⟨w.heap.size, 0, none⟩) 2 2) (.slice none 0 0)) 29))) := ((Below.refl _ w).alloc (Nat.le_refl _) _).alloc (by simp) _
  go_enter Try.func8, Try.ntmps8
  go_upto_region 2 with (refine wpList_store_new 29 (.tmp 1) (.tmp 17) rfl rfl rfl (w.heap.size + 1) (w.alloc (.cells #[.int .i64 4, .int .i64 9] 3)) (by rw [World.size_alloc]) rfl (bkA 2 (.slice (some ⟨w.heap.size, 0, none⟩) 2 2) (.slice none 0 0)) _ 3 rfl strBk rfl rfl (bkA_one _ _ _ _ _ _ _) rfl ?_)
  have HW0 : Hid (WkS w 0 ((w.alloc (.cells #[.int .i64 4, .int .i64 9] 3)).alloc (.cells (bkA 2 (.slice (some ⟨w.heap.size, 0, none⟩) 2 2) (.slice none 0 0)) 29))) := ⟨⟨_, _, _, _, HA0.out⟩, HB0.out⟩
  clear HA0 HB0
  generalize ((w.alloc (.cells #[.int .i64 4, .int .i64 9] 3)).alloc (.cells (bkA 2 (.slice (some ⟨w.heap.size, 0, none⟩) 2 2) (.slice none 0 0)) 29)) = w1 at HW0 ⊢
  go_wp2_with fail
  go_loopw [2, 3] (fun ok i wr => ∃ k : Nat, k ≤ 7 ∧ i = .int .i64 (k : Int) ∧ ok = .bool true ∧ Hid (WkS w k wr)) (fun _ i _ => 7 - (intOf i).toNat)
  case atStart => exact ⟨0, by omega, by go_num, rfl, HW0⟩
  case round =>
    obtain ⟨k, hk, rfl, rfl, HW⟩ := hrel
    obtain ⟨⟨PA, pc, RA, rc, hB⟩, hW⟩ := HW.out
    have HB := Lib.hid hB
    have HL := Lib.hid hW
    have hcap := hB.cap
    clear hB hW
    by_cases hlt : k < 7
    · have wu : IntKind.u64.wrap (k : Int) = (k : Int) := by rw [IntKind.wrap_u64]; omega
      have HAW := Lib.hid (addW k hlt)
      have HRL := Lib.hid (rsW_length (k + 1))
      go_wp2_with (first
        | (refine wpList_load_at 29 23 (.tmp 1) rfl rfl rfl (w.heap.size + 1) rfl (bkA 2 (.slice PA 2 pc) (.slice RA k rc)) 3 strBk rfl HB.out.box ?_)
        | (go_at_call 24; refine (Add_any 2 PA 2 pc RA k rc [4, 9] (rsW k) (rW k) wr HB.out.bk (by omega) (by omega) hcap (by show 1 ≤ 90000; omega)).mono ?_; rw [HAW.out]; rintro e z2 ⟨v, rfl, A5, c5, A6, c6, rfl, h5, h6, hb2⟩; rw [HRL.out] at h6 ⊢; have H5 := Lib.hid h5; have H6 := Lib.hid h6; have HA2 := Lib.hid (HB.out.box.under hb2 HB.out.box.lt); have HL2 := Lib.hid (HL.out.call hb2); clear h5 h6 hb2)
        | (refine wpList_store_at 29 (.tmp 1) (.tmp 30) rfl rfl rfl (w.heap.size + 1) rfl (bkA 2 (.slice A5 2 c5) (.slice A6 (k + 1) c6)) _ 3 rfl strBk rfl rfl (bkA_one _ _ _ _ _ _ _) HA2.out ?_; intro w9 ha9 hg9; have HW9 : Hid (WkS w (k + 1) w9) := ⟨⟨A5, c5, A6, c6, BkO.store (Below.size HL.out) H5.out H6.out HA2.out ha9 hg9⟩, Below.grown HL2.out hg9 (Below.size HL2.out) (fun j e => by injection e with e; omega)⟩; clear ha9 hg9))
      go_round
      case rel => exact ⟨k + 1, by omega, by go_num, rfl, HW9⟩
      case measure => simp [intOf]; omega
    · obtain rfl : k = 7 := by omega
      have hrs : ∀ r ∈ rsW 7, r.ok ∧ r.val.length ≤ 15 := okW.recs
      go_upto_region 11 with (first
        | (refine wpList_load_at 29 38 (.tmp 1) rfl rfl rfl (w.heap.size + 1) rfl (bkA 2 (.slice PA 2 pc) (.slice RA 7 rc)) 3 strBk rfl HB.out.box ?_)
        | (go_at_call 24; refine (Add_any 2 PA 2 pc RA 7 rc [4, 9] (rsW 7) ⟨3, 0, 0, 0, [], false⟩ wr HB.out.bk (by omega) (by omega) hcap (by show 0 ≤ 90000; omega)).mono ?_; rw [addW3]; rintro e z2 ⟨v, rfl, A5, c5, A6, c6, rfl, h5, h6, hb2⟩; have HB2 := Lib.hid (HB.out.call hb2); have HL2 := Lib.hid (HL.out.call hb2); clear h5 h6 hb2)
        | (refine wpList_store_new 29 (.tmp 5) (.tmp 41) rfl rfl rfl z2.heap.size z2 rfl rfl (bkA 2 (.slice A5 2 c5) (.slice A6 (rsW 7).length c6)) _ 3 rfl strBk rfl rfl (bkA_one _ _ _ _ _ _ _) rfl ?_; have hk := (Below.refl z2.heap.size z2).alloc (Nat.le_refl _) (.cells (bkA 2 (.slice A5 2 c5) (.slice A6 (rsW 7).length c6)) 29); have HB3 := Lib.hid (HB2.out.call hk); have HL3 := Lib.hid (HL2.out.call hk); clear hk; generalize z2.alloc (.cells (bkA 2 (.slice A5 2 c5) (.slice A6 (rsW 7).length c6)) 29) = w3 at HB3 HL3 ⊢)
        | (refine wpList_load_at 29 43 (.tmp 1) rfl rfl rfl (w.heap.size + 1) rfl (bkA 2 (.slice PA 2 pc) (.slice RA 7 rc)) 3 strBk rfl HB3.out.box ?_)
        | (go_at_call 16; refine (putG_any 2 PA 2 pc RA 7 rc [4, 9] (rsW 7) w3 HB3.out.bk hrs (by omega) (by omega) hcap).mono ?_; rw [putW]; rintro e z4 ⟨A4, n4, c4, rfl, hl4, hb4⟩; have h24 := hl4.len; have h24' : n4 = 2 := h24.symm; subst h24'; have HI4 : Hid (LIO z4 A4 2 [xW, yW]) := hl4; have HB4 := Lib.hid (HB3.out.call hb4); have HL4 := Lib.hid (HL3.out.call hb4); clear hl4 hb4 h24))
      have hk5 := (Below.refl z4.heap.size z4).alloc (Nat.le_refl _) (.cells #[.slice A4 2 c4] 37)
      have HB5 := Lib.hid (HB4.out.call hk5)
      have HL5 := Lib.hid (HL4.out.call hk5)
      have HI5 := Lib.hid (HI4.out.call hk5)
      have HC5 : Hid (CelO (z4.alloc (.cells #[.slice A4 2 c4] 37)) z4.heap.size (.slice A4 2 c4)) := (At.new z4 37 #[.slice A4 2 c4]).cell 0
      clear hk5
      generalize z4.alloc (.cells #[.slice A4 2 c4] 37) = w5 at HB5 HL5 HI5 HC5 ⊢
      generalize z4.heap.size = g7 at HC5 ⊢
      have c75 : w5.cell? ⟨g7, 0, none⟩ = some (.slice A4 2 c4) := HC5.out
      have hmf : ∀ (fn : Fn) (first cap : Array Value) (w : World), (Instr.makeFunc fn first cap).run Try.prog w = .ok (.func fn first cap) w := fun _ _ _ _ => rfl
      have HT6 : Hid ((rsW 7).tail.length = 6) := rfl
      have HG6 : Hid ((ghostAt (rsW 7).tail 5 true).length = 6) := rfl
      go_upto_region 16 with (first
        | (go_at_call 18; refine (GetW w5 g7 c4 A4 HC5.out HI5.out).mono ?_; rintro e z6 ⟨AP, cP, AR, cR, rfl, h1, h2, hb6⟩; have HN6 := Lib.hid h1; have HR6 := Lib.hid h2; have HB6 := Lib.hid (HB5.out.call hb6); have HL6 := Lib.hid (HL5.out.call hb6); have HI6 := Lib.hid (HI5.out.call hb6); have HC6 := Lib.hid (HC5.out.call hb6); clear h1 h2 hb6)
        | (refine wpList_store_new 29 (.tmp 8) (.tmp 51) rfl rfl rfl z6.heap.size z6 rfl rfl (bkA 2 (.slice AP 2 cP) (.slice AR 7 cR)) _ 3 rfl strBk rfl rfl (bkA_one _ _ _ _ _ _ _) rfl ?_; have hk := (Below.refl z6.heap.size z6).alloc (Nat.le_refl _) (.cells (bkA 2 (.slice AP 2 cP) (.slice AR 7 cR)) 29); have HB7 := Lib.hid (HB6.out.call hk); have HL7 := Lib.hid (HL6.out.call hk); have HI7 := Lib.hid (HI6.out.call hk); have HC7 := Lib.hid (HC6.out.call hk); have H87 := Lib.hid (BkO.new (w := w) (d := 2) (Below.size HL5.out) HN6.out HR6.out); clear hk; generalize z6.alloc (.cells (bkA 2 (.slice AP 2 cP) (.slice AR 7 cR)) 29) = w7 at HB7 HL7 HI7 HC7 H87 ⊢)
        | (refine wpList_load_at 29 54 (.tmp 1) rfl rfl rfl (w.heap.size + 1) rfl (bkA 2 (.slice PA 2 pc) (.slice RA 7 rc)) 3 strBk rfl HB7.out.box ?_)
        | (go_at_call 23; refine (Drop_any 2 PA 2 pc RA 7 rc [4, 9] (rsW 7) 0 w7 HB7.out.bk (by omega) (by omega) hcap).mono ?_; rw [dropW]; rintro e z8 ⟨v, rfl, A5c, c5c, A6c, c6c, rfl, h5, h6, hb8⟩; rw [HT6.out] at h6 ⊢; have HN8 := Lib.hid h5; have HR8 := Lib.hid h6; have HB8 := Lib.hid (HB7.out.call hb8); have HL8 := Lib.hid (HL7.out.call hb8); have HI8 := Lib.hid (HI7.out.call hb8); have HC8 := Lib.hid (HC7.out.call hb8); have H88 := Lib.hid (H87.out.call hb8); clear h5 h6 hb8)
        | (refine wpList_store_new 29 (.tmp 10) (.tmp 56) rfl rfl rfl z8.heap.size z8 rfl rfl (bkA 2 (.slice A5c 2 c5c) (.slice A6c 6 c6c)) _ 3 rfl strBk rfl rfl (bkA_one _ _ _ _ _ _ _) rfl ?_; have hk := (Below.refl z8.heap.size z8).alloc (Nat.le_refl _) (.cells (bkA 2 (.slice A5c 2 c5c) (.slice A6c 6 c6c)) 29); have HB9 := Lib.hid (HB8.out.call hk); have HL9 := Lib.hid (HL8.out.call hk); have HI9 := Lib.hid (HI8.out.call hk); have HC9 := Lib.hid (HC8.out.call hk); have H89 := Lib.hid (H88.out.call hk); have HX9 := Lib.hid (BkO.new (w := w) (d := 2) (Below.size HL7.out) HN8.out HR8.out); clear hk; generalize z8.alloc (.cells (bkA 2 (.slice A5c 2 c5c) (.slice A6c 6 c6c)) 29) = w9 at HB9 HL9 HI9 HC9 H89 HX9 ⊢)
        | (refine wpList_load_at 29 59 (.tmp 10) rfl rfl rfl (z8.heap.size) rfl (bkA 2 (.slice A5c 2 c5c) (.slice A6c 6 c6c)) 3 strBk rfl HX9.out.box ?_)
        | (go_at_call 22; refine (Mark_any 2 A5c 2 c5c A6c 6 c6c [4, 9] (rsW 7).tail 6 true w9 HX9.out.bk (by omega) (by omega)).mono ?_; rw [markW]; rintro e z10 ⟨v, rfl, A5d, c5d, A6d, c6d, rfl, h5, h6, hb10⟩; rw [HG6.out] at h6 ⊢; have HN10 := Lib.hid h5; have HR10 := Lib.hid h6; have HB10 := Lib.hid (HB9.out.call hb10); have HL10 := Lib.hid (HL9.out.call hb10); have HI10 := Lib.hid (HI9.out.call hb10); have HC10 := Lib.hid (HC9.out.call hb10); have H810 := Lib.hid (H89.out.call hb10); have HX10 := Lib.hid (HX9.out.call hb10); clear h5 h6 hb10)
        | (refine wpList_store_new 29 (.tmp 12) (.tmp 61) rfl rfl rfl z10.heap.size z10 rfl rfl (bkA 2 (.slice A5d 2 c5d) (.slice A6d 6 c6d)) _ 3 rfl strBk rfl rfl (bkA_one _ _ _ _ _ _ _) rfl ?_; have hk := (Below.refl z10.heap.size z10).alloc (Nat.le_refl _) (.cells (bkA 2 (.slice A5d 2 c5d) (.slice A6d 6 c6d)) 29); have HB11 := Lib.hid (HB10.out.call hk); have HL11 := Lib.hid (HL10.out.call hk); have HI11 := Lib.hid (HI10.out.call hk); have HC11 := Lib.hid (HC10.out.call hk); have H811 := Lib.hid (H810.out.call hk); have HX11 := Lib.hid (HX10.out.call hk); have HD11 := Lib.hid (BkO.new (w := w) (d := 2) (Below.size HL9.out) HN10.out HR10.out); clear hk; generalize z10.alloc (.cells (bkA 2 (.slice A5d 2 c5d) (.slice A6d 6 c6d)) 29) = w11 at HB11 HL11 HI11 HC11 H811 HX11 HD11 ⊢))
      obtain ⟨b, o, _, rfl, _, _⟩ := LI.at HI11.out (k := 0) (by omega)
      go_wp2_with (first
        | (go_at_call 18; refine (GetNo w11).mono ?_; rintro e z12 ⟨rfl, hk⟩; have HB12 := Lib.hid (HB11.out.call hk); have H812 := Lib.hid (H811.out.call hk); have HX12 := Lib.hid (HX11.out.call hk); have HD12 := Lib.hid (HD11.out.call hk); have HL12 := Lib.hid (HL11.out.call hk); have HI12 := Lib.hid (HI11.out.call hk); have HC12 := Lib.hid (HC11.out.call hk); clear hk)
        | (refine wpList_store_new 29 (.tmp 14) (.tmp 65) rfl rfl rfl z12.heap.size z12 rfl rfl zbk _ 3 rfl strBk rfl rfl zbk_one rfl ?_; have hk := (Below.refl z12.heap.size z12).alloc (Nat.le_refl _) (.cells zbk 29); have HB13 := Lib.hid (HB12.out.call hk); have H813 := Lib.hid (H812.out.call hk); have HX13 := Lib.hid (HX12.out.call hk); have HD13 := Lib.hid (HD12.out.call hk); have HL13 := Lib.hid (HL12.out.call hk); have HI13 := Lib.hid (HI12.out.call hk); have HC13 := Lib.hid (HC12.out.call hk); clear hk; generalize z12.alloc (.cells zbk 29) = z13 at HB13 H813 HX13 HD13 HL13 HI13 HC13 ⊢; have HM := Lib.hid (imW HI13.out); have m0 : z13.cell? ⟨g7, 0, none⟩ = some (.slice (some ⟨b, o, none⟩) 2 c4) := HC13.out; have m1 := HM.out.1; have m2 := HM.out.2.1; have m3 := HM.out.2.2; have qHB013 : z13.cell? ⟨w.heap.size + 1, 0, none⟩ = some (.int .i64 2) := HB13.out.box.cell 0; have qHB113 : z13.cell? ⟨w.heap.size + 1, 1, none⟩ = some (.slice PA 2 pc) := HB13.out.box.cell 1; have qHB213 : z13.cell? ⟨w.heap.size + 1, 2, none⟩ = some (.slice RA 7 rc) := HB13.out.box.cell 2; have qH8013 : z13.cell? ⟨z6.heap.size, 0, none⟩ = some (.int .i64 2) := H813.out.box.cell 0; have qH8113 : z13.cell? ⟨z6.heap.size, 1, none⟩ = some (.slice AP 2 cP) := H813.out.box.cell 1; have qH8213 : z13.cell? ⟨z6.heap.size, 2, none⟩ = some (.slice AR 7 cR) := H813.out.box.cell 2; have qHX013 : z13.cell? ⟨z8.heap.size, 0, none⟩ = some (.int .i64 2) := HX13.out.box.cell 0; have qHX113 : z13.cell? ⟨z8.heap.size, 1, none⟩ = some (.slice A5c 2 c5c) := HX13.out.box.cell 1; have qHX213 : z13.cell? ⟨z8.heap.size, 2, none⟩ = some (.slice A6c 6 c6c) := HX13.out.box.cell 2; have qHD013 : z13.cell? ⟨z10.heap.size, 0, none⟩ = some (.int .i64 2) := HD13.out.box.cell 0; have qHD113 : z13.cell? ⟨z10.heap.size, 1, none⟩ = some (.slice A5d 2 c5d) := HD13.out.box.cell 1; have qHD213 : z13.cell? ⟨z10.heap.size, 2, none⟩ = some (.slice A6d 6 c6d) := HD13.out.box.cell 2)
        | (go_at_call 20; refine (Same_any AR RA 7 cR rc (rsW 7) z13 H813.out.bk.r HB13.out.bk.r (by omega)).mono ?_; rintro e z14 ⟨rfl, hk⟩; have HB14 := Lib.hid (HB13.out.call hk); have H814 := Lib.hid (H813.out.call hk); have HX14 := Lib.hid (HX13.out.call hk); have HD14 := Lib.hid (HD13.out.call hk); have HL14 := Lib.hid (HL13.out.call hk); clear hk; have qHB014 : z14.cell? ⟨w.heap.size + 1, 0, none⟩ = some (.int .i64 2) := HB14.out.box.cell 0; have qHB114 : z14.cell? ⟨w.heap.size + 1, 1, none⟩ = some (.slice PA 2 pc) := HB14.out.box.cell 1; have qHB214 : z14.cell? ⟨w.heap.size + 1, 2, none⟩ = some (.slice RA 7 rc) := HB14.out.box.cell 2; have qH8014 : z14.cell? ⟨z6.heap.size, 0, none⟩ = some (.int .i64 2) := H814.out.box.cell 0; have qH8114 : z14.cell? ⟨z6.heap.size, 1, none⟩ = some (.slice AP 2 cP) := H814.out.box.cell 1; have qH8214 : z14.cell? ⟨z6.heap.size, 2, none⟩ = some (.slice AR 7 cR) := H814.out.box.cell 2; have qHX014 : z14.cell? ⟨z8.heap.size, 0, none⟩ = some (.int .i64 2) := HX14.out.box.cell 0; have qHX114 : z14.cell? ⟨z8.heap.size, 1, none⟩ = some (.slice A5c 2 c5c) := HX14.out.box.cell 1; have qHX214 : z14.cell? ⟨z8.heap.size, 2, none⟩ = some (.slice A6c 6 c6c) := HX14.out.box.cell 2; have qHD014 : z14.cell? ⟨z10.heap.size, 0, none⟩ = some (.int .i64 2) := HD14.out.box.cell 0; have qHD114 : z14.cell? ⟨z10.heap.size, 1, none⟩ = some (.slice A5d 2 c5d) := HD14.out.box.cell 1; have qHD214 : z14.cell? ⟨z10.heap.size, 2, none⟩ = some (.slice A6d 6 c6d) := HD14.out.box.cell 2)
        | (go_at_call 11; refine (Room_any 2 PA 2 pc RA 7 rc z14 (by omega) (by omega)).mono ?_; rintro e z15 ⟨rfl, hk⟩; rw [roomW]; have HB15 := Lib.hid (HB14.out.call hk); have H815 := Lib.hid (H814.out.call hk); have HX15 := Lib.hid (HX14.out.call hk); have HD15 := Lib.hid (HD14.out.call hk); have HL15 := Lib.hid (HL14.out.call hk); clear hk; have qHB015 : z15.cell? ⟨w.heap.size + 1, 0, none⟩ = some (.int .i64 2) := HB15.out.box.cell 0; have qHB115 : z15.cell? ⟨w.heap.size + 1, 1, none⟩ = some (.slice PA 2 pc) := HB15.out.box.cell 1; have qHB215 : z15.cell? ⟨w.heap.size + 1, 2, none⟩ = some (.slice RA 7 rc) := HB15.out.box.cell 2; have qH8015 : z15.cell? ⟨z6.heap.size, 0, none⟩ = some (.int .i64 2) := H815.out.box.cell 0; have qH8115 : z15.cell? ⟨z6.heap.size, 1, none⟩ = some (.slice AP 2 cP) := H815.out.box.cell 1; have qH8215 : z15.cell? ⟨z6.heap.size, 2, none⟩ = some (.slice AR 7 cR) := H815.out.box.cell 2; have qHX015 : z15.cell? ⟨z8.heap.size, 0, none⟩ = some (.int .i64 2) := HX15.out.box.cell 0; have qHX115 : z15.cell? ⟨z8.heap.size, 1, none⟩ = some (.slice A5c 2 c5c) := HX15.out.box.cell 1; have qHX215 : z15.cell? ⟨z8.heap.size, 2, none⟩ = some (.slice A6c 6 c6c) := HX15.out.box.cell 2; have qHD015 : z15.cell? ⟨z10.heap.size, 0, none⟩ = some (.int .i64 2) := HD15.out.box.cell 0; have qHD115 : z15.cell? ⟨z10.heap.size, 1, none⟩ = some (.slice A5d 2 c5d) := HD15.out.box.cell 1; have qHD215 : z15.cell? ⟨z10.heap.size, 2, none⟩ = some (.slice A6d 6 c6d) := HD15.out.box.cell 2)
        | (go_at_call 14; refine (Live_any 2 PA 2 pc RA 7 rc (rsW 7) 7 z15 HB15.out.bk.r (by omega)).mono ?_; rintro e z16 ⟨rfl, hk⟩; rw [liveW]; have HB16 := Lib.hid (HB15.out.call hk); have H816 := Lib.hid (H815.out.call hk); have HX16 := Lib.hid (HX15.out.call hk); have HD16 := Lib.hid (HD15.out.call hk); have HL16 := Lib.hid (HL15.out.call hk); clear hk; have qHB016 : z16.cell? ⟨w.heap.size + 1, 0, none⟩ = some (.int .i64 2) := HB16.out.box.cell 0; have qHB116 : z16.cell? ⟨w.heap.size + 1, 1, none⟩ = some (.slice PA 2 pc) := HB16.out.box.cell 1; have qHB216 : z16.cell? ⟨w.heap.size + 1, 2, none⟩ = some (.slice RA 7 rc) := HB16.out.box.cell 2; have qH8016 : z16.cell? ⟨z6.heap.size, 0, none⟩ = some (.int .i64 2) := H816.out.box.cell 0; have qH8116 : z16.cell? ⟨z6.heap.size, 1, none⟩ = some (.slice AP 2 cP) := H816.out.box.cell 1; have qH8216 : z16.cell? ⟨z6.heap.size, 2, none⟩ = some (.slice AR 7 cR) := H816.out.box.cell 2; have qHX016 : z16.cell? ⟨z8.heap.size, 0, none⟩ = some (.int .i64 2) := HX16.out.box.cell 0; have qHX116 : z16.cell? ⟨z8.heap.size, 1, none⟩ = some (.slice A5c 2 c5c) := HX16.out.box.cell 1; have qHX216 : z16.cell? ⟨z8.heap.size, 2, none⟩ = some (.slice A6c 6 c6c) := HX16.out.box.cell 2; have qHD016 : z16.cell? ⟨z10.heap.size, 0, none⟩ = some (.int .i64 2) := HD16.out.box.cell 0; have qHD116 : z16.cell? ⟨z10.heap.size, 1, none⟩ = some (.slice A5d 2 c5d) := HD16.out.box.cell 1; have qHD216 : z16.cell? ⟨z10.heap.size, 2, none⟩ = some (.slice A6d 6 c6d) := HD16.out.box.cell 2)
        | (go_at_call 14; refine (Live_any 2 A5d 2 c5d A6d 6 c6d (ghostAt (rsW 7).tail 5 true) 7 z16 HD16.out.bk.r (by omega)).mono ?_; rintro e z17 ⟨rfl, hk⟩; rw [liveW2]; have HB17 := Lib.hid (HB16.out.call hk); have H817 := Lib.hid (H816.out.call hk); have HX17 := Lib.hid (HX16.out.call hk); have HD17 := Lib.hid (HD16.out.call hk); have HL17 := Lib.hid (HL16.out.call hk); clear hk; have qHB017 : z17.cell? ⟨w.heap.size + 1, 0, none⟩ = some (.int .i64 2) := HB17.out.box.cell 0; have qHB117 : z17.cell? ⟨w.heap.size + 1, 1, none⟩ = some (.slice PA 2 pc) := HB17.out.box.cell 1; have qHB217 : z17.cell? ⟨w.heap.size + 1, 2, none⟩ = some (.slice RA 7 rc) := HB17.out.box.cell 2; have qH8017 : z17.cell? ⟨z6.heap.size, 0, none⟩ = some (.int .i64 2) := H817.out.box.cell 0; have qH8117 : z17.cell? ⟨z6.heap.size, 1, none⟩ = some (.slice AP 2 cP) := H817.out.box.cell 1; have qH8217 : z17.cell? ⟨z6.heap.size, 2, none⟩ = some (.slice AR 7 cR) := H817.out.box.cell 2; have qHX017 : z17.cell? ⟨z8.heap.size, 0, none⟩ = some (.int .i64 2) := HX17.out.box.cell 0; have qHX117 : z17.cell? ⟨z8.heap.size, 1, none⟩ = some (.slice A5c 2 c5c) := HX17.out.box.cell 1; have qHX217 : z17.cell? ⟨z8.heap.size, 2, none⟩ = some (.slice A6c 6 c6c) := HX17.out.box.cell 2; have qHD017 : z17.cell? ⟨z10.heap.size, 0, none⟩ = some (.int .i64 2) := HD17.out.box.cell 0; have qHD117 : z17.cell? ⟨z10.heap.size, 1, none⟩ = some (.slice A5d 2 c5d) := HD17.out.box.cell 1; have qHD217 : z17.cell? ⟨z10.heap.size, 2, none⟩ = some (.slice A6d 6 c6d) := HD17.out.box.cell 2)
        | (go_at_call 14; refine (Live_any 2 PA 2 pc RA 7 rc (rsW 7) 7 z17 HB17.out.bk.r (by omega)).mono ?_; rintro e z18 ⟨rfl, hk⟩; rw [liveW]; have HB18 := Lib.hid (HB17.out.call hk); have H818 := Lib.hid (H817.out.call hk); have HX18 := Lib.hid (HX17.out.call hk); have HD18 := Lib.hid (HD17.out.call hk); have HL18 := Lib.hid (HL17.out.call hk); clear hk; have qHB018 : z18.cell? ⟨w.heap.size + 1, 0, none⟩ = some (.int .i64 2) := HB18.out.box.cell 0; have qHB118 : z18.cell? ⟨w.heap.size + 1, 1, none⟩ = some (.slice PA 2 pc) := HB18.out.box.cell 1; have qHB218 : z18.cell? ⟨w.heap.size + 1, 2, none⟩ = some (.slice RA 7 rc) := HB18.out.box.cell 2; have qH8018 : z18.cell? ⟨z6.heap.size, 0, none⟩ = some (.int .i64 2) := H818.out.box.cell 0; have qH8118 : z18.cell? ⟨z6.heap.size, 1, none⟩ = some (.slice AP 2 cP) := H818.out.box.cell 1; have qH8218 : z18.cell? ⟨z6.heap.size, 2, none⟩ = some (.slice AR 7 cR) := H818.out.box.cell 2; have qHX018 : z18.cell? ⟨z8.heap.size, 0, none⟩ = some (.int .i64 2) := HX18.out.box.cell 0; have qHX118 : z18.cell? ⟨z8.heap.size, 1, none⟩ = some (.slice A5c 2 c5c) := HX18.out.box.cell 1; have qHX218 : z18.cell? ⟨z8.heap.size, 2, none⟩ = some (.slice A6c 6 c6c) := HX18.out.box.cell 2; have qHD018 : z18.cell? ⟨z10.heap.size, 0, none⟩ = some (.int .i64 2) := HD18.out.box.cell 0; have qHD118 : z18.cell? ⟨z10.heap.size, 1, none⟩ = some (.slice A5d 2 c5d) := HD18.out.box.cell 1; have qHD218 : z18.cell? ⟨z10.heap.size, 2, none⟩ = some (.slice A6d 6 c6d) := HD18.out.box.cell 2)
        | (go_at_call 12; refine (Find_any 2 A5c 2 c5c A6c 6 c6c (rsW 7).tail 6 z18 HX18.out.bk.r (by omega)).mono ?_; rintro e z19 ⟨rfl, hk⟩; rw [findW]; have HB19 := Lib.hid (HB18.out.call hk); have H819 := Lib.hid (H818.out.call hk); have HX19 := Lib.hid (HX18.out.call hk); have HD19 := Lib.hid (HD18.out.call hk); have HL19 := Lib.hid (HL18.out.call hk); clear hk; have qHB019 : z19.cell? ⟨w.heap.size + 1, 0, none⟩ = some (.int .i64 2) := HB19.out.box.cell 0; have qHB119 : z19.cell? ⟨w.heap.size + 1, 1, none⟩ = some (.slice PA 2 pc) := HB19.out.box.cell 1; have qHB219 : z19.cell? ⟨w.heap.size + 1, 2, none⟩ = some (.slice RA 7 rc) := HB19.out.box.cell 2; have qH8019 : z19.cell? ⟨z6.heap.size, 0, none⟩ = some (.int .i64 2) := H819.out.box.cell 0; have qH8119 : z19.cell? ⟨z6.heap.size, 1, none⟩ = some (.slice AP 2 cP) := H819.out.box.cell 1; have qH8219 : z19.cell? ⟨z6.heap.size, 2, none⟩ = some (.slice AR 7 cR) := H819.out.box.cell 2; have qHX019 : z19.cell? ⟨z8.heap.size, 0, none⟩ = some (.int .i64 2) := HX19.out.box.cell 0; have qHX119 : z19.cell? ⟨z8.heap.size, 1, none⟩ = some (.slice A5c 2 c5c) := HX19.out.box.cell 1; have qHX219 : z19.cell? ⟨z8.heap.size, 2, none⟩ = some (.slice A6c 6 c6c) := HX19.out.box.cell 2; have qHD019 : z19.cell? ⟨z10.heap.size, 0, none⟩ = some (.int .i64 2) := HD19.out.box.cell 0; have qHD119 : z19.cell? ⟨z10.heap.size, 1, none⟩ = some (.slice A5d 2 c5d) := HD19.out.box.cell 1; have qHD219 : z19.cell? ⟨z10.heap.size, 2, none⟩ = some (.slice A6d 6 c6d) := HD19.out.box.cell 2)
        )
      go_ret
      exact ⟨rfl, HL19.out⟩
end Go.Proofs.Ytpffnjnncgmgnaa
