/-
  The walk of works, the laws' example.
  Conditions: none.
-/
import Derived.Test.YtlanaplnhjdgcaaU3
import Derived.Test.YtlanaplnhjdgcaaS3
namespace Go.Proofs.Ytlanaplnhjdgcaa
open Go.RowKit

theorem exec_eql_same {op : Oper} {a : Act} (u v : Operand) (ho : op.op = .binOp .eql 22 u v 22) (x : Pg) (w : World) (hu : a.eval u = .agg (pgA x)) (hv : a.eval v = .agg (pgA x)) :
    (execOp a.eval op).run Try.prog w = .ok (.value (.bool true)) w := by
  have := exec_eql_pg (op := op) (a := a) u v ho x x w hu hv
  rwa [beq_self_eq_true] at this
def m225 : Array Value := madeCells (Value.int .u8 0).cells (Int.toNat 225 * 1)
theorem make225 (w : World) : (Instr.makeSlice 48 (.int .i64 225) (.int .i64 225)).run Try.prog w = .ok (.slice (some ⟨w.heap.size, 0, none⟩) 225 225) (w.alloc (.cells m225 5)) := by
  obtain ⟨i0, hi0, hz0, hz1, hz2⟩ := info_parts u8_info
  have := run_make (P := Try.prog) w 48 5 i0 _ Try.underlying48 hi0 hz0 .i64 .i64 225 225 (by omega) (by omega) (by rw [hz2]; omega) (by omega)
  rw [this, hz1]
  rfl
theorem below_new {w w' : World} {o : Obj} (h : Mod (fun k => k = w.heap.size) (w.alloc o) w') : Below w.heap.size w w' :=
  ⟨h.os, h.tape, h.output, by have := h.size; simp at this; omega, fun k hk => by rw [h.block k (by simp; omega) (by omega), Below.heap_alloc _ _ _ hk]⟩
theorem below_mod {X : Nat → Prop} {B : Nat} {w0 w w' : World} (hb : Below B w0 w) (h : Mod X w w') (hX : ∀ k, X k → B ≤ k) (hB : B ≤ w.heap.size) : Below B w0 w' := h.below hb hX hB
theorem ofP_get (k : Nat) (x : Int) (hk : (ofL [1, 2, 2])[k]? = some x) : (ofP [1, 2, 2]).toList[k]? = some x := by rw [ofP_toList _ (by simp)]; exact hk
theorem of_get0 : (ofL [1, 2, 2])[0]? = some 1 := by rfl
theorem of_get3 : (ofL [1, 2, 2])[3]? = some 0 := by rw [ofL, zpg_toList]; rfl
theorem of_blank : (ofP [1, 2, 2] == zpg) = false := by
  rw [beq_eq_false_iff_ne]
  intro e
  have h := ofP_get 0 1 of_get0
  rw [e, zpg_toList, List.getElem?_replicate, if_pos (by omega)] at h
  injection h with h
  omega
theorem lit3 (w : World) : Lz (fun _ => False) (w.alloc (.cells #[.int .u8 1, .int .u8 2, .int .u8 2] 5)) 1 (some ⟨w.heap.size, 0, none⟩) 3 (CL [1, 2, 2]) :=
  ⟨rfl, fun _ => ⟨w.heap.size, 0, rfl, fun h => h, by simp, row_range _ _ (CL [1, 2, 2]) 5 (heap_alloc_new w _)⟩⟩

set_option maxRecDepth 20000 in
set_option maxHeartbeats 4000000 in
theorem works_any (w : World) : Calls Try.prog 6 #[] w fun e w' => e = .returned (.bool true) ∧ Below w.heap.size w w' := by
  have hzero := (zero_of_info pg_info).1
  have hinfo := Lib.hid (zero_of_info pg_info).2
  have OK1 := Lib.hid (fill_ok 1 2 (by omega) (by omega) (by omega) (by omega))
  have OK3 := Lib.hid (fill_ok 3 3 (by omega) (by omega) (by omega) (by omega))
  have hmk := make225
  go_enter Try.func6, Try.ntmps6
  go_wp2_with fail
  refine (filled_any 1 2 _).mono ?_
  rintro e w1 ⟨rfl, hb1⟩
  have B1 := Lib.hid hb1
  clear hb1
  go_wp2_with fail
  refine (put_any (fillP 1 2) 77 _).mono ?_
  rintro e w2 ⟨A2, c2, rfl, ho2, hb2⟩
  rw [show (puts (fillP 1 2) 77).length = 4 from rfl] at ho2 ⊢
  rw [flat_byt] at ho2
  obtain ⟨gL, rfl, hgb, hgl, _⟩ := own_set ho2 188 (by rw [byt_length, show (puts (fillP 1 2) 77).length = 4 from rfl]; omega) 9
  have O2 := Lib.hid ho2
  have HB2 := Lib.hid hb2
  have B2 : Hid (Below w.heap.size w w2) := B1.out.trans (hb2.mono B1.out.size)
  have HGB := Lib.hid (Nat.le_trans B1.out.size hgb)
  have HGL := Lib.hid hgl
  clear ho2 hb2 hgb hgl
  go_wp2_with fail
  refine (get6_any (fun _ => False) 4 c2 _ (puts (fillP 1 2) 77) _ (by rw [flat_byt]; exact Lz.of_own O2.out (fun _ h => h.elim)) (oks_puts _ 77 OK1.out)).mono ?_
  rintro e w3 ⟨rfl, hb3⟩
  rw [GotV_puts (fillP 1 2) 77 (by omega)]
  have HB3 := Lib.hid hb3
  have B3 : Hid (Below w.heap.size w w3) := B2.out.trans (hb3.mono B2.out.size)
  have O3 := Lib.hid (own_under O2.out hb3 (Nat.le_refl _))
  clear hb3
  obtain ⟨b2, hb2⟩ : ∃ b2, b2 = w3.heap.size := ⟨_, rfl⟩
  have HB2E := Lib.hid hb2
  go_wp2_with (first
    | (refine wpList_store_pg (.tmp 2) (.tmp 28) rfl rfl rfl w3.heap.size rfl (fillP 1 2) zpg rfl (row_pg w3 zpg) ?_
       rw [← hb2]
       clear hb2
       intro w4 h4 m4
       have RA4 := Lib.hid h4
       rw [HB2E.out] at m4
       have HB4 := Lib.hid (below_new m4)
       clear m4 h4
       have O4 := Lib.hid (own_under O3.out HB4.out (Nat.le_refl _))
       obtain ⟨gL', hA, _, hgl4, hcell, hfr, hlz⟩ := own_set O4.out 188 (by rw [byt_length, show (puts (fillP 1 2) 77).length = 4 from rfl]; omega) 9
       injection hA with hA
       injection hA with hA _
       subst hA
       rw [byt_spoilt, ← flat_byt] at hlz
       have LZ5 := Lib.hid hlz
       generalize (byt (puts (fillP 1 2) 77))[188]'(by rw [byt_length, show (puts (fillP 1 2) 77).length = 4 from rfl]; omega) = xx at hcell
       clear hlz))
  obtain ⟨w5, hw5⟩ : ∃ w5, w5 = w4.setCell ⟨gL, 188, none⟩ (.int .u8 9) := ⟨_, rfl⟩
  rw [← hw5] at LZ5 ⊢
  have B4 : Hid (Below w.heap.size w w4) := B3.out.trans (HB4.out.mono B3.out.size)
  have B5 : Hid (Below w.heap.size w w5) := by
    rw [hw5]
    exact B4.out.setCell HGB.out _
  have RA5 : Hid (RowAt w5 b2 22 (fillP 1 2).toList) := by
    rw [hw5]
    refine RA4.out.kept (Mod.setCell (X := fun q => q = gL) (p := ⟨gL, 188, none⟩) (Mod.refl _ _) (.inl rfl) _) (fun e => ?_)
    have e1 := HGL.out
    have e2 := HB3.out.size
    have e3 := HB2E.out
    omega
  clear hw5 hcell hfr
  refine (get6_any (fun _ => False) 4 c2 _ (spoilt (fillP 1 2) 77) _ LZ5.out (oks_spoilt _ 77 OK1.out)).mono ?_
  rintro e w6 ⟨rfl, hb6⟩
  rw [GotV_no _ (whole_spoilt _)]
  have HB6 := Lib.hid hb6
  have B6 : Hid (Below w.heap.size w w6) := B5.out.trans (hb6.mono B5.out.size)
  have RA6 := Lib.hid (RA5.out.below hb6)
  clear hb6 LZ5 O4 O3 O2
  go_wp2_with (first
    | (refine wpList_store_pg (.tmp 5) (.tmp 37) rfl rfl rfl w6.heap.size rfl zpg zpg rfl (row_pg w6 zpg) ?_
       intro w7 h7 m7
       have HB7 := Lib.hid (below_new m7)
       clear h7 m7))
  have B7 : Hid (Below w.heap.size w w7) := B6.out.trans (HB7.out.mono B6.out.size)
  have RA7 := Lib.hid (RA6.out.below HB7.out)
  refine (new_ok (fun _ => False) 10 _ (by omega) (by omega)).mono ?_
  rintro e w8 ⟨g, gs, rfl, hg1, hg2, hp8, hb8⟩
  have HP8 := Lib.hid hp8
  have B8 : Hid (Below w.heap.size w w8) := B7.out.trans (hb8.mono B7.out.size)
  have RA8 := Lib.hid (RA7.out.below hb8)
  have HG1 := Lib.hid hg1
  have HG2 := Lib.hid hg2
  clear hp8 hb8 hg1 hg2
  go_wp2_with fail
  refine (filled_any 3 3 _).mono ?_
  rintro e w9 ⟨rfl, hb9⟩
  have HP9 := Lib.hid (HP8.out.below hb9)
  have B9 : Hid (Below w.heap.size w w9) := B8.out.trans (hb9.mono B8.out.size)
  have RA9 := Lib.hid (RA8.out.below hb9)
  clear hb9
  have SL : Hid ((List.replicate 10 zsec).length = 10) := List.length_replicate
  go_wp2_with fail
  refine (lwrite_ok (fun _ => False) g gs (List.replicate 10 zsec) 0 (-1) [] _ 2 1 5 (fillP 3 3) HP9.out (by rw [SL.out]; omega) (by rw [SL.out]; omega) (fun _ h => h.elim) (by omega) (by omega) (by omega) (by omega) (by omega)).mono ?_
  rintro e w10 ⟨rfl, hp10, hm10⟩
  have HP10 := Lib.hid hp10
  have OWN : Hid (∀ k, own g gs k → w7.heap.size ≤ k) := fun k hk => by rcases hk with rfl | rfl; exact HG1.out; exact HG2.out
  have B10 : Hid (Below w.heap.size w w10) := hm10.below B9.out (fun k hk => Nat.le_trans B7.out.size (OWN.out k hk)) B9.out.size
  have RA10 := Lib.hid (RA9.out.kept hm10 (fun h => by have := OWN.out _ h; have := RA7.out.lt; omega))
  clear hp10 hm10
  go_wp2_with fail
  refine (lread_ok (fun _ => False) g gs _ (0 + 1) (if (0 : Int) < -1 then -1 - 1 else -1) [] _ 2 1 HP10.out (by rw [upd_length, SL.out]; omega) (by rw [upd_length, SL.out]; omega) (puts (fillP 3 3) 5) (upd_here (List.replicate 10 zsec) (2 + 4 * 1) (puts (fillP 3 3) 5) (by rw [SL.out]; exact Nat.le_refl _)) (oks_puts _ 5 OK3.out)).mono ?_
  rintro e w11 ⟨rfl, hb11⟩
  rw [ReadV_puts (fillP 3 3) 5 (by omega)]
  have HP11 := Lib.hid (HP10.out.below hb11)
  have B11 : Hid (Below w.heap.size w w11) := B10.out.trans (hb11.mono B10.out.size)
  have RA11 := Lib.hid (RA10.out.below hb11)
  clear hb11
  obtain ⟨b11, hb11⟩ : ∃ b11, b11 = w11.heap.size := ⟨_, rfl⟩
  have HB11E := Lib.hid hb11
  go_wp2_with (first
    | (refine wpList_store_pg (.tmp 11) (.tmp 52) rfl rfl rfl w11.heap.size rfl (fillP 3 3) zpg rfl (row_pg w11 zpg) ?_
       rw [← hb11]
       clear hb11
       intro w12 h12 m12
       have RB12 := Lib.hid h12
       rw [HB11E.out] at m12
       have HB12 := Lib.hid (below_new m12)
       clear h12 m12))
  have HP12 := Lib.hid (HP11.out.below HB12.out)
  have B12 : Hid (Below w.heap.size w w12) := B11.out.trans (HB12.out.mono B11.out.size)
  have RA12 := Lib.hid (RA11.out.below HB12.out)
  refine (filled_any 3 3 _).mono ?_
  rintro e w13 ⟨rfl, hb13⟩
  have HP13 := Lib.hid (HP12.out.below hb13)
  have B13 : Hid (Below w.heap.size w w13) := B12.out.trans (hb13.mono B12.out.size)
  have RA13 := Lib.hid (RA12.out.below hb13)
  have RB13 := Lib.hid (RB12.out.below hb13)
  clear hb13
  go_wp2_with fail
  refine (lwrite_no (fun _ => False) g gs _ _ _ _ _ _ 2 2 5 (fillP 3 3) HP13.out (by rw [upd_length, SL.out]; omega) (by omega) (by omega) (by rw [upd_length, SL.out]; omega)).mono ?_
  rintro e w14 ⟨rfl, hb14⟩
  have B14 : Hid (Below w.heap.size w w14) := B13.out.trans (hb14.mono B13.out.size)
  have RA14 := Lib.hid (RA13.out.below hb14)
  have RB14 := Lib.hid (RB13.out.below hb14)
  clear hb14
  go_wp2_with fail
  refine (of_ok (fun _ => False) 3 3 _ [1, 2, 2] _ (lit3 w14) (by omega)).mono ?_
  rintro e w15 ⟨rfl, hb15⟩
  have HB15 := Lib.hid (((Below.refl w14.heap.size w14).alloc (Nat.le_refl _) _).trans (hb15.mono (by simp)))
  clear hb15
  have B15 : Hid (Below w.heap.size w w15) := B14.out.trans (HB15.out.mono B14.out.size)
  have RA15 := Lib.hid (RA14.out.below HB15.out)
  have RB15 := Lib.hid (RB14.out.below HB15.out)
  obtain ⟨b16, hb16⟩ : ∃ b16, b16 = w15.heap.size := ⟨_, rfl⟩
  have HB16E := Lib.hid hb16
  go_wp2_with (first
    | (refine wpList_store_pg (.tmp 16) (.tmp 62) rfl rfl rfl w15.heap.size rfl (ofP [1, 2, 2]) zpg rfl (row_pg w15 zpg) ?_
       rw [← hb16]
       clear hb16
       intro w16 h16 m16
       have RC16 := Lib.hid h16
       rw [HB16E.out] at m16
       have HB16 := Lib.hid (below_new m16)
       clear h16 m16))
  have B16 : Hid (Below w.heap.size w w16) := B15.out.trans (HB16.out.mono B15.out.size)
  have RA16 := Lib.hid (RA15.out.below HB16.out)
  have RB16 := Lib.hid (RB15.out.below HB16.out)
  refine (of_long 225 225 _ _ (by omega)).mono ?_
  rintro e w17 ⟨rfl, hb17⟩
  have HB17 := Lib.hid (((Below.refl w16.heap.size w16).alloc (Nat.le_refl _) _).trans (hb17.mono (by simp)))
  clear hb17
  have B17 : Hid (Below w.heap.size w w17) := B16.out.trans (HB17.out.mono B16.out.size)
  go_wp2_with (first
    | (refine wpList_store_pg (.tmp 18) (.tmp 67) rfl rfl rfl w17.heap.size rfl zpg zpg rfl (row_pg w17 zpg) ?_
       intro w18 h18 m18
       have HB18 := Lib.hid (below_new m18)
       clear h18 m18))
  have B18 : Hid (Below w.heap.size w w18) := B17.out.trans (HB18.out.mono B17.out.size)
  have RA := Lib.hid (((RA16.out.below HB17.out).below HB18.out).drew)
  have RB := Lib.hid (((RB16.out.below HB17.out).below HB18.out).drew)
  have RC := Lib.hid (((RC16.out.below HB17.out).below HB18.out).drew)
  have TB := Lib.hid (below_drew B18.out)
  have OF0 := Lib.hid (ofP_get 0 1 of_get0)
  have OF3 := Lib.hid (ofP_get 3 0 of_get3)
  have OFB := Lib.hid of_blank
  have ZB : Hid ((zpg == zpg) = true) := beq_self_eq_true _
  clear RA4 RA5 RA6 RA7 RA8 RA9 RA10 RA11 RA12 RA13 RA14 RA15 RA16 RB12 RB13 RB14 RB15 RB16 RC16 B1 B2 B3 B4 B5 B6 B7 B8 B9 B10 B11 B12 B13 B14 B15 B16 B17 B18 HP8 HP9 HP10 HP11 HP12 HP13 HB3 HB4 HB6 HB7 HB12 HB15 HB16 HB17 HB18 HG1 HG2 OWN SL hmk HGB HGL OK1 OK3 HB2 HB2E HB11E HB16E
  refine wp_region_held_drew (S := fun z => Below w18.drew.heap.size w18.drew z) (by kernel_rfl) (Below.refl _ _) (fun hS => ?_)
  generalize w18.drew = wS at *
  refine takeH (i := 0) (d := 69) (v := .agg (pgA (fillP 1 2))) rfl (by kernel_rfl) (by kernel_rfl) (by kernel_rfl) (fun _ _ _ h => h) rfl (by rfl) ?yz0 hS ?rz0
  case yz0 => (intro wz hz; exact exec_load_pg (.tmp 2) rfl b2 rfl (fillP 1 2) (RA.out.under hz RA.out.lt))
  simp only [List.setIfInBounds_toArray, List.set_cons_zero, List.set_cons_succ]
  refine wpAnyH_ready (rs := [1]) (by kernel_rfl) (by simp) ?_
  refine AllReadyH.cons rfl (fun K hK => ?_) AllReadyH.nil
  go_simp
  refine (filled_any 1 2 _).mono ?_
  rintro e w3 ⟨rfl, hb⟩
  refine hK.out _ _ (hS.trans (hb.mono hS.size)) (fun hT => ?_)
  clear hK hb hS
  have hS := hT
  clear hT
  refine takeH (i := 2) (d := 71) (v := .bool true) rfl (by kernel_rfl) (by kernel_rfl) (by kernel_rfl) (fun _ _ _ h => h) rfl (by rfl) ?yz2 hS ?rz2
  case yz2 => (intro wz hz; exact exec_eql_same (.tmp 69) (.tmp 70) rfl (fillP 1 2) _ rfl rfl)
  simp only [List.setIfInBounds_toArray, List.set_cons_zero, List.set_cons_succ]
  refine takeH (i := 3) (d := 72) (v := ?vz3) rfl (by kernel_rfl) (by kernel_rfl) (by kernel_rfl) (fun _ _ _ h => h) rfl (by rfl) ?yz3 hS ?rz3
  case yz3 => (intro wz hz; go_simp <;> with_reducible rfl)
  simp only [List.setIfInBounds_toArray, List.set_cons_zero, List.set_cons_succ]
  refine takeH (i := 4) (d := 73) (v := ?vz4) rfl (by kernel_rfl) (by kernel_rfl) (by kernel_rfl) (fun _ _ _ h => h) rfl (by rfl) ?yz4 hS ?rz4
  case yz4 => (intro wz hz; go_simp <;> with_reducible rfl)
  simp only [List.setIfInBounds_toArray, List.set_cons_zero, List.set_cons_succ]
  refine takeH (i := 5) (d := 74) (v := ?vz5) rfl (by kernel_rfl) (by kernel_rfl) (by kernel_rfl) (fun _ _ _ h => h) rfl (by rfl) ?yz5 hS ?rz5
  case yz5 => (intro wz hz; go_simp <;> with_reducible rfl)
  simp only [List.setIfInBounds_toArray, List.set_cons_zero, List.set_cons_succ]
  refine takeH (i := 6) (d := 75) (v := ?vz6) rfl (by kernel_rfl) (by kernel_rfl) (by kernel_rfl) (fun _ _ _ h => h) rfl (by rfl) ?yz6 hS ?rz6
  case yz6 => (intro wz hz; go_simp <;> with_reducible rfl)
  simp only [List.setIfInBounds_toArray, List.set_cons_zero, List.set_cons_succ]
  refine takeH (i := 7) (d := 76) (v := ?vz7) rfl (by kernel_rfl) (by kernel_rfl) (by kernel_rfl) (fun _ _ _ h => h) rfl (by rfl) ?yz7 hS ?rz7
  case yz7 => (intro wz hz; go_simp <;> with_reducible rfl)
  simp only [List.setIfInBounds_toArray, List.set_cons_zero, List.set_cons_succ]
  refine takeH (i := 8) (d := 77) (v := ?vz8) rfl (by kernel_rfl) (by kernel_rfl) (by kernel_rfl) (fun _ _ _ h => h) rfl (by rfl) ?yz8 hS ?rz8
  case yz8 => (intro wz hz; go_simp <;> with_reducible rfl)
  simp only [List.setIfInBounds_toArray, List.set_cons_zero, List.set_cons_succ]
  refine takeH (i := 9) (d := 78) (v := ?vz9) rfl (by kernel_rfl) (by kernel_rfl) (by kernel_rfl) (fun _ _ _ h => h) rfl (by rfl) ?yz9 hS ?rz9
  case yz9 => (intro wz hz; go_simp <;> with_reducible rfl)
  simp only [List.setIfInBounds_toArray, List.set_cons_zero, List.set_cons_succ]
  refine takeH (i := 10) (d := 79) (v := ?vz10) rfl (by kernel_rfl) (by kernel_rfl) (by kernel_rfl) (fun _ _ _ h => h) rfl (by rfl) ?yz10 hS ?rz10
  case yz10 => (intro wz hz; go_simp <;> with_reducible rfl)
  simp only [List.setIfInBounds_toArray, List.set_cons_zero, List.set_cons_succ]
  refine takeH (i := 11) (d := 80) (v := ?vz11) rfl (by kernel_rfl) (by kernel_rfl) (by kernel_rfl) (fun _ _ _ h => h) rfl (by rfl) ?yz11 hS ?rz11
  case yz11 => (intro wz hz; go_simp <;> with_reducible rfl)
  simp only [List.setIfInBounds_toArray, List.set_cons_zero, List.set_cons_succ]
  refine takeH (i := 12) (d := 81) (v := ?vz12) rfl (by kernel_rfl) (by kernel_rfl) (by kernel_rfl) (fun _ _ _ h => h) rfl (by rfl) ?yz12 hS ?rz12
  case yz12 => (intro wz hz; go_simp <;> with_reducible rfl)
  simp only [List.setIfInBounds_toArray, List.set_cons_zero, List.set_cons_succ]
  refine takeH (i := 13) (d := 82) (v := ?vz13) rfl (by kernel_rfl) (by kernel_rfl) (by kernel_rfl) (fun _ _ _ h => h) rfl (by rfl) ?yz13 hS ?rz13
  case yz13 => (intro wz hz; go_simp <;> with_reducible rfl)
  simp only [List.setIfInBounds_toArray, List.set_cons_zero, List.set_cons_succ]
  refine takeH (i := 14) (d := 83) (v := ?vz14) rfl (by kernel_rfl) (by kernel_rfl) (by kernel_rfl) (fun _ _ _ h => h) rfl (by rfl) ?yz14 hS ?rz14
  case yz14 => (intro wz hz; go_simp <;> with_reducible rfl)
  simp only [List.setIfInBounds_toArray, List.set_cons_zero, List.set_cons_succ]
  refine takeH (i := 15) (d := 84) (v := ?vz15) rfl (by kernel_rfl) (by kernel_rfl) (by kernel_rfl) (fun _ _ _ h => h) rfl (by rfl) ?yz15 hS ?rz15
  case yz15 => (intro wz hz; go_simp <;> with_reducible rfl)
  simp only [List.setIfInBounds_toArray, List.set_cons_zero, List.set_cons_succ]
  refine takeH (i := 16) (d := 85) (v := ?vz16) rfl (by kernel_rfl) (by kernel_rfl) (by kernel_rfl) (fun _ _ _ h => h) rfl (by rfl) ?yz16 hS ?rz16
  case yz16 => (intro wz hz; go_simp <;> with_reducible rfl)
  simp only [List.setIfInBounds_toArray, List.set_cons_zero, List.set_cons_succ]
  refine takeH (i := 17) (d := 86) (v := ?vz17) rfl (by kernel_rfl) (by kernel_rfl) (by kernel_rfl) (fun _ _ _ h => h) rfl (by rfl) ?yz17 hS ?rz17
  case yz17 => (intro wz hz; go_simp <;> with_reducible rfl)
  simp only [List.setIfInBounds_toArray, List.set_cons_zero, List.set_cons_succ]
  refine takeH (i := 18) (d := 87) (v := ?vz18) rfl (by kernel_rfl) (by kernel_rfl) (by kernel_rfl) (fun _ _ _ h => h) rfl (by rfl) ?yz18 hS ?rz18
  case yz18 => (intro wz hz; go_simp <;> with_reducible rfl)
  simp only [List.setIfInBounds_toArray, List.set_cons_zero, List.set_cons_succ]
  refine takeH (i := 19) (d := 88) (v := .agg (pgA (fillP 3 3))) rfl (by kernel_rfl) (by kernel_rfl) (by kernel_rfl) (fun _ _ _ h => h) rfl (by rfl) ?yz19 hS ?rz19
  case yz19 => (intro wz hz; exact exec_load_pg (.tmp 11) rfl b11 rfl (fillP 3 3) (RB.out.under hz RB.out.lt))
  simp only [List.setIfInBounds_toArray, List.set_cons_zero, List.set_cons_succ]
  refine wpAnyH_ready (rs := [20]) (by kernel_rfl) (by simp) ?_
  refine AllReadyH.cons rfl (fun K hK => ?_) AllReadyH.nil
  go_simp
  refine (filled_any 3 3 _).mono ?_
  rintro e w3 ⟨rfl, hb⟩
  refine hK.out _ _ (hS.trans (hb.mono hS.size)) (fun hT => ?_)
  clear hK hb hS
  have hS := hT
  clear hT
  refine takeH (i := 21) (d := 90) (v := .bool true) rfl (by kernel_rfl) (by kernel_rfl) (by kernel_rfl) (fun _ _ _ h => h) rfl (by rfl) ?yz21 hS ?rz21
  case yz21 => (intro wz hz; exact exec_eql_same (.tmp 88) (.tmp 89) rfl (fillP 3 3) _ rfl rfl)
  simp only [List.setIfInBounds_toArray, List.set_cons_zero, List.set_cons_succ]
  refine takeH (i := 22) (d := 91) (v := ?vz22) rfl (by kernel_rfl) (by kernel_rfl) (by kernel_rfl) (fun _ _ _ h => h) rfl (by rfl) ?yz22 hS ?rz22
  case yz22 => (intro wz hz; go_simp <;> with_reducible rfl)
  simp only [List.setIfInBounds_toArray, List.set_cons_zero, List.set_cons_succ]
  refine takeH (i := 23) (d := 92) (v := ?vz23) rfl (by kernel_rfl) (by kernel_rfl) (by kernel_rfl) (fun _ _ _ h => h) rfl (by rfl) ?yz23 hS ?rz23
  case yz23 => (intro wz hz; go_simp <;> with_reducible rfl)
  simp only [List.setIfInBounds_toArray, List.set_cons_zero, List.set_cons_succ]
  refine takeH (i := 24) (d := 93) (v := ?vz24) rfl (by kernel_rfl) (by kernel_rfl) (by kernel_rfl) (fun _ _ _ h => h) rfl (by rfl) ?yz24 hS ?rz24
  case yz24 => (intro wz hz; go_simp <;> with_reducible rfl)
  simp only [List.setIfInBounds_toArray, List.set_cons_zero, List.set_cons_succ]
  refine takeH (i := 25) (d := 94) (v := ?vz25) rfl (by kernel_rfl) (by kernel_rfl) (by kernel_rfl) (fun _ _ _ h => h) rfl (by rfl) ?yz25 hS ?rz25
  case yz25 => (intro wz hz; go_simp <;> with_reducible rfl)
  simp only [List.setIfInBounds_toArray, List.set_cons_zero, List.set_cons_succ]
  refine takeH (i := 26) (d := 95) (v := ?vz26) rfl (by kernel_rfl) (by kernel_rfl) (by kernel_rfl) (fun _ _ _ h => h) rfl (by rfl) ?yz26 hS ?rz26
  case yz26 => (intro wz hz; go_simp <;> with_reducible rfl)
  simp only [List.setIfInBounds_toArray, List.set_cons_zero, List.set_cons_succ]
  refine takeH (i := 27) (d := 96) (v := ?vz27) rfl (by kernel_rfl) (by kernel_rfl) (by kernel_rfl) (fun _ _ _ h => h) rfl (by rfl) ?yz27 hS ?rz27
  case yz27 => (intro wz hz; go_simp <;> with_reducible rfl)
  simp only [List.setIfInBounds_toArray, List.set_cons_zero, List.set_cons_succ]
  refine takeH (i := 28) (d := 97) (v := ?vz28) rfl (by kernel_rfl) (by kernel_rfl) (by kernel_rfl) (fun _ _ _ h => h) rfl (by rfl) ?yz28 hS ?rz28
  case yz28 => (intro wz hz; go_simp <;> with_reducible rfl)
  simp only [List.setIfInBounds_toArray, List.set_cons_zero, List.set_cons_succ]
  refine takeH (i := 29) (d := 98) (v := ?vz29) rfl (by kernel_rfl) (by kernel_rfl) (by kernel_rfl) (fun _ _ _ h => h) rfl (by rfl) ?yz29 hS ?rz29
  case yz29 => (intro wz hz; go_simp <;> with_reducible rfl)
  simp only [List.setIfInBounds_toArray, List.set_cons_zero, List.set_cons_succ]
  refine takeH (i := 30) (d := 99) (v := ?vz30) rfl (by kernel_rfl) (by kernel_rfl) (by kernel_rfl) (fun _ _ _ h => h) rfl (by rfl) ?yz30 hS ?rz30
  case yz30 => (intro wz hz; go_simp <;> with_reducible rfl)
  simp only [List.setIfInBounds_toArray, List.set_cons_zero, List.set_cons_succ]
  refine takeH (i := 31) (d := 100) (v := ?vz31) rfl (by kernel_rfl) (by kernel_rfl) (by kernel_rfl) (fun _ _ _ h => h) rfl (by rfl) ?yz31 hS ?rz31
  case yz31 => (intro wz hz; go_simp <;> with_reducible rfl)
  simp only [List.setIfInBounds_toArray, List.set_cons_zero, List.set_cons_succ]
  refine takeH (i := 32) (d := 101) (v := ?vz32) rfl (by kernel_rfl) (by kernel_rfl) (by kernel_rfl) (fun _ _ _ h => h) rfl (by rfl) ?yz32 hS ?rz32
  case yz32 => (intro wz hz; go_simp <;> with_reducible rfl)
  simp only [List.setIfInBounds_toArray, List.set_cons_zero, List.set_cons_succ]
  refine takeH (i := 33) (d := 102) (v := ?vz33) rfl (by kernel_rfl) (by kernel_rfl) (by kernel_rfl) (fun _ _ _ h => h) rfl (by rfl) ?yz33 hS ?rz33
  case yz33 => (intro wz hz; go_simp <;> with_reducible rfl)
  simp only [List.setIfInBounds_toArray, List.set_cons_zero, List.set_cons_succ]
  refine takeH (i := 34) (d := 103) (v := ?vz34) rfl (by kernel_rfl) (by kernel_rfl) (by kernel_rfl) (fun _ _ _ h => h) rfl (by rfl) ?yz34 hS ?rz34
  case yz34 => (intro wz hz; go_simp <;> with_reducible rfl)
  simp only [List.setIfInBounds_toArray, List.set_cons_zero, List.set_cons_succ]
  refine takeH (i := 35) (d := 104) (v := ?vz35) rfl (by kernel_rfl) (by kernel_rfl) (by kernel_rfl) (fun _ _ _ h => h) rfl (by rfl) ?yz35 hS ?rz35
  case yz35 => (intro wz hz; go_simp <;> with_reducible rfl)
  simp only [List.setIfInBounds_toArray, List.set_cons_zero, List.set_cons_succ]
  refine takeH (i := 36) (d := 105) (v := ?vz36) rfl (by kernel_rfl) (by kernel_rfl) (by kernel_rfl) (fun _ _ _ h => h) rfl (by rfl) ?yz36 hS ?rz36
  case yz36 => (intro wz hz; go_simp <;> with_reducible rfl)
  simp only [List.setIfInBounds_toArray, List.set_cons_zero, List.set_cons_succ]
  refine takeH (i := 37) (d := 106) (v := ?vz37) rfl (by kernel_rfl) (by kernel_rfl) (by kernel_rfl) (fun _ _ _ h => h) rfl (by rfl) ?yz37 hS ?rz37
  case yz37 => (intro wz hz; go_simp <;> with_reducible rfl)
  simp only [List.setIfInBounds_toArray, List.set_cons_zero, List.set_cons_succ]
  refine takeH (i := 38) (d := 107) (v := ?vz38) rfl (by kernel_rfl) (by kernel_rfl) (by kernel_rfl) (fun _ _ _ h => h) rfl (by rfl) ?yz38 hS ?rz38
  case yz38 => (intro wz hz; go_simp <;> with_reducible rfl)
  simp only [List.setIfInBounds_toArray, List.set_cons_zero, List.set_cons_succ]
  refine takeH (i := 39) (d := 108) (v := ?vz39) rfl (by kernel_rfl) (by kernel_rfl) (by kernel_rfl) (fun _ _ _ h => h) rfl (by rfl) ?yz39 hS ?rz39
  case yz39 => (intro wz hz; go_simp <;> with_reducible rfl)
  simp only [List.setIfInBounds_toArray, List.set_cons_zero, List.set_cons_succ]
  refine takeH (i := 40) (d := 109) (v := ?vz40) rfl (by kernel_rfl) (by kernel_rfl) (by kernel_rfl) (fun _ _ _ h => h) rfl (by rfl) ?yz40 hS ?rz40
  case yz40 => (intro wz hz; go_simp <;> with_reducible rfl)
  simp only [List.setIfInBounds_toArray, List.set_cons_zero, List.set_cons_succ]
  refine takeH (i := 41) (d := 110) (v := ?vz41) rfl (by kernel_rfl) (by kernel_rfl) (by kernel_rfl) (fun _ _ _ h => h) rfl (by rfl) ?yz41 hS ?rz41
  case yz41 => (intro wz hz; go_simp <;> with_reducible rfl)
  simp only [List.setIfInBounds_toArray, List.set_cons_zero, List.set_cons_succ]
  refine takeH (i := 42) (d := 111) (v := .pointer (some ⟨b16, 0, none⟩)) rfl (by kernel_rfl) (by kernel_rfl) (by kernel_rfl) (fun _ _ _ h => h) rfl (by rfl) ?yz42 hS ?rz42
  case yz42 => (intro wz hz; go_simp)
  simp only [List.setIfInBounds_toArray, List.set_cons_zero, List.set_cons_succ]
  refine takeH (i := 43) (d := 112) (v := .int .u8 1) rfl (by kernel_rfl) (by kernel_rfl) (by kernel_rfl) (fun _ _ _ h => h) rfl (by rfl) ?yz43 hS ?rz43
  case yz43 => (intro wz hz; have hc := (RC.out.under hz RC.out.lt).cellx OF0.out; go_simp <;> with_reducible rfl)
  simp only [List.setIfInBounds_toArray, List.set_cons_zero, List.set_cons_succ]
  refine takeH (i := 44) (d := 113) (v := ?vz44) rfl (by kernel_rfl) (by kernel_rfl) (by kernel_rfl) (fun _ _ _ h => h) rfl (by rfl) ?yz44 hS ?rz44
  case yz44 => (intro wz hz; go_simp <;> with_reducible rfl)
  simp only [List.setIfInBounds_toArray, List.set_cons_zero, List.set_cons_succ]
  refine takeH (i := 45) (d := 114) (v := ?vz45) rfl (by kernel_rfl) (by kernel_rfl) (by kernel_rfl) (fun _ _ _ h => h) rfl (by rfl) ?yz45 hS ?rz45
  case yz45 => (intro wz hz; go_simp <;> with_reducible rfl)
  simp only [List.setIfInBounds_toArray, List.set_cons_zero, List.set_cons_succ]
  refine takeH (i := 46) (d := 115) (v := ?vz46) rfl (by kernel_rfl) (by kernel_rfl) (by kernel_rfl) (fun _ _ _ h => h) rfl (by rfl) ?yz46 hS ?rz46
  case yz46 => (intro wz hz; go_simp <;> with_reducible rfl)
  simp only [List.setIfInBounds_toArray, List.set_cons_zero, List.set_cons_succ]
  refine takeH (i := 47) (d := 116) (v := .pointer (some ⟨b16, 3, none⟩)) rfl (by kernel_rfl) (by kernel_rfl) (by kernel_rfl) (fun _ _ _ h => h) rfl (by rfl) ?yz47 hS ?rz47
  case yz47 => (intro wz hz; go_simp)
  simp only [List.setIfInBounds_toArray, List.set_cons_zero, List.set_cons_succ]
  refine takeH (i := 48) (d := 117) (v := .int .u8 0) rfl (by kernel_rfl) (by kernel_rfl) (by kernel_rfl) (fun _ _ _ h => h) rfl (by rfl) ?yz48 hS ?rz48
  case yz48 => (intro wz hz; have hc := (RC.out.under hz RC.out.lt).cellx OF3.out; go_simp <;> with_reducible rfl)
  simp only [List.setIfInBounds_toArray, List.set_cons_zero, List.set_cons_succ]
  refine takeH (i := 49) (d := 118) (v := ?vz49) rfl (by kernel_rfl) (by kernel_rfl) (by kernel_rfl) (fun _ _ _ h => h) rfl (by rfl) ?yz49 hS ?rz49
  case yz49 => (intro wz hz; go_simp <;> with_reducible rfl)
  simp only [List.setIfInBounds_toArray, List.set_cons_zero, List.set_cons_succ]
  refine takeH (i := 50) (d := 119) (v := ?vz50) rfl (by kernel_rfl) (by kernel_rfl) (by kernel_rfl) (fun _ _ _ h => h) rfl (by rfl) ?yz50 hS ?rz50
  case yz50 => (intro wz hz; go_simp <;> with_reducible rfl)
  simp only [List.setIfInBounds_toArray, List.set_cons_zero, List.set_cons_succ]
  refine takeH (i := 51) (d := 120) (v := ?vz51) rfl (by kernel_rfl) (by kernel_rfl) (by kernel_rfl) (fun _ _ _ h => h) rfl (by rfl) ?yz51 hS ?rz51
  case yz51 => (intro wz hz; go_simp <;> with_reducible rfl)
  simp only [List.setIfInBounds_toArray, List.set_cons_zero, List.set_cons_succ]
  refine takeH (i := 52) (d := 121) (v := ?vz52) rfl (by kernel_rfl) (by kernel_rfl) (by kernel_rfl) (fun _ _ _ h => h) rfl (by rfl) ?yz52 hS ?rz52
  case yz52 => (intro wz hz; go_simp <;> with_reducible rfl)
  simp only [List.setIfInBounds_toArray, List.set_cons_zero, List.set_cons_succ]
  refine takeH (i := 53) (d := 122) (v := ?vz53) rfl (by kernel_rfl) (by kernel_rfl) (by kernel_rfl) (fun _ _ _ h => h) rfl (by rfl) ?yz53 hS ?rz53
  case yz53 => (intro wz hz; go_simp <;> with_reducible rfl)
  simp only [List.setIfInBounds_toArray, List.set_cons_zero, List.set_cons_succ]
  refine takeH (i := 54) (d := 123) (v := ?vz54) rfl (by kernel_rfl) (by kernel_rfl) (by kernel_rfl) (fun _ _ _ h => h) rfl (by rfl) ?yz54 hS ?rz54
  case yz54 => (intro wz hz; go_simp <;> with_reducible rfl)
  simp only [List.setIfInBounds_toArray, List.set_cons_zero, List.set_cons_succ]
  refine takeH (i := 55) (d := 124) (v := ?vz55) rfl (by kernel_rfl) (by kernel_rfl) (by kernel_rfl) (fun _ _ _ h => h) rfl (by rfl) ?yz55 hS ?rz55
  case yz55 => (intro wz hz; go_simp <;> with_reducible rfl)
  simp only [List.setIfInBounds_toArray, List.set_cons_zero, List.set_cons_succ]
  refine takeH (i := 56) (d := 125) (v := .agg (pgA zpg)) rfl (by kernel_rfl) (by kernel_rfl) (by kernel_rfl) (fun _ _ _ h => h) rfl (by rfl) ?yz56 hS ?rz56
  case yz56 => (intro wz hz; go_simp)
  simp only [List.setIfInBounds_toArray, List.set_cons_zero, List.set_cons_succ]
  refine wpAnyH_ready (rs := [57]) (by kernel_rfl) (by simp) ?_
  refine AllReadyH.cons rfl (fun K hK => ?_) AllReadyH.nil
  go_simp
  refine (blank_any zpg _).mono ?_
  rintro e w3 ⟨rfl, hb⟩
  rw [ZB.out]
  refine hK.out _ _ (hS.trans (hb.mono hS.size)) (fun hT => ?_)
  clear hK hb hS
  have hS := hT
  clear hT
  refine takeH (i := 58) (d := 127) (v := ?vz58) rfl (by kernel_rfl) (by kernel_rfl) (by kernel_rfl) (fun _ _ _ h => h) rfl (by rfl) ?yz58 hS ?rz58
  case yz58 => (intro wz hz; go_simp <;> with_reducible rfl)
  simp only [List.setIfInBounds_toArray, List.set_cons_zero, List.set_cons_succ]
  refine takeH (i := 59) (d := 128) (v := ?vz59) rfl (by kernel_rfl) (by kernel_rfl) (by kernel_rfl) (fun _ _ _ h => h) rfl (by rfl) ?yz59 hS ?rz59
  case yz59 => (intro wz hz; go_simp <;> with_reducible rfl)
  simp only [List.setIfInBounds_toArray, List.set_cons_zero, List.set_cons_succ]
  refine takeH (i := 60) (d := 129) (v := .agg (pgA (ofP [1, 2, 2]))) rfl (by kernel_rfl) (by kernel_rfl) (by kernel_rfl) (fun _ _ _ h => h) rfl (by rfl) ?yz60 hS ?rz60
  case yz60 => (intro wz hz; exact exec_load_pg (.tmp 16) rfl b16 rfl (ofP [1, 2, 2]) (RC.out.under hz RC.out.lt))
  simp only [List.setIfInBounds_toArray, List.set_cons_zero, List.set_cons_succ]
  refine wpAnyH_ready (rs := [61]) (by kernel_rfl) (by simp) ?_
  refine AllReadyH.cons rfl (fun K hK => ?_) AllReadyH.nil
  go_simp
  refine (blank_any (ofP [1, 2, 2]) _).mono ?_
  rintro e w3 ⟨rfl, hb⟩
  rw [OFB.out]
  refine hK.out _ _ (hS.trans (hb.mono hS.size)) (fun hT => ?_)
  clear hK hb hS
  have hS := hT
  clear hT
  refine takeH (i := 62) (d := 131) (v := ?vz62) rfl (by kernel_rfl) (by kernel_rfl) (by kernel_rfl) (fun _ _ _ h => h) rfl (by rfl) ?yz62 hS ?rz62
  case yz62 => (intro wz hz; go_simp <;> with_reducible rfl)
  simp only [List.setIfInBounds_toArray, List.set_cons_zero, List.set_cons_succ]
  refine takeH (i := 63) (d := 132) (v := ?vz63) rfl (by kernel_rfl) (by kernel_rfl) (by kernel_rfl) (fun _ _ _ h => h) rfl (by rfl) ?yz63 hS ?rz63
  case yz63 => (intro wz hz; go_simp <;> with_reducible rfl)
  simp only [List.setIfInBounds_toArray, List.set_cons_zero, List.set_cons_succ]
  refine takeH (i := 64) (d := 133) (v := ?vz64) rfl (by kernel_rfl) (by kernel_rfl) (by kernel_rfl) (fun _ _ _ h => h) rfl (by rfl) ?yz64 hS ?rz64
  case yz64 => (intro wz hz; go_simp <;> with_reducible rfl)
  simp only [List.setIfInBounds_toArray, List.set_cons_zero, List.set_cons_succ]
  refine wpAnyH_ready (rs := [65]) (by kernel_rfl) (by simp) ?_
  refine AllReadyH.cons rfl (fun K hK => ?_) AllReadyH.nil
  go_simp
  refine (where_any 2 1 _ (by omega) (by omega)).mono ?_
  rintro e w3 ⟨rfl, rfl⟩
  have hb := trivial
  refine hK.out _ _ (hS) (fun hT => ?_)
  clear hK hb hS
  have hS := hT
  clear hT
  refine takeH (i := 66) (d := 135) (v := ?vz66) rfl (by kernel_rfl) (by kernel_rfl) (by kernel_rfl) (fun _ _ _ h => h) rfl (by rfl) ?yz66 hS ?rz66
  case yz66 => (intro wz hz; go_simp <;> with_reducible rfl)
  simp only [List.setIfInBounds_toArray, List.set_cons_zero, List.set_cons_succ]
  refine takeH (i := 67) (d := 136) (v := ?vz67) rfl (by kernel_rfl) (by kernel_rfl) (by kernel_rfl) (fun _ _ _ h => h) rfl (by rfl) ?yz67 hS ?rz67
  case yz67 => (intro wz hz; go_simp <;> with_reducible rfl)
  simp only [List.setIfInBounds_toArray, List.set_cons_zero, List.set_cons_succ]
  refine takeH (i := 68) (d := 137) (v := ?vz68) rfl (by kernel_rfl) (by kernel_rfl) (by kernel_rfl) (fun _ _ _ h => h) rfl (by rfl) ?yz68 hS ?rz68
  case yz68 => (intro wz hz; go_simp <;> with_reducible rfl)
  simp only [List.setIfInBounds_toArray, List.set_cons_zero, List.set_cons_succ]
  refine takeH (i := 69) (d := 138) (v := .agg (pgA (fillP 1 2))) rfl (by kernel_rfl) (by kernel_rfl) (by kernel_rfl) (fun _ _ _ h => h) rfl (by rfl) ?yz69 hS ?rz69
  case yz69 => (intro wz hz; exact exec_load_pg (.tmp 2) rfl b2 rfl (fillP 1 2) (RA.out.under hz RA.out.lt))
  simp only [List.setIfInBounds_toArray, List.set_cons_zero, List.set_cons_succ]
  refine wpAnyH_ready (rs := [70]) (by kernel_rfl) (by simp) ?_
  refine AllReadyH.cons rfl (fun K hK => ?_) AllReadyH.nil
  go_simp
  refine (lwrite_nil _ 0 0 0 (fillP 1 2)).mono ?_
  rintro e w3 ⟨rfl, hb⟩
  refine hK.out _ _ (hS.trans (hb.mono hS.size)) (fun hT => ?_)
  clear hK hb hS
  have hS := hT
  clear hT
  refine takeH (i := 71) (d := 140) (v := ?vz71) rfl (by kernel_rfl) (by kernel_rfl) (by kernel_rfl) (fun _ _ _ h => h) rfl (by rfl) ?yz71 hS ?rz71
  case yz71 => (intro wz hz; go_simp <;> with_reducible rfl)
  simp only [List.setIfInBounds_toArray, List.set_cons_zero, List.set_cons_succ]
  refine takeH (i := 72) (d := 141) (v := ?vz72) rfl (by kernel_rfl) (by kernel_rfl) (by kernel_rfl) (fun _ _ _ h => h) rfl (by rfl) ?yz72 hS ?rz72
  case yz72 => (intro wz hz; go_simp <;> with_reducible rfl)
  simp only [List.setIfInBounds_toArray, List.set_cons_zero, List.set_cons_succ]
  refine takeH (i := 73) (d := 0) (v := ?vz73) rfl (by kernel_rfl) (by kernel_rfl) (by kernel_rfl) (fun _ _ _ h => h) rfl (by rfl) ?yz73 hS ?rz73
  case yz73 => (intro wz hz; go_simp <;> with_reducible rfl)
  simp only [List.setIfInBounds_toArray, List.set_cons_zero]
  refine wpAnyH_done (by kernel_rfl) ?_ _
  have HS := Lib.hid hS
  clear hS
  go_wp2_with fail
  go_ret
  exact ⟨rfl, TB.out.trans (HS.out.mono TB.out.size)⟩
end Go.Proofs.Ytlanaplnhjdgcaa
