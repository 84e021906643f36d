/-
  The reference: Append, where an entry is appended.
  Conditions: lists of at most 1000 entries.
-/
import Derived.Test.YthicidpdgggbjaaDoorK17Q
namespace Go.Proofs.YthicidpdgggbjaaDoor
open Go.RowKit
set_option maxRecDepth 8000
set_option maxHeartbeats 3200000 in
theorem rappend_ok (X Y : Nat → Prop) (A : Option Addr) (n c size us dn : Nat) (rs : List Er) (r : Er) (w : World) (hl : LEz Y w A n rs) (hn : n ≤ 1000) (hr : ELz X w r) (hus : us ≤ size) (hsz : size ≤ 100000) (hz : Gd (withN r.e (us + 1))) (hfit : wid (withN r.e (us + 1)) ≤ size - us) :
    Calls Tryd.prog 11 #[.agg (rlA size A n c us dn), .agg (erA r)] w (RAppY size us dn n rs r w) := by
  obtain ⟨i1, hi1, hy0, hy1, hy2⟩ := info_parts ent_info
  have HLE := Lib.hid hl
  clear hl
  have HR := Lib.hid hr
  have A0 := Lib.hid (((At.new w 34 (rlA size A n c us dn)).alloc (.cells (erA r) 42)).alloc (.cells #[.int .i64 0, .slice none 0 0, .int .i64 0, .int .i64 0] 34))
  have A1 := Lib.hid ((At.new (w.alloc (.cells (rlA size A n c us dn) 34)) 42 (erA r)).alloc (.cells #[.int .i64 0, .slice none 0 0, .int .i64 0, .int .i64 0] 34))
  have A2 := Lib.hid (At.new ((w.alloc (.cells (rlA size A n c us dn) 34)).alloc (.cells (erA r) 42)) 34 #[.int .i64 0, .slice none 0 0, .int .i64 0, .int .i64 0])
  have L0 := Lib.hid ((((Below.refl w.heap.size w).alloc (Nat.le_refl _) (.cells (rlA size A n c us dn) 34)).alloc (by simp) (.cells (erA r) 42)).alloc (by simp; omega) (.cells #[.int .i64 0, .slice none 0 0, .int .i64 0, .int .i64 0] 34))
  have LT2 := Lib.hid (show w.heap.size < w.heap.size + 1 + 1 by omega)
  rw [show (w.alloc (.cells (rlA size A n c us dn) 34)).heap.size = w.heap.size + 1 by simp] at A1
  rw [show ((w.alloc (.cells (rlA size A n c us dn) 34)).alloc (.cells (erA r) 42)).heap.size = w.heap.size + 1 + 1 by simp] at A2
  have u1 : IntKind.u64.wrap (us : Int) = (us : Int) := by rw [IntKind.wrap_u64]; omega
  obtain ⟨nx, hnx⟩ : ∃ nx, nx = us + 1 := ⟨_, rfl⟩
  have u2 : (us : Int) + 1 = (nx : Int) := by omega
  have u3 : IntKind.u64.wrap (nx : Int) = (nx : Int) := by rw [IntKind.wrap_u64]; omega
  have HX := Lib.hid hnx
  rw [← hnx] at hz hfit
  obtain ⟨wd, hwd⟩ : ∃ wd, wd = wid (withN r.e nx) := ⟨_, rfl⟩
  obtain ⟨le, hle⟩ : ∃ le, le = size - us := ⟨_, rfl⟩
  have hwd2 : 1 ≤ wd ∧ wd ≤ 112 := by rw [hwd]; exact wid_ok hz
  rw [← hwd] at hfit
  have HWD := Lib.hid hwd
  have e5 : (size : Int) - (us : Int) = (le : Int) := by omega
  have hfit2 : decide ((le : Int) < (wd : Int)) = false := by simp; omega
  have hfit3 : decide (le < wd) = false := by simp; omega
  have HCL := Lib.hid (show (cutS (enc (withN r.e nx)) 0).length = wd by rw [cutS_length, hwd]; rfl)
  have HZ := Lib.hid hz
  have HL := Lib.hid (enc_len hz)
  have hlz : le ≤ size := by omega
  clear hr hnx hz hwd hle hfit
  go_enter Tryd.func11, Tryd.ntmps11
  go_upto_region 1 with fail
  generalize (((w.alloc (.cells (rlA size A n c us dn) 34)).alloc (.cells (erA r) 42)).alloc (.cells #[.int .i64 0, .slice none 0 0, .int .i64 0, .int .i64 0] 34)) = z0 at *
  generalize w.heap.size + 1 + 1 = g2 at *
  generalize w.heap.size + 1 = g1 at *
  have c2 : (z0.alloc (.cells (erA r) 42)).cell? ⟨w.heap.size, 2, none⟩ = some (.int .i64 (us : Int)) := (A0.out.alloc _).cell 2
  obtain ⟨un, hun⟩ : ∃ un, un = us + wd := ⟨_, rfl⟩
  have e6 : (us : Int) + (wd : Int) = (un : Int) := by omega
  have hun2 : un ≤ 200000 := by omega
  have u7 : IntKind.i64.wrap (un : Int) = (un : Int) := by rw [IntKind.wrap_i64]; omega
  have HUN := Lib.hid hun
  clear hun
  go_upto_region 10 with (first
    | refine wpList_load_at 42 12 (.tmp 3) rfl rfl rfl g1 rfl (erA r) 13 strE rfl A1.out ?_
    | (refine wpList_store_new 42 (.tmp 7) (.tmp 12) rfl rfl rfl z0.heap.size z0 rfl rfl (erA r) zE 13 rfl strE rfl rfl (erA_one _) rfl ?_)
    | (refine wpList_store_cell 35 (.tmp 17) (.tmp 16) rfl rfl rfl z0.heap.size 0 rfl (.int .u64 (nx : Int)) rfl rfl (by kernel_rfl) (erA r) 42 (by rw [erA_size]; omega) (At.new z0 42 (erA r)) ?_
       intro w2 h2 gr2
       rw [erN_set] at h2
       have S2 := Lib.hid (RaS.first A0.out A2.out L0.out h2 gr2)
       have E2 := Lib.hid ((HR.out.below S2.out.low).withN nx)
       clear h2 gr2)
    | refine wpList_load_at 42 19 (.tmp 7) rfl rfl rfl z0.heap.size rfl (erA (erN r nx)) 13 strE rfl S2.out.b3 ?_
    | (go_at_call 22; refine (refPut_good (erN r nx).e r.PA r.QA r.np r.pc r.na r.qc _ E2.out.el HZ.out.ok HZ.out.chk).mono ?_
       rintro e w3 ⟨A3, n3, c3, rfl, ho3, hb3⟩
       have S3 := Lib.hid (S2.out.call hb3)
       have L3 := Lib.hid (Lies.of_own ho3)
       have hn3 : (enc (withN r.e nx)).length = n3 := own_n ho3
       have e3 : n3 ≤ 6016 := by rw [← hn3]; exact HL.out.2
       have hc3 : n3 ≤ c3 := by
         obtain ⟨_, _, h, h2, _⟩ := own_slice ho3
         injection h with _ _ h
         omega
       clear hb3 ho3 hn3)
    | (go_at_call 19; refine (rcut_any n3 c3 0 A3 (enc (withN r.e nx)) w3 L3.out (by omega) hc3 (by omega)).mono ?_
       rintro e z5 ⟨A5, c5, rfl, ho5, hb5⟩
       rw [HCL.out]
       have S5 := Lib.hid (S3.out.call hb5)
       have d0 : z5.cell? ⟨w.heap.size, 0, none⟩ = some (.int .i64 (size : Int)) := S5.out.b0.cell 0
       have d1 : z5.cell? ⟨w.heap.size, 1, none⟩ = some (.slice A n c) := S5.out.b0.cell 1
       have d2 : z5.cell? ⟨w.heap.size, 2, none⟩ = some (.int .i64 (us : Int)) := S5.out.b0.cell 2
       have d3 : z5.cell? ⟨w.heap.size, 3, none⟩ = some (.int .i64 (dn : Int)) := S5.out.b0.cell 3
       clear hb5 ho5)
    | (refine wpList_store_new 34 (.tmp 11) (.tmp 46) rfl rfl rfl z5.heap.size z5 rfl rfl (rlA size none 0 0 un dn) _ 4 rfl strRL rfl rfl (rlA_one _ _ _ _ _ _) rfl ?_))
  have O1 := Lib.hid (RaO.mk (size := size) (un := un) (dn := dn) (v := .slice none 0 0) (k := 0) (xs := []) (S5.out.b2.alloc (.cells (rlA size none 0 0 un dn) 34)) (S5.out.b3.alloc _) (At.new z5 34 (rlA size none 0 0 un dn)) (World.ownsRow_nil _ _ _ _) (S5.out.low.alloc S5.out.low.size _) S5.out.b2.lt S5.out.b3.lt S5.out.low.size)
  have HB := Lib.hid S5.out.low.size
  have LR := Lib.hid (HLE.out.below (show Below w.heap.size w z5 from S5.out.low)).row.la.lies
  have L8 := Lib.hid (LR.out.under ((Below.refl _ z5).alloc (Nat.le_refl _) (.cells (rlA size none 0 0 un dn) 34)))
  have c1 : (z5.alloc (.cells (rlA size none 0 0 un dn) 34)).cell? ⟨w.heap.size, 1, none⟩ = some (.slice A n c) := (S5.out.b0.alloc _).cell 1
  have o1 : (z5.alloc (.cells (rlA size none 0 0 un dn) 34)).cell? ⟨z5.heap.size, 1, none⟩ = some (.slice none 0 0) := O1.out.o4.cell 1
  clear HR A0 A1 A2 L0 S2 S3 S5 E2 L3 d0 d1 d2 d3
  generalize hB : z5.heap.size = B at *
  generalize z5.alloc (.cells (rlA size none 0 0 un dn) 34) = z6 at *
  go_wp2_with (first
    | (at_builtin; refine wpList_app _ rfl (.tmp 48) (.tmp 50) _ rfl B 42 i1 _ 13 136 Tryd.underlying32 hi1 hy0 hy1 hy2 rfl (by omega) _ _ _ rfl O1.out.own _ A n c _ rfl L8.out (flatE_one _) (by simp only [maxLen]; omega) (by omega) (by have := O1.out.o4.lt; omega) ?_
       intro v7 z7 ho7 hg7
       rw [Nat.zero_add, List.nil_append] at ho7
       obtain ⟨A7, c7, rfl, hc7, _⟩ := own_slice ho7
       have HO7 := Lib.hid ho7
       have HG7 := Lib.hid hg7
       clear ho7 hg7)
    | (refine wpList_store_cell 32 (.tmp 52) (.tmp 51) rfl rfl rfl B 1 rfl _ rfl rfl (by kernel_rfl) _ 34 (by simp) (O1.out.o4.grown HG7.out (own_ne O1.out.own O1.out.o4 (by decide))) ?_
       intro z8 h8 g8
       have O8 := Lib.hid (O1.out.push HO7.out HG7.out h8 g8)
       have o8 : z8.cell? ⟨B, 1, none⟩ = some (.slice A7 n c7) := O8.out.o4.cell 1
       have O9 := Lib.hid (O8.out.call ((Below.refl _ z8).alloc (Nat.le_refl _) (.cells (erA (erN r nx)) 42)))
       have o9 := O9.out.o4
       have hzB : B ≤ (z8.alloc (.cells (erA (erN r nx)) 42)).heap.size := Nat.le_of_lt o9.lt
       clear h8 g8 HO7 HG7 o9)
    | refine wpList_load_at 42 55 (.tmp 7) rfl rfl rfl z0.heap.size rfl (erA (erN r nx)) 13 strE rfl O8.out.b3 ?_
    | refine wpList_lit1 rfl (.tmp 55) 32 42 13 _ (erA (erN r nx)) rfl rfl Tryd.underlying32 ent_info2 (by omega) (by omega) rfl ?_
    | (at_builtin; refine wpList_app2 _ rfl (.tmp 54) (.tmp 56) _ rfl B 42 i1 _ 13 136 Tryd.underlying32 hi1 hy0 hy1 hy2 rfl (by omega) _ _ _ rfl O9.out.own _ _ 1 _ _ rfl (lies_newC _ (erL (erN r nx)) 42 13 rfl) (erL_one _) (by omega) (by simp only [maxLen]; omega) (by omega) hzB ?_
       intro v10 z10 ho10 hg10 hv10
       obtain ⟨A10, c10, rfl, _, _⟩ := own_slice ho10
       have HO10 := Lib.hid ho10
       have HG10 := Lib.hid hg10
       clear ho10 hg10 hv10)
    | (refine wpList_store_cell 32 (.tmp 58) (.tmp 57) rfl rfl rfl B 1 rfl _ rfl rfl (by kernel_rfl) _ 34 (by simp) (O9.out.o4.grown HG10.out (own_ne O9.out.own O9.out.o4 (by decide))) ?_
       intro z11 h11 g11
       have O11 := Lib.hid (O9.out.push HO10.out HG10.out h11 g11)
       clear h11 g11 HO10 HG10))
  have O13 := Lib.hid (O11.out.call (below_n (Below.refl _ z11) 1))
  refine wp_region_held_drew (S := fun z => At z B 34 #[.int .i64 (size : Int), .slice A10 (n + 1) c10, .int .i64 (un : Int), .int .i64 (dn : Int)] ∧ At z z0.heap.size 42 (erA (erN r nx))) (by kernel_rfl) ⟨O13.out.o4, O13.out.b3⟩ (fun hS => ?_)
  refine takeH (i := 0) (d := 59) (v := .agg #[.int .i64 (size : Int), .slice A10 (n + 1) c10, .int .i64 (un : Int), .int .i64 (dn : Int)]) rfl (by kernel_rfl) (by kernel_rfl) (by kernel_rfl) (fun _ _ _ h => h) rfl (by rfl) ?yp0 hS ?rp0
  case yp0 => (intro wz hz; have c0 : wz.cell? ⟨z0.heap.size, 0, none⟩ = some (.int .u64 (nx : Int)) := hz.2.cell 0; exact exec_load_at 34 (.tmp 11) rfl B rfl _ 4 strRL rfl hz.1)
  simp only [List.setIfInBounds_toArray, List.set_cons_zero, List.set_cons_succ]
  refine takeH (i := 1) (d := 60) (v := ?vp1) rfl (by kernel_rfl) (by kernel_rfl) (by kernel_rfl) (fun _ _ _ h => h) rfl (by rfl) ?yp1 hS ?rp1
  case yp1 => (intro wz hz; have c0 : wz.cell? ⟨z0.heap.size, 0, none⟩ = some (.int .u64 (nx : Int)) := hz.2.cell 0; go_simp <;> with_reducible rfl)
  simp only [List.setIfInBounds_toArray, List.set_cons_zero, List.set_cons_succ]
  refine takeH (i := 2) (d := 61) (v := ?vp2) rfl (by kernel_rfl) (by kernel_rfl) (by kernel_rfl) (fun _ _ _ h => h) rfl (by rfl) ?yp2 hS ?rp2
  case yp2 => (intro wz hz; have c0 : wz.cell? ⟨z0.heap.size, 0, none⟩ = some (.int .u64 (nx : Int)) := hz.2.cell 0; go_simp <;> with_reducible rfl)
  simp only [List.setIfInBounds_toArray, List.set_cons_zero, List.set_cons_succ]
  refine wpAnyH_ready (rs := [3]) (by kernel_rfl) (by simp) ?_
  refine AllReadyH.cons rfl (fun K hK => ?_) AllReadyH.nil
  rw [if_pos (by rfl)]
  refine wp_store_at 34 (.tmp 4) (.tmp 59) rfl rfl g2 rfl #[.int .i64 (size : Int), .slice A10 (n + 1) c10, .int .i64 (un : Int), .int .i64 (dn : Int)] _ 4 rfl strRL rfl rfl (by simp [Value.oneCell']) O13.out.b2 ?_
  intro z12 h12 gr12
  have H12 := Lib.hid h12
  have B12 := Lib.hid (O13.out.low.grown gr12 O13.out.low.size (fun k hk => by injection hk with hk; have := LT2.out; omega))
  have OW12 := Lib.hid (own_keep O13.out.own fun k hk => gr12.block k (by obtain ⟨_, cur, hc⟩ := own_cells O13.out.own hk; exact (Array.getElem?_eq_some_iff.1 hc).1) (fun e => own_ne O13.out.own O13.out.b2 (by decide) (by rw [← e]; exact hk.symm)))
  have S12 := Lib.hid (show At z12 B 34 #[.int .i64 (size : Int), .slice A10 (n + 1) c10, .int .i64 (un : Int), .int .i64 (dn : Int)] ∧ At z12 z0.heap.size 42 (erA (erN r nx)) from ⟨O13.out.o4.grown gr12 (fun e => by injection e with e; have := O13.out.l2; omega), O13.out.b3.grown gr12 (O13.out.b3.neq O13.out.b2 (by decide))⟩)
  have hb : True := trivial
  clear h12 gr12
  refine hK.out _ _ (S12.out) (fun hT => ?_)
  clear hK hb hS
  have hS := hT
  clear hT
  refine takeH (i := 4) (d := 5) (v := ?vp4) rfl (by kernel_rfl) (by kernel_rfl) (by kernel_rfl) (fun _ _ _ h => h) rfl (by rfl) ?yp4 hS ?rp4
  case yp4 => (intro wz hz; have c0 : wz.cell? ⟨z0.heap.size, 0, none⟩ = some (.int .u64 (nx : Int)) := hz.2.cell 0; go_simp <;> with_reducible rfl)
  simp only [List.setIfInBounds_toArray, List.set_cons_zero, List.set_cons_succ]
  refine takeH (i := 5) (d := 6) (v := ?vp5) rfl (by kernel_rfl) (by kernel_rfl) (by kernel_rfl) (fun _ _ _ h => h) rfl (by rfl) ?yp5 hS ?rp5
  case yp5 => (intro wz hz; have c0 : wz.cell? ⟨z0.heap.size, 0, none⟩ = some (.int .u64 (nx : Int)) := hz.2.cell 0; go_simp <;> with_reducible rfl)
  simp only [List.setIfInBounds_toArray, List.set_cons_zero, List.set_cons_succ]
  refine wpAnyH_done (by kernel_rfl) ?_ _
  go_wp2_with fail
  refine bodyPost_ret (v := .tuple #[.agg #[.int .i64 (size : Int), .slice A10 (n + 1) c10, .int .i64 (un : Int), .int .i64 (dn : Int)], .int .u64 (nx : Int), .int .i64 0]) (results_at3 rfl H12.out strRL rfl Tryd.results11 rfl rfl) rfl ?_
  refine ⟨.slice A10 (n + 1) c10, by rw [← HX.out, ← HWD.out, ← HUN.out], ?_, B12.out⟩
  rw [← HX.out, flatE_append, flatE_single]
  exact own_base OW12.out O13.out.l0

end Go.Proofs.YthicidpdgggbjaaDoor
