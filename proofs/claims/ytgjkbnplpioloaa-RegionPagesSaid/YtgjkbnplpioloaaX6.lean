/-
  Halves, the program's and the document's.
  Conditions: a box that is right.
-/
import Derived.Test.YtgjkbnplpioloaaX5
namespace Go.Proofs.Ytgjkbnplpioloaa
open Go.RowKit
attribute [local go_sem] Oper.semAt_some
set_option maxRecDepth 20000

/-- What a function hands back that returns two structs out of cells, and a value beside them. -/
theorem results_cct {fn : Func} {p q t : Tmp} {ty : TypeId} {tmps : Array Value} {w : World} {g gq n : Nat} {cs cs' : Array Value} {v : Value} (hp : tmps.getD p undef = .pointer (some ⟨g, 0, none⟩)) (hq : tmps.getD q undef = .pointer (some ⟨gq, 0, none⟩)) (hc : At w g ty cs) (hc' : At w gq ty cs') (hs : Str ty n) (hn : cs.size = n) (hn' : cs'.size = n)
    (h : fn.results = #[.cell p ty, .cell q ty, .tmp t]) (hv : tmps.getD t undef = v) : (results fn tmps).run Try.prog w = .ok (.tuple #[.agg cs, .agg cs', v]) w := by
  obtain ⟨ds, h1, h2, h3⟩ := hs
  have hp' : tmps[p]?.getD undef = .pointer (some ⟨g, 0, none⟩) := by simpa using hp
  have hq' : tmps[q]?.getD undef = .pointer (some ⟨gq, 0, none⟩) := by simpa using hq
  have hv' : tmps[t]?.getD undef = v := by simpa using hv
  have hl := run_loadVar_row w g ty ty cs (0, 0) ds hc h1 (by cases ds <;> first | rfl | cases h2) (by rw [hn]; exact h3)
  have hl' := run_loadVar_row w gq ty ty cs' (0, 0) ds hc' h1 (by cases ds <;> first | rfl | cases h2) (by rw [hn']; exact h3)
  simp [results, h, hp', hq', hv', asAddr, hl, hl']
/-- Two boxes and whether they are two. -/
def RetXX (w : World) (x : Bx × Bx × Bool) (e : Ending) (z : World) : Prop := e = .returned (.tuple #[.agg (bxA x.1), .agg (bxA x.2.1), .bool x.2.2]) ∧ Below w.heap.size w z
/-- While halves are made: the box, the results' boxes; low and high in gl, gh. -/
structure HvS (w : World) (t : TypeId) (b r1 r2 : Bx) (y : World) : Prop where
  b : At y w.heap.size t (bxA b)
  r1 : At y (w.heap.size + 1) t (bxA r1)
  r2 : At y (w.heap.size + 2) t (bxA r2)
  bel : Below w.heap.size w y
theorem HvS.call {w y z : World} {t : TypeId} {b r1 r2 : Bx} (h : HvS w t b r1 r2 y) (hb : Below y.heap.size y z) : HvS w t b r1 r2 z := ⟨h.b.under hb h.b.lt, h.r1.under hb h.r1.lt, h.r2.under hb h.r2.lt, h.bel.trans (hb.mono h.bel.size)⟩
theorem HvS.cell {w y : World} {t : TypeId} {b r1 r2 : Bx} (h : HvS w t b r1 r2 y) {g : Nat} (hg : w.heap.size + 2 < g) (j : Nat) (u : Value) : HvS w t b r1 r2 (y.setCell ⟨g, j, none⟩ u) :=
  ⟨h.b.other (p := ⟨g, j, none⟩) (by show w.heap.size ≠ g; omega) u, h.r1.other (p := ⟨g, j, none⟩) (by show w.heap.size + 1 ≠ g; omega) u, h.r2.other (p := ⟨g, j, none⟩) (by show w.heap.size + 2 ≠ g; omega) u, h.bel.setCell (by show w.heap.size ≤ g; omega) u⟩
theorem HvS.put1 {w y z : World} {t : TypeId} {b r1 r2 x : Bx} (h : HvS w t b r1 r2 y) (ha : At z (w.heap.size + 1) t (bxA x)) (hg : y.grownBy z (some (w.heap.size + 1))) : HvS w t b x r2 z :=
  ⟨h.b.grown hg (fun e => by injection e with e; omega), ha, h.r2.grown hg (fun e => by injection e with e; omega), h.bel.grown hg h.bel.size (fun j e => by injection e with e; omega)⟩
theorem HvS.put2 {w y z : World} {t : TypeId} {b r1 r2 x : Bx} (h : HvS w t b r1 r2 y) (ha : At z (w.heap.size + 2) t (bxA x)) (hg : y.grownBy z (some (w.heap.size + 2))) : HvS w t b r1 x z :=
  ⟨h.b.grown hg (fun e => by injection e with e; omega), h.r1.grown hg (fun e => by injection e with e; omega), ha, h.bel.grown hg h.bel.size (fun j e => by injection e with e; omega)⟩
theorem HvS.start (w : World) (t : TypeId) (b : Bx) : HvS w t b zbx zbx (((w.alloc (.cells (bxA b) t)).alloc (.cells (bxA zbx) t)).alloc (.cells (bxA zbx) t)) := by
  refine ⟨((At.new w t (bxA b)).alloc _).alloc _, ?_, ?_, (((Below.refl _ w).alloc (Nat.le_refl _) _).alloc (by simp) _).alloc (by simp; omega) _⟩
  · have := (At.new (w.alloc (.cells (bxA b) t)) t (bxA zbx)).alloc (.cells (bxA zbx) t)
    rw [World.size_alloc] at this
    exact this
  · have := At.new ((w.alloc (.cells (bxA b) t)).alloc (.cells (bxA zbx) t)) t (bxA zbx)
    rw [World.size_alloc, World.size_alloc] at this
    exact this
theorem HvS.box {w y z : World} {t : TypeId} {b r1 r2 : Bx} (h : HvS w t b r1 r2 y) {g : Nat} (hg : w.heap.size + 2 < g) (h2 : y.grownBy z (some g)) : HvS w t b r1 r2 z :=
  ⟨h.b.grown h2 (fun e => by injection e with e; omega), h.r1.grown h2 (fun e => by injection e with e; omega), h.r2.grown h2 (fun e => by injection e with e; omega), h.bel.grown h2 h.bel.size (fun j e => by injection e with e; omega)⟩
def HvE (w : World) (t : TypeId) (b : Bx) (y : World) : Prop := ∃ r1 r2, HvS w t b r1 r2 y
/-- Low and high beside them. -/
structure LhS (gl gh : Nat) (t : TypeId) (lo hi : Bx) (y : World) : Prop where
  l : At y gl t (bxA lo)
  h : At y gh t (bxA hi)
theorem right_small {x0 y0 x1 y1 : Int} (h : RtX ⟨x0, y0, x1, y1⟩) : 0 ≤ x0 ∧ x0 < x1 ∧ x1 ≤ 8 ∧ 0 ≤ y0 ∧ y0 < y1 ∧ y1 ≤ 8 := ⟨h.x0, h.x1, h.x2, h.y0, h.y1, h.y2⟩
set_option maxHeartbeats 12800000 in
theorem xHalves_any (b : Bx) (w : World) (h : RtX b) : Calls Try.prog 16 #[.agg (bxA b)] w (RetXX w (halvesX b)) := by
  have HV0 := Lib.hid (HvS.start w 23 b)
  obtain ⟨hc1, hc2, hc3⟩ := cells_one h
  obtain ⟨cn, hcn⟩ : ∃ cn, cellsX b = cn := ⟨_, rfl⟩
  have HCN := Lib.hid hcn
  rw [hcn] at hc1 hc2 hc3
  clear hcn
  go_enter Try.func16, Try.ntmps16
  go_upto_region 1 with fail
  have hz0 : (#[Value.int .i64 0, .int .i64 0, .int .i64 0, .int .i64 0] : Array Value) = bxA zbx := rfl
  rw [hz0]
  clear hz0
  generalize (((w.alloc (.cells (bxA b) 23)).alloc (.cells (bxA zbx) 23)).alloc (.cells (bxA zbx) 23)) = z0 at HV0 ⊢
  by_cases h1 : cn < 2
  · have HE : Hid (halvesX b = (b, b, false)) := by show _ = _; unfold halvesX; rw [if_pos (hc1.1 h1)]
    clear hc1
    go_upto_region 2 with (first
      | (refine wpList_load_at 23 9 (.tmp 1) rfl rfl rfl w.heap.size rfl (bxA b) 4 strX rfl HV0.out.b ?_)
      | (go_at_call 18; refine (xCells_any b _).mono ?_; rintro e z1 ⟨rfl, hz⟩; rw [HCN.out]; have HV := Lib.hid (HV0.out.call hz); clear hz))
    have hS0 : At z1.drew (w.heap.size) 23 (bxA b) ∧ At z1.drew (w.heap.size) 23 (bxA b) := ⟨HV.out.b, HV.out.b⟩
    have HP0 : Hid (HvS w 23 b zbx zbx z1.drew) := ⟨HV.out.b, HV.out.r1, HV.out.r2, HV.out.bel.drew⟩
    refine wp_region_held_drew (S := fun wz => At wz (w.heap.size) 23 (bxA b) ∧ At wz (w.heap.size) 23 (bxA b)) (by kernel_rfl) hS0 (fun hS => ?_)
    clear hS0
    generalize z1.drew = yd at HP0 hS ⊢
    refine tkS (v := .agg (bxA b)) 0 hS ?_ (hy := by intro wz hz; exact exec_load_at 23 (.tmp 1) rfl (w.heap.size) rfl (bxA b) 4 strX rfl hz.1)
    refine tkS (v := .agg (bxA b)) 1 hS ?_ (hy := by intro wz hz; exact exec_load_at 23 (.tmp 1) rfl (w.heap.size) rfl (bxA b) 4 strX rfl hz.2)
    refine wpAnyH_ready (rs := [2]) (by kernel_rfl) (by simp) ?_
    refine AllReadyH.cons rfl (fun K hK => ?_) AllReadyH.nil
    rw [if_pos (by rfl)]
    refine wp_store_at 23 (.tmp 2) (.tmp 12) rfl rfl (w.heap.size + 1) rfl (bxA b) (bxA zbx) 4 rfl strX rfl rfl (bxA_one _) HP0.out.r1 ?_
    intro w8 h8 g8
    have HP8 := Lib.hid (HP0.out.put1 h8 g8)
    have hT8 : At w8 (w.heap.size) 23 (bxA b) ∧ At w8 (w.heap.size) 23 (bxA b) := ⟨hS.1.grown g8 (fun e => by injection e with e; omega), hS.2.grown g8 (fun e => by injection e with e; omega)⟩
    clear h8 g8
    refine hK.out _ _ (hT8) (fun hT => ?_)
    clear hK hS
    have hS := hT
    clear hT
    refine wpAnyH_ready (rs := [3]) (by kernel_rfl) (by simp) ?_
    refine AllReadyH.cons rfl (fun K hK => ?_) AllReadyH.nil
    rw [if_pos (by rfl)]
    refine wp_store_at 23 (.tmp 3) (.tmp 13) rfl rfl (w.heap.size + 2) rfl (bxA b) (bxA zbx) 4 rfl strX rfl rfl (bxA_one _) HP8.out.r2 ?_
    intro w9 h9 g9
    have HP9 := Lib.hid (HP8.out.put2 h9 g9)
    have hT9 : At w9 (w.heap.size) 23 (bxA b) ∧ At w9 (w.heap.size) 23 (bxA b) := ⟨hS.1.grown g9 (fun e => by injection e with e; omega), hS.2.grown g9 (fun e => by injection e with e; omega)⟩
    clear h9 g9
    refine hK.out _ _ (hT9) (fun hT => ?_)
    clear hK hS
    have hS := hT
    clear hT
    refine tkS 4 hS ?_
    refine wpAnyH_done (by kernel_rfl) ?_ _
    clear hS
    go_wp2_with fail
    rw [HE.out]
    exact bodyPost_ret (results_cct (g := w.heap.size + 1) (gq := w.heap.size + 2) rfl rfl HP9.out.r1 HP9.out.r2 strX rfl rfl rfl rfl) rfl ⟨rfl, HP9.out.bel⟩
  · have hone : oneX b = false := by cases ho : oneX b with | false => rfl | true => exact absurd (hc1.2 ho) h1
    have HE0 : Hid (halvesX b = (loX b, hiX b, true)) := by show _ = _; unfold halvesX; rw [if_neg (by rw [hone]; decide)]
    clear hc1 hone
    go_upto_region 3 with (first
      | (refine wpList_load_at 23 9 (.tmp 1) rfl rfl rfl w.heap.size rfl (bxA b) 4 strX rfl HV0.out.b ?_)
      | (go_at_call 18; refine (xCells_any b _).mono ?_; rintro e z1 ⟨rfl, hz⟩; rw [HCN.out]; have HV1 := Lib.hid (HV0.out.call hz); clear hz))
    clear HV0 HCN hc2 hc3
    have zb0 : Hid ((#[Value.int .i64 0, .int .i64 0, .int .i64 0, .int .i64 0] : Array Value) = bxA zbx) := rfl
    have hS0 : At z1.drew w.heap.size 23 (bxA b) := HV1.out.b
    have HQ0 : Hid (HvS w 23 b zbx zbx z1.drew) := ⟨HV1.out.b, HV1.out.r1, HV1.out.r2, HV1.out.bel.drew⟩
    refine wp_region_held_drew (S := fun wz => At wz w.heap.size 23 (bxA b)) (by kernel_rfl) hS0 (fun hS => ?_)
    clear hS0
    generalize z1.drew = yd at HQ0 hS ⊢
    refine tkS (v := .agg (bxA b)) 0 hS ?_ (hy := by intro wz hz; exact exec_load_at 23 (.tmp 1) rfl w.heap.size rfl (bxA b) 4 strX rfl hz)
    refine tkS (v := .agg (bxA b)) 1 hS ?_ (hy := by intro wz hz; exact exec_load_at 23 (.tmp 1) rfl w.heap.size rfl (bxA b) 4 strX rfl hz)
    refine wpAnyH_ready (rs := [2, 3]) (by kernel_rfl) (by simp) ?_
    refine AllReadyH.cons rfl (fun K hK => ?_) (AllReadyH.cons rfl (fun K hK => ?_) AllReadyH.nil)
    · go_simp
      rw [zb0.out]
      have AX2 := Lib.hid (At.new yd 23 (bxA zbx))
      have HQ1 := Lib.hid (HQ0.out.call ((Below.refl yd.heap.size yd).alloc (Nat.le_refl _) (.cells (bxA zbx) 23)))
      have hg2 : w.heap.size + 2 < yd.heap.size := HQ0.out.r2.lt
      generalize yd.alloc (.cells (bxA zbx) 23) = ye at AX2 HQ1 ⊢
      generalize yd.heap.size = ga at AX2 hg2 ⊢
      refine hK.out _ _ (HQ1.out.b) (fun hT => ?_)
      clear hK hS
      have hS := hT
      clear hT
      refine wpAnyH_ready (rs := [3]) (by kernel_rfl) (by simp) ?_
      refine AllReadyH.cons rfl (fun K hK => ?_) AllReadyH.nil
      go_simp
      rw [zb0.out]
      have AX3 := Lib.hid (At.new ye 23 (bxA zbx))
      have HQ2 := Lib.hid (HQ1.out.call ((Below.refl ye.heap.size ye).alloc (Nat.le_refl _) (.cells (bxA zbx) 23)))
      have hg3 : w.heap.size + 2 < ye.heap.size := HQ1.out.r2.lt
      have AX2b := Lib.hid (AX2.out.alloc (.cells (bxA zbx) 23))
      have hgg : ga < ye.heap.size := AX2.out.lt
      clear AX2
      generalize ye.alloc (.cells (bxA zbx) 23) = yf at AX3 HQ2 AX2b ⊢
      generalize ye.heap.size = gb at AX3 hg3 hgg ⊢
      refine hK.out _ _ (HQ2.out.b) (fun hT => ?_)
      clear hK hS
      have hS := hT
      clear hT
      have ALX := AX2b
      have AHX := AX3
      have AL := Lib.hid ALX.out
      have AH := Lib.hid AHX.out
      have hlh : ga ≠ gb := by omega
      clear ALX AHX hgg
      refine wpAnyH_ready (rs := [4]) (by kernel_rfl) (by simp) ?_
      refine AllReadyH.cons rfl (fun K hK => ?_) AllReadyH.nil
      rw [if_pos (by rfl)]
      refine wp_store_at 23 (.tmp 5) (.tmp 14) rfl rfl ga rfl (bxA b) (bxA zbx) 4 rfl strX rfl rfl (bxA_one _) AL.out ?_
      intro w8 h8 g8
      have HL8 := Lib.hid h8
      have HH8 := Lib.hid (AH.out.grown g8 (fun e => by injection e with e; omega))
      have HQ8 := Lib.hid (HQ2.out.box hg2 g8)
      clear h8 g8
      refine hK.out _ _ (HQ8.out.b) (fun hT => ?_)
      clear hK hS
      have hS := hT
      clear hT
      refine wpAnyH_ready (rs := [5]) (by kernel_rfl) (by simp) ?_
      refine AllReadyH.cons rfl (fun K hK => ?_) AllReadyH.nil
      rw [if_pos (by rfl)]
      refine wp_store_at 23 (.tmp 6) (.tmp 15) rfl rfl gb rfl (bxA b) (bxA zbx) 4 rfl strX rfl rfl (bxA_one _) HH8.out ?_
      intro w9 h9 g9
      have HH := Lib.hid h9
      have HL := Lib.hid (HL8.out.grown g9 (fun e => by injection e with e; omega))
      have HV := Lib.hid (HQ8.out.box hg3 g9)
      clear h9 g9 HL8 HH8 HQ8
      refine hK.out _ _ (HV.out.b) (fun hT => ?_)
      clear hK hS
      have hS := hT
      clear hT
      refine wpAnyH_done (by kernel_rfl) ?_ _
      clear hS AL AH
      have hgl := hg2
      have hgh := hg3
      obtain ⟨x0, y0, x1, y1⟩ := b
      have hr := right_small h
      clear h
      go_upto_region 4 with fail
      have hS0 : At w9.drew w.heap.size 23 (bxA ⟨x0, y0, x1, y1⟩) := HV.out.b
      have HVd : Hid (HvS w 23 ⟨x0, y0, x1, y1⟩ zbx zbx w9.drew) := ⟨HV.out.b, HV.out.r1, HV.out.r2, HV.out.bel.drew⟩
      have HLd : Hid (At w9.drew ga 23 (bxA ⟨x0, y0, x1, y1⟩)) := HL.out
      have HHd : Hid (At w9.drew gb 23 (bxA ⟨x0, y0, x1, y1⟩)) := HH.out
      clear HV HL HH
      obtain ⟨cw, hcw⟩ : ∃ cw, x1 - x0 = cw := ⟨_, rfl⟩
      obtain ⟨ch, hch⟩ : ∃ ch, y1 - y0 = ch := ⟨_, rfl⟩
      have e1 : wrap64 cw = cw := by unfold wrap64; omega
      have e2 : wrap64 ch = ch := by unfold wrap64; omega
      have e1i : IntKind.i64.wrap cw = cw := by rw [IntKind.wrap_i64]; omega
      have e2i : IntKind.i64.wrap ch = ch := by rw [IntKind.wrap_i64]; omega
      refine wp_region_held_drew (S := fun wz => At wz w.heap.size 23 (bxA ⟨x0, y0, x1, y1⟩)) (by kernel_rfl) hS0 (fun hS => ?_)
      clear hS0
      generalize w9.drew = u0 at HVd HLd HHd hS ⊢
      refine tkS 0 hS ?_
      refine tkS 1 hS ?_ (hy := by intro wz hz; have q0 : wz.cell? ⟨w.heap.size, 0, none⟩ = some (.int .i64 x0) := hz.cell 0; have q1 : wz.cell? ⟨w.heap.size, 1, none⟩ = some (.int .i64 y0) := hz.cell 1; have q2 : wz.cell? ⟨w.heap.size, 2, none⟩ = some (.int .i64 x1) := hz.cell 2; have q3 : wz.cell? ⟨w.heap.size, 3, none⟩ = some (.int .i64 y1) := hz.cell 3; go_simp <;> with_reducible rfl)
      refine tkS 2 hS ?_
      refine tkS 3 hS ?_ (hy := by intro wz hz; have q0 : wz.cell? ⟨w.heap.size, 0, none⟩ = some (.int .i64 x0) := hz.cell 0; have q1 : wz.cell? ⟨w.heap.size, 1, none⟩ = some (.int .i64 y0) := hz.cell 1; have q2 : wz.cell? ⟨w.heap.size, 2, none⟩ = some (.int .i64 x1) := hz.cell 2; have q3 : wz.cell? ⟨w.heap.size, 3, none⟩ = some (.int .i64 y1) := hz.cell 3; go_simp <;> with_reducible rfl)
      refine tkS 4 hS ?_
      refine tkS 5 hS ?_
      refine tkS 6 hS ?_ (hy := by intro wz hz; have q0 : wz.cell? ⟨w.heap.size, 0, none⟩ = some (.int .i64 x0) := hz.cell 0; have q1 : wz.cell? ⟨w.heap.size, 1, none⟩ = some (.int .i64 y0) := hz.cell 1; have q2 : wz.cell? ⟨w.heap.size, 2, none⟩ = some (.int .i64 x1) := hz.cell 2; have q3 : wz.cell? ⟨w.heap.size, 3, none⟩ = some (.int .i64 y1) := hz.cell 3; go_simp <;> with_reducible rfl)
      refine tkS 7 hS ?_
      refine tkS 8 hS ?_ (hy := by intro wz hz; have q0 : wz.cell? ⟨w.heap.size, 0, none⟩ = some (.int .i64 x0) := hz.cell 0; have q1 : wz.cell? ⟨w.heap.size, 1, none⟩ = some (.int .i64 y0) := hz.cell 1; have q2 : wz.cell? ⟨w.heap.size, 2, none⟩ = some (.int .i64 x1) := hz.cell 2; have q3 : wz.cell? ⟨w.heap.size, 3, none⟩ = some (.int .i64 y1) := hz.cell 3; go_simp <;> with_reducible rfl)
      refine tkS 9 hS ?_
      refine tkS 10 hS ?_
      refine tkS 11 hS ?_
      refine wpAnyH_done (by kernel_rfl) ?_ _
      clear hS
      have HV := HVd
      have HL := HLd
      have HH := HHd
      clear HVd HLd HHd
      have b0 : u0.cell? ⟨w.heap.size, 0, none⟩ = some (.int .i64 x0) := HV.out.b.cell 0
      have b1 : u0.cell? ⟨w.heap.size, 1, none⟩ = some (.int .i64 y0) := HV.out.b.cell 1
      by_cases hwd : ch ≤ cw
      · obtain ⟨hf, hhf⟩ : ∃ hf, cw / 2 = hf := ⟨_, rfl⟩
        have d1 : Int.tdiv cw 2 = hf := by rw [Int.tdiv_eq_ediv_of_nonneg (by omega)]; exact hhf
        have d2 : wrap64 hf = hf := by unfold wrap64; omega
        have d2i : IntKind.i64.wrap hf = hf := by rw [IntKind.wrap_i64]; omega
        obtain ⟨md, hmd⟩ : ∃ md, x0 + hf = md := ⟨_, rfl⟩
        have d3 : wrap64 md = md := by unfold wrap64; omega
        have d3i : IntKind.i64.wrap md = md := by rw [IntKind.wrap_i64]; omega
        have HE : Hid (halvesX ⟨x0, y0, x1, y1⟩ = (⟨x0, y0, md, y1⟩, ⟨md, y0, x1, y1⟩, true)) := by
          show _ = _
          rw [HE0.out]
          unfold loX hiX wX hX
          simp only [hcw, hch]
          rw [if_pos hwd, if_pos hwd]
          rw [hhf, hmd]
        clear hhf HE0 hr hcw hch
        have cl : u0.cell? ⟨ga, 2, none⟩ = some (.int .i64 x1) := HL.out.cell 2
        have fl : u0.frozen? ⟨ga, 2, none⟩ = false := HL.out.frozen 2
        go_upto_region 7 with fail
        clear cl fl
        have HV2 := Lib.hid (HV.out.cell hgl 2 (.int .i64 md))
        have HL2 := Lib.hid (HL.out.set 2 (.int .i64 md))
        have HH2 := Lib.hid (HH.out.other (p := ⟨ga, 2, none⟩) (by show gb ≠ ga; omega) (.int .i64 md))
        generalize u0.setCell ⟨ga, 2, none⟩ (.int .i64 md) = u2 at HV2 HL2 HH2 ⊢
        have cl : u2.cell? ⟨ga, 2, none⟩ = some (.int .i64 md) := HL2.out.cell 2
        have ch : u2.cell? ⟨gb, 0, none⟩ = some (.int .i64 x0) := HH2.out.cell 0
        have fh : u2.frozen? ⟨gb, 0, none⟩ = false := HH2.out.frozen 0
        go_upto_region 10 with fail
        clear cl ch fh
        have HV3 := Lib.hid (HV2.out.cell hgh 0 (.int .i64 md))
        have HH3 : Hid (At (u2.setCell ⟨gb, 0, none⟩ (.int .i64 md)) gb 23 (bxA ⟨md, y0, x1, y1⟩)) := HH2.out.set 0 (.int .i64 md)
        have HL3 : Hid (At (u2.setCell ⟨gb, 0, none⟩ (.int .i64 md)) ga 23 (bxA ⟨x0, y0, md, y1⟩)) := HL2.out.other (p := ⟨gb, 0, none⟩) (by show ga ≠ gb; omega) (.int .i64 md)
        generalize u2.setCell ⟨gb, 0, none⟩ (.int .i64 md) = u3 at HV3 HL3 HH3 ⊢
        have hS0 : At u3.drew (ga) 23 (bxA ⟨x0, y0, md, y1⟩) ∧ At u3.drew (gb) 23 (bxA ⟨md, y0, x1, y1⟩) := ⟨HL3.out, HH3.out⟩
        have HP0 : Hid (HvS w 23 ⟨x0, y0, x1, y1⟩ zbx zbx u3.drew) := ⟨HV3.out.b, HV3.out.r1, HV3.out.r2, HV3.out.bel.drew⟩
        refine wp_region_held_drew (S := fun wz => At wz (ga) 23 (bxA ⟨x0, y0, md, y1⟩) ∧ At wz (gb) 23 (bxA ⟨md, y0, x1, y1⟩)) (by kernel_rfl) hS0 (fun hS => ?_)
        clear hS0
        generalize u3.drew = yd at HP0 hS ⊢
        refine tkS (v := .agg (bxA ⟨x0, y0, md, y1⟩)) 0 hS ?_ (hy := by intro wz hz; exact exec_load_at 23 (.tmp 5) rfl (ga) rfl (bxA ⟨x0, y0, md, y1⟩) 4 strX rfl hz.1)
        refine tkS (v := .agg (bxA ⟨md, y0, x1, y1⟩)) 1 hS ?_ (hy := by intro wz hz; exact exec_load_at 23 (.tmp 6) rfl (gb) rfl (bxA ⟨md, y0, x1, y1⟩) 4 strX rfl hz.2)
        refine wpAnyH_ready (rs := [2]) (by kernel_rfl) (by simp) ?_
        refine AllReadyH.cons rfl (fun K hK => ?_) AllReadyH.nil
        rw [if_pos (by rfl)]
        refine wp_store_at 23 (.tmp 2) (.tmp 47) rfl rfl (w.heap.size + 1) rfl (bxA ⟨x0, y0, md, y1⟩) (bxA zbx) 4 rfl strX rfl rfl (bxA_one _) HP0.out.r1 ?_
        intro w8 h8 g8
        have HP8 := Lib.hid (HP0.out.put1 h8 g8)
        have hT8 : At w8 (ga) 23 (bxA ⟨x0, y0, md, y1⟩) ∧ At w8 (gb) 23 (bxA ⟨md, y0, x1, y1⟩) := ⟨hS.1.grown g8 (fun e => by injection e with e; omega), hS.2.grown g8 (fun e => by injection e with e; omega)⟩
        clear h8 g8
        refine hK.out _ _ (hT8) (fun hT => ?_)
        clear hK hS
        have hS := hT
        clear hT
        refine wpAnyH_ready (rs := [3]) (by kernel_rfl) (by simp) ?_
        refine AllReadyH.cons rfl (fun K hK => ?_) AllReadyH.nil
        rw [if_pos (by rfl)]
        refine wp_store_at 23 (.tmp 3) (.tmp 48) rfl rfl (w.heap.size + 2) rfl (bxA ⟨md, y0, x1, y1⟩) (bxA zbx) 4 rfl strX rfl rfl (bxA_one _) HP8.out.r2 ?_
        intro w9 h9 g9
        have HP9 := Lib.hid (HP8.out.put2 h9 g9)
        have hT9 : At w9 (ga) 23 (bxA ⟨x0, y0, md, y1⟩) ∧ At w9 (gb) 23 (bxA ⟨md, y0, x1, y1⟩) := ⟨hS.1.grown g9 (fun e => by injection e with e; omega), hS.2.grown g9 (fun e => by injection e with e; omega)⟩
        clear h9 g9
        refine hK.out _ _ (hT9) (fun hT => ?_)
        clear hK hS
        have hS := hT
        clear hT
        refine tkS 4 hS ?_
        refine wpAnyH_done (by kernel_rfl) ?_ _
        clear hS
        go_wp2_with fail
        rw [HE.out]
        exact bodyPost_ret (results_cct (g := w.heap.size + 1) (gq := w.heap.size + 2) rfl rfl HP9.out.r1 HP9.out.r2 strX rfl rfl rfl rfl) rfl ⟨rfl, HP9.out.bel⟩
      · obtain ⟨hf, hhf⟩ : ∃ hf, ch / 2 = hf := ⟨_, rfl⟩
        have d1 : Int.tdiv ch 2 = hf := by rw [Int.tdiv_eq_ediv_of_nonneg (by omega)]; exact hhf
        have d2 : wrap64 hf = hf := by unfold wrap64; omega
        have d2i : IntKind.i64.wrap hf = hf := by rw [IntKind.wrap_i64]; omega
        obtain ⟨md, hmd⟩ : ∃ md, y0 + hf = md := ⟨_, rfl⟩
        have d3 : wrap64 md = md := by unfold wrap64; omega
        have d3i : IntKind.i64.wrap md = md := by rw [IntKind.wrap_i64]; omega
        have HE : Hid (halvesX ⟨x0, y0, x1, y1⟩ = (⟨x0, y0, x1, md⟩, ⟨x0, md, x1, y1⟩, true)) := by
          show _ = _
          rw [HE0.out]
          unfold loX hiX wX hX
          simp only [hcw, hch]
          rw [if_neg hwd, if_neg hwd]
          rw [hhf, hmd]
        clear hhf HE0 hr hcw hch
        have cl : u0.cell? ⟨ga, 3, none⟩ = some (.int .i64 y1) := HL.out.cell 3
        have fl : u0.frozen? ⟨ga, 3, none⟩ = false := HL.out.frozen 3
        go_upto_region 9 with fail
        clear cl fl
        have HV2 := Lib.hid (HV.out.cell hgl 3 (.int .i64 md))
        have HL2 := Lib.hid (HL.out.set 3 (.int .i64 md))
        have HH2 := Lib.hid (HH.out.other (p := ⟨ga, 3, none⟩) (by show gb ≠ ga; omega) (.int .i64 md))
        generalize u0.setCell ⟨ga, 3, none⟩ (.int .i64 md) = u2 at HV2 HL2 HH2 ⊢
        have cl : u2.cell? ⟨ga, 3, none⟩ = some (.int .i64 md) := HL2.out.cell 3
        have ch : u2.cell? ⟨gb, 1, none⟩ = some (.int .i64 y0) := HH2.out.cell 1
        have fh : u2.frozen? ⟨gb, 1, none⟩ = false := HH2.out.frozen 1
        go_upto_region 10 with fail
        clear cl ch fh
        have HV3 := Lib.hid (HV2.out.cell hgh 1 (.int .i64 md))
        have HH3 : Hid (At (u2.setCell ⟨gb, 1, none⟩ (.int .i64 md)) gb 23 (bxA ⟨x0, md, x1, y1⟩)) := HH2.out.set 1 (.int .i64 md)
        have HL3 : Hid (At (u2.setCell ⟨gb, 1, none⟩ (.int .i64 md)) ga 23 (bxA ⟨x0, y0, x1, md⟩)) := HL2.out.other (p := ⟨gb, 1, none⟩) (by show ga ≠ gb; omega) (.int .i64 md)
        generalize u2.setCell ⟨gb, 1, none⟩ (.int .i64 md) = u3 at HV3 HL3 HH3 ⊢
        have hS0 : At u3.drew (ga) 23 (bxA ⟨x0, y0, x1, md⟩) ∧ At u3.drew (gb) 23 (bxA ⟨x0, md, x1, y1⟩) := ⟨HL3.out, HH3.out⟩
        have HP0 : Hid (HvS w 23 ⟨x0, y0, x1, y1⟩ zbx zbx u3.drew) := ⟨HV3.out.b, HV3.out.r1, HV3.out.r2, HV3.out.bel.drew⟩
        refine wp_region_held_drew (S := fun wz => At wz (ga) 23 (bxA ⟨x0, y0, x1, md⟩) ∧ At wz (gb) 23 (bxA ⟨x0, md, x1, y1⟩)) (by kernel_rfl) hS0 (fun hS => ?_)
        clear hS0
        generalize u3.drew = yd at HP0 hS ⊢
        refine tkS (v := .agg (bxA ⟨x0, y0, x1, md⟩)) 0 hS ?_ (hy := by intro wz hz; exact exec_load_at 23 (.tmp 5) rfl (ga) rfl (bxA ⟨x0, y0, x1, md⟩) 4 strX rfl hz.1)
        refine tkS (v := .agg (bxA ⟨x0, md, x1, y1⟩)) 1 hS ?_ (hy := by intro wz hz; exact exec_load_at 23 (.tmp 6) rfl (gb) rfl (bxA ⟨x0, md, x1, y1⟩) 4 strX rfl hz.2)
        refine wpAnyH_ready (rs := [2]) (by kernel_rfl) (by simp) ?_
        refine AllReadyH.cons rfl (fun K hK => ?_) AllReadyH.nil
        rw [if_pos (by rfl)]
        refine wp_store_at 23 (.tmp 2) (.tmp 47) rfl rfl (w.heap.size + 1) rfl (bxA ⟨x0, y0, x1, md⟩) (bxA zbx) 4 rfl strX rfl rfl (bxA_one _) HP0.out.r1 ?_
        intro w8 h8 g8
        have HP8 := Lib.hid (HP0.out.put1 h8 g8)
        have hT8 : At w8 (ga) 23 (bxA ⟨x0, y0, x1, md⟩) ∧ At w8 (gb) 23 (bxA ⟨x0, md, x1, y1⟩) := ⟨hS.1.grown g8 (fun e => by injection e with e; omega), hS.2.grown g8 (fun e => by injection e with e; omega)⟩
        clear h8 g8
        refine hK.out _ _ (hT8) (fun hT => ?_)
        clear hK hS
        have hS := hT
        clear hT
        refine wpAnyH_ready (rs := [3]) (by kernel_rfl) (by simp) ?_
        refine AllReadyH.cons rfl (fun K hK => ?_) AllReadyH.nil
        rw [if_pos (by rfl)]
        refine wp_store_at 23 (.tmp 3) (.tmp 48) rfl rfl (w.heap.size + 2) rfl (bxA ⟨x0, md, x1, y1⟩) (bxA zbx) 4 rfl strX rfl rfl (bxA_one _) HP8.out.r2 ?_
        intro w9 h9 g9
        have HP9 := Lib.hid (HP8.out.put2 h9 g9)
        have hT9 : At w9 (ga) 23 (bxA ⟨x0, y0, x1, md⟩) ∧ At w9 (gb) 23 (bxA ⟨x0, md, x1, y1⟩) := ⟨hS.1.grown g9 (fun e => by injection e with e; omega), hS.2.grown g9 (fun e => by injection e with e; omega)⟩
        clear h9 g9
        refine hK.out _ _ (hT9) (fun hT => ?_)
        clear hK hS
        have hS := hT
        clear hT
        refine tkS 4 hS ?_
        refine wpAnyH_done (by kernel_rfl) ?_ _
        clear hS
        go_wp2_with fail
        rw [HE.out]
        exact bodyPost_ret (results_cct (g := w.heap.size + 1) (gq := w.heap.size + 2) rfl rfl HP9.out.r1 HP9.out.r2 strX rfl rfl rfl rfl) rfl ⟨rfl, HP9.out.bel⟩
    · go_simp
      rw [zb0.out]
      have AX3 := Lib.hid (At.new yd 23 (bxA zbx))
      have HQ1 := Lib.hid (HQ0.out.call ((Below.refl yd.heap.size yd).alloc (Nat.le_refl _) (.cells (bxA zbx) 23)))
      have hg3 : w.heap.size + 2 < yd.heap.size := HQ0.out.r2.lt
      generalize yd.alloc (.cells (bxA zbx) 23) = ye at AX3 HQ1 ⊢
      generalize yd.heap.size = gb at AX3 hg3 ⊢
      refine hK.out _ _ (HQ1.out.b) (fun hT => ?_)
      clear hK hS
      have hS := hT
      clear hT
      refine wpAnyH_ready (rs := [2]) (by kernel_rfl) (by simp) ?_
      refine AllReadyH.cons rfl (fun K hK => ?_) AllReadyH.nil
      go_simp
      rw [zb0.out]
      have AX2 := Lib.hid (At.new ye 23 (bxA zbx))
      have HQ2 := Lib.hid (HQ1.out.call ((Below.refl ye.heap.size ye).alloc (Nat.le_refl _) (.cells (bxA zbx) 23)))
      have hg2 : w.heap.size + 2 < ye.heap.size := HQ1.out.r2.lt
      have AX3b := Lib.hid (AX3.out.alloc (.cells (bxA zbx) 23))
      have hgg : gb < ye.heap.size := AX3.out.lt
      clear AX3
      generalize ye.alloc (.cells (bxA zbx) 23) = yf at AX2 HQ2 AX3b ⊢
      generalize ye.heap.size = ga at AX2 hg2 hgg ⊢
      refine hK.out _ _ (HQ2.out.b) (fun hT => ?_)
      clear hK hS
      have hS := hT
      clear hT
      have ALX := AX2
      have AHX := AX3b
      have AL := Lib.hid ALX.out
      have AH := Lib.hid AHX.out
      have hlh : ga ≠ gb := by omega
      clear ALX AHX hgg
      refine wpAnyH_ready (rs := [4]) (by kernel_rfl) (by simp) ?_
      refine AllReadyH.cons rfl (fun K hK => ?_) AllReadyH.nil
      rw [if_pos (by rfl)]
      refine wp_store_at 23 (.tmp 5) (.tmp 14) rfl rfl ga rfl (bxA b) (bxA zbx) 4 rfl strX rfl rfl (bxA_one _) AL.out ?_
      intro w8 h8 g8
      have HL8 := Lib.hid h8
      have HH8 := Lib.hid (AH.out.grown g8 (fun e => by injection e with e; omega))
      have HQ8 := Lib.hid (HQ2.out.box hg2 g8)
      clear h8 g8
      refine hK.out _ _ (HQ8.out.b) (fun hT => ?_)
      clear hK hS
      have hS := hT
      clear hT
      refine wpAnyH_ready (rs := [5]) (by kernel_rfl) (by simp) ?_
      refine AllReadyH.cons rfl (fun K hK => ?_) AllReadyH.nil
      rw [if_pos (by rfl)]
      refine wp_store_at 23 (.tmp 6) (.tmp 15) rfl rfl gb rfl (bxA b) (bxA zbx) 4 rfl strX rfl rfl (bxA_one _) HH8.out ?_
      intro w9 h9 g9
      have HH := Lib.hid h9
      have HL := Lib.hid (HL8.out.grown g9 (fun e => by injection e with e; omega))
      have HV := Lib.hid (HQ8.out.box hg3 g9)
      clear h9 g9 HL8 HH8 HQ8
      refine hK.out _ _ (HV.out.b) (fun hT => ?_)
      clear hK hS
      have hS := hT
      clear hT
      refine wpAnyH_done (by kernel_rfl) ?_ _
      clear hS AL AH
      have hgl := hg2
      have hgh := hg3
      obtain ⟨x0, y0, x1, y1⟩ := b
      have hr := right_small h
      clear h
      go_upto_region 4 with fail
      have hS0 : At w9.drew w.heap.size 23 (bxA ⟨x0, y0, x1, y1⟩) := HV.out.b
      have HVd : Hid (HvS w 23 ⟨x0, y0, x1, y1⟩ zbx zbx w9.drew) := ⟨HV.out.b, HV.out.r1, HV.out.r2, HV.out.bel.drew⟩
      have HLd : Hid (At w9.drew ga 23 (bxA ⟨x0, y0, x1, y1⟩)) := HL.out
      have HHd : Hid (At w9.drew gb 23 (bxA ⟨x0, y0, x1, y1⟩)) := HH.out
      clear HV HL HH
      obtain ⟨cw, hcw⟩ : ∃ cw, x1 - x0 = cw := ⟨_, rfl⟩
      obtain ⟨ch, hch⟩ : ∃ ch, y1 - y0 = ch := ⟨_, rfl⟩
      have e1 : wrap64 cw = cw := by unfold wrap64; omega
      have e2 : wrap64 ch = ch := by unfold wrap64; omega
      have e1i : IntKind.i64.wrap cw = cw := by rw [IntKind.wrap_i64]; omega
      have e2i : IntKind.i64.wrap ch = ch := by rw [IntKind.wrap_i64]; omega
      refine wp_region_held_drew (S := fun wz => At wz w.heap.size 23 (bxA ⟨x0, y0, x1, y1⟩)) (by kernel_rfl) hS0 (fun hS => ?_)
      clear hS0
      generalize w9.drew = u0 at HVd HLd HHd hS ⊢
      refine tkS 0 hS ?_
      refine tkS 1 hS ?_ (hy := by intro wz hz; have q0 : wz.cell? ⟨w.heap.size, 0, none⟩ = some (.int .i64 x0) := hz.cell 0; have q1 : wz.cell? ⟨w.heap.size, 1, none⟩ = some (.int .i64 y0) := hz.cell 1; have q2 : wz.cell? ⟨w.heap.size, 2, none⟩ = some (.int .i64 x1) := hz.cell 2; have q3 : wz.cell? ⟨w.heap.size, 3, none⟩ = some (.int .i64 y1) := hz.cell 3; go_simp <;> with_reducible rfl)
      refine tkS 2 hS ?_
      refine tkS 3 hS ?_ (hy := by intro wz hz; have q0 : wz.cell? ⟨w.heap.size, 0, none⟩ = some (.int .i64 x0) := hz.cell 0; have q1 : wz.cell? ⟨w.heap.size, 1, none⟩ = some (.int .i64 y0) := hz.cell 1; have q2 : wz.cell? ⟨w.heap.size, 2, none⟩ = some (.int .i64 x1) := hz.cell 2; have q3 : wz.cell? ⟨w.heap.size, 3, none⟩ = some (.int .i64 y1) := hz.cell 3; go_simp <;> with_reducible rfl)
      refine tkS 4 hS ?_
      refine tkS 5 hS ?_
      refine tkS 6 hS ?_ (hy := by intro wz hz; have q0 : wz.cell? ⟨w.heap.size, 0, none⟩ = some (.int .i64 x0) := hz.cell 0; have q1 : wz.cell? ⟨w.heap.size, 1, none⟩ = some (.int .i64 y0) := hz.cell 1; have q2 : wz.cell? ⟨w.heap.size, 2, none⟩ = some (.int .i64 x1) := hz.cell 2; have q3 : wz.cell? ⟨w.heap.size, 3, none⟩ = some (.int .i64 y1) := hz.cell 3; go_simp <;> with_reducible rfl)
      refine tkS 7 hS ?_
      refine tkS 8 hS ?_ (hy := by intro wz hz; have q0 : wz.cell? ⟨w.heap.size, 0, none⟩ = some (.int .i64 x0) := hz.cell 0; have q1 : wz.cell? ⟨w.heap.size, 1, none⟩ = some (.int .i64 y0) := hz.cell 1; have q2 : wz.cell? ⟨w.heap.size, 2, none⟩ = some (.int .i64 x1) := hz.cell 2; have q3 : wz.cell? ⟨w.heap.size, 3, none⟩ = some (.int .i64 y1) := hz.cell 3; go_simp <;> with_reducible rfl)
      refine tkS 9 hS ?_
      refine tkS 10 hS ?_
      refine tkS 11 hS ?_
      refine wpAnyH_done (by kernel_rfl) ?_ _
      clear hS
      have HV := HVd
      have HL := HLd
      have HH := HHd
      clear HVd HLd HHd
      have b0 : u0.cell? ⟨w.heap.size, 0, none⟩ = some (.int .i64 x0) := HV.out.b.cell 0
      have b1 : u0.cell? ⟨w.heap.size, 1, none⟩ = some (.int .i64 y0) := HV.out.b.cell 1
      by_cases hwd : ch ≤ cw
      · obtain ⟨hf, hhf⟩ : ∃ hf, cw / 2 = hf := ⟨_, rfl⟩
        have d1 : Int.tdiv cw 2 = hf := by rw [Int.tdiv_eq_ediv_of_nonneg (by omega)]; exact hhf
        have d2 : wrap64 hf = hf := by unfold wrap64; omega
        have d2i : IntKind.i64.wrap hf = hf := by rw [IntKind.wrap_i64]; omega
        obtain ⟨md, hmd⟩ : ∃ md, x0 + hf = md := ⟨_, rfl⟩
        have d3 : wrap64 md = md := by unfold wrap64; omega
        have d3i : IntKind.i64.wrap md = md := by rw [IntKind.wrap_i64]; omega
        have HE : Hid (halvesX ⟨x0, y0, x1, y1⟩ = (⟨x0, y0, md, y1⟩, ⟨md, y0, x1, y1⟩, true)) := by
          show _ = _
          rw [HE0.out]
          unfold loX hiX wX hX
          simp only [hcw, hch]
          rw [if_pos hwd, if_pos hwd]
          rw [hhf, hmd]
        clear hhf HE0 hr hcw hch
        have cl : u0.cell? ⟨ga, 2, none⟩ = some (.int .i64 x1) := HL.out.cell 2
        have fl : u0.frozen? ⟨ga, 2, none⟩ = false := HL.out.frozen 2
        go_upto_region 7 with fail
        clear cl fl
        have HV2 := Lib.hid (HV.out.cell hgl 2 (.int .i64 md))
        have HL2 := Lib.hid (HL.out.set 2 (.int .i64 md))
        have HH2 := Lib.hid (HH.out.other (p := ⟨ga, 2, none⟩) (by show gb ≠ ga; omega) (.int .i64 md))
        generalize u0.setCell ⟨ga, 2, none⟩ (.int .i64 md) = u2 at HV2 HL2 HH2 ⊢
        have cl : u2.cell? ⟨ga, 2, none⟩ = some (.int .i64 md) := HL2.out.cell 2
        have ch : u2.cell? ⟨gb, 0, none⟩ = some (.int .i64 x0) := HH2.out.cell 0
        have fh : u2.frozen? ⟨gb, 0, none⟩ = false := HH2.out.frozen 0
        go_upto_region 10 with fail
        clear cl ch fh
        have HV3 := Lib.hid (HV2.out.cell hgh 0 (.int .i64 md))
        have HH3 : Hid (At (u2.setCell ⟨gb, 0, none⟩ (.int .i64 md)) gb 23 (bxA ⟨md, y0, x1, y1⟩)) := HH2.out.set 0 (.int .i64 md)
        have HL3 : Hid (At (u2.setCell ⟨gb, 0, none⟩ (.int .i64 md)) ga 23 (bxA ⟨x0, y0, md, y1⟩)) := HL2.out.other (p := ⟨gb, 0, none⟩) (by show ga ≠ gb; omega) (.int .i64 md)
        generalize u2.setCell ⟨gb, 0, none⟩ (.int .i64 md) = u3 at HV3 HL3 HH3 ⊢
        have hS0 : At u3.drew (ga) 23 (bxA ⟨x0, y0, md, y1⟩) ∧ At u3.drew (gb) 23 (bxA ⟨md, y0, x1, y1⟩) := ⟨HL3.out, HH3.out⟩
        have HP0 : Hid (HvS w 23 ⟨x0, y0, x1, y1⟩ zbx zbx u3.drew) := ⟨HV3.out.b, HV3.out.r1, HV3.out.r2, HV3.out.bel.drew⟩
        refine wp_region_held_drew (S := fun wz => At wz (ga) 23 (bxA ⟨x0, y0, md, y1⟩) ∧ At wz (gb) 23 (bxA ⟨md, y0, x1, y1⟩)) (by kernel_rfl) hS0 (fun hS => ?_)
        clear hS0
        generalize u3.drew = yd at HP0 hS ⊢
        refine tkS (v := .agg (bxA ⟨x0, y0, md, y1⟩)) 0 hS ?_ (hy := by intro wz hz; exact exec_load_at 23 (.tmp 5) rfl (ga) rfl (bxA ⟨x0, y0, md, y1⟩) 4 strX rfl hz.1)
        refine tkS (v := .agg (bxA ⟨md, y0, x1, y1⟩)) 1 hS ?_ (hy := by intro wz hz; exact exec_load_at 23 (.tmp 6) rfl (gb) rfl (bxA ⟨md, y0, x1, y1⟩) 4 strX rfl hz.2)
        refine wpAnyH_ready (rs := [2]) (by kernel_rfl) (by simp) ?_
        refine AllReadyH.cons rfl (fun K hK => ?_) AllReadyH.nil
        rw [if_pos (by rfl)]
        refine wp_store_at 23 (.tmp 2) (.tmp 47) rfl rfl (w.heap.size + 1) rfl (bxA ⟨x0, y0, md, y1⟩) (bxA zbx) 4 rfl strX rfl rfl (bxA_one _) HP0.out.r1 ?_
        intro w8 h8 g8
        have HP8 := Lib.hid (HP0.out.put1 h8 g8)
        have hT8 : At w8 (ga) 23 (bxA ⟨x0, y0, md, y1⟩) ∧ At w8 (gb) 23 (bxA ⟨md, y0, x1, y1⟩) := ⟨hS.1.grown g8 (fun e => by injection e with e; omega), hS.2.grown g8 (fun e => by injection e with e; omega)⟩
        clear h8 g8
        refine hK.out _ _ (hT8) (fun hT => ?_)
        clear hK hS
        have hS := hT
        clear hT
        refine wpAnyH_ready (rs := [3]) (by kernel_rfl) (by simp) ?_
        refine AllReadyH.cons rfl (fun K hK => ?_) AllReadyH.nil
        rw [if_pos (by rfl)]
        refine wp_store_at 23 (.tmp 3) (.tmp 48) rfl rfl (w.heap.size + 2) rfl (bxA ⟨md, y0, x1, y1⟩) (bxA zbx) 4 rfl strX rfl rfl (bxA_one _) HP8.out.r2 ?_
        intro w9 h9 g9
        have HP9 := Lib.hid (HP8.out.put2 h9 g9)
        have hT9 : At w9 (ga) 23 (bxA ⟨x0, y0, md, y1⟩) ∧ At w9 (gb) 23 (bxA ⟨md, y0, x1, y1⟩) := ⟨hS.1.grown g9 (fun e => by injection e with e; omega), hS.2.grown g9 (fun e => by injection e with e; omega)⟩
        clear h9 g9
        refine hK.out _ _ (hT9) (fun hT => ?_)
        clear hK hS
        have hS := hT
        clear hT
        refine tkS 4 hS ?_
        refine wpAnyH_done (by kernel_rfl) ?_ _
        clear hS
        go_wp2_with fail
        rw [HE.out]
        exact bodyPost_ret (results_cct (g := w.heap.size + 1) (gq := w.heap.size + 2) rfl rfl HP9.out.r1 HP9.out.r2 strX rfl rfl rfl rfl) rfl ⟨rfl, HP9.out.bel⟩
      · obtain ⟨hf, hhf⟩ : ∃ hf, ch / 2 = hf := ⟨_, rfl⟩
        have d1 : Int.tdiv ch 2 = hf := by rw [Int.tdiv_eq_ediv_of_nonneg (by omega)]; exact hhf
        have d2 : wrap64 hf = hf := by unfold wrap64; omega
        have d2i : IntKind.i64.wrap hf = hf := by rw [IntKind.wrap_i64]; omega
        obtain ⟨md, hmd⟩ : ∃ md, y0 + hf = md := ⟨_, rfl⟩
        have d3 : wrap64 md = md := by unfold wrap64; omega
        have d3i : IntKind.i64.wrap md = md := by rw [IntKind.wrap_i64]; omega
        have HE : Hid (halvesX ⟨x0, y0, x1, y1⟩ = (⟨x0, y0, x1, md⟩, ⟨x0, md, x1, y1⟩, true)) := by
          show _ = _
          rw [HE0.out]
          unfold loX hiX wX hX
          simp only [hcw, hch]
          rw [if_neg hwd, if_neg hwd]
          rw [hhf, hmd]
        clear hhf HE0 hr hcw hch
        have cl : u0.cell? ⟨ga, 3, none⟩ = some (.int .i64 y1) := HL.out.cell 3
        have fl : u0.frozen? ⟨ga, 3, none⟩ = false := HL.out.frozen 3
        go_upto_region 9 with fail
        clear cl fl
        have HV2 := Lib.hid (HV.out.cell hgl 3 (.int .i64 md))
        have HL2 := Lib.hid (HL.out.set 3 (.int .i64 md))
        have HH2 := Lib.hid (HH.out.other (p := ⟨ga, 3, none⟩) (by show gb ≠ ga; omega) (.int .i64 md))
        generalize u0.setCell ⟨ga, 3, none⟩ (.int .i64 md) = u2 at HV2 HL2 HH2 ⊢
        have cl : u2.cell? ⟨ga, 3, none⟩ = some (.int .i64 md) := HL2.out.cell 3
        have ch : u2.cell? ⟨gb, 1, none⟩ = some (.int .i64 y0) := HH2.out.cell 1
        have fh : u2.frozen? ⟨gb, 1, none⟩ = false := HH2.out.frozen 1
        go_upto_region 10 with fail
        clear cl ch fh
        have HV3 := Lib.hid (HV2.out.cell hgh 1 (.int .i64 md))
        have HH3 : Hid (At (u2.setCell ⟨gb, 1, none⟩ (.int .i64 md)) gb 23 (bxA ⟨x0, md, x1, y1⟩)) := HH2.out.set 1 (.int .i64 md)
        have HL3 : Hid (At (u2.setCell ⟨gb, 1, none⟩ (.int .i64 md)) ga 23 (bxA ⟨x0, y0, x1, md⟩)) := HL2.out.other (p := ⟨gb, 1, none⟩) (by show ga ≠ gb; omega) (.int .i64 md)
        generalize u2.setCell ⟨gb, 1, none⟩ (.int .i64 md) = u3 at HV3 HL3 HH3 ⊢
        have hS0 : At u3.drew (ga) 23 (bxA ⟨x0, y0, x1, md⟩) ∧ At u3.drew (gb) 23 (bxA ⟨x0, md, x1, y1⟩) := ⟨HL3.out, HH3.out⟩
        have HP0 : Hid (HvS w 23 ⟨x0, y0, x1, y1⟩ zbx zbx u3.drew) := ⟨HV3.out.b, HV3.out.r1, HV3.out.r2, HV3.out.bel.drew⟩
        refine wp_region_held_drew (S := fun wz => At wz (ga) 23 (bxA ⟨x0, y0, x1, md⟩) ∧ At wz (gb) 23 (bxA ⟨x0, md, x1, y1⟩)) (by kernel_rfl) hS0 (fun hS => ?_)
        clear hS0
        generalize u3.drew = yd at HP0 hS ⊢
        refine tkS (v := .agg (bxA ⟨x0, y0, x1, md⟩)) 0 hS ?_ (hy := by intro wz hz; exact exec_load_at 23 (.tmp 5) rfl (ga) rfl (bxA ⟨x0, y0, x1, md⟩) 4 strX rfl hz.1)
        refine tkS (v := .agg (bxA ⟨x0, md, x1, y1⟩)) 1 hS ?_ (hy := by intro wz hz; exact exec_load_at 23 (.tmp 6) rfl (gb) rfl (bxA ⟨x0, md, x1, y1⟩) 4 strX rfl hz.2)
        refine wpAnyH_ready (rs := [2]) (by kernel_rfl) (by simp) ?_
        refine AllReadyH.cons rfl (fun K hK => ?_) AllReadyH.nil
        rw [if_pos (by rfl)]
        refine wp_store_at 23 (.tmp 2) (.tmp 47) rfl rfl (w.heap.size + 1) rfl (bxA ⟨x0, y0, x1, md⟩) (bxA zbx) 4 rfl strX rfl rfl (bxA_one _) HP0.out.r1 ?_
        intro w8 h8 g8
        have HP8 := Lib.hid (HP0.out.put1 h8 g8)
        have hT8 : At w8 (ga) 23 (bxA ⟨x0, y0, x1, md⟩) ∧ At w8 (gb) 23 (bxA ⟨x0, md, x1, y1⟩) := ⟨hS.1.grown g8 (fun e => by injection e with e; omega), hS.2.grown g8 (fun e => by injection e with e; omega)⟩
        clear h8 g8
        refine hK.out _ _ (hT8) (fun hT => ?_)
        clear hK hS
        have hS := hT
        clear hT
        refine wpAnyH_ready (rs := [3]) (by kernel_rfl) (by simp) ?_
        refine AllReadyH.cons rfl (fun K hK => ?_) AllReadyH.nil
        rw [if_pos (by rfl)]
        refine wp_store_at 23 (.tmp 3) (.tmp 48) rfl rfl (w.heap.size + 2) rfl (bxA ⟨x0, md, x1, y1⟩) (bxA zbx) 4 rfl strX rfl rfl (bxA_one _) HP8.out.r2 ?_
        intro w9 h9 g9
        have HP9 := Lib.hid (HP8.out.put2 h9 g9)
        have hT9 : At w9 (ga) 23 (bxA ⟨x0, y0, x1, md⟩) ∧ At w9 (gb) 23 (bxA ⟨x0, md, x1, y1⟩) := ⟨hS.1.grown g9 (fun e => by injection e with e; omega), hS.2.grown g9 (fun e => by injection e with e; omega)⟩
        clear h9 g9
        refine hK.out _ _ (hT9) (fun hT => ?_)
        clear hK hS
        have hS := hT
        clear hT
        refine tkS 4 hS ?_
        refine wpAnyH_done (by kernel_rfl) ?_ _
        clear hS
        go_wp2_with fail
        rw [HE.out]
        exact bodyPost_ret (results_cct (g := w.heap.size + 1) (gq := w.heap.size + 2) rfl rfl HP9.out.r1 HP9.out.r2 strX rfl rfl rfl rfl) rfl ⟨rfl, HP9.out.bel⟩
end Go.Proofs.Ytgjkbnplpioloaa
