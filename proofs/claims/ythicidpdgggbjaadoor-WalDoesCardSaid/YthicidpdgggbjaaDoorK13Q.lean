/-
  The walks of Force.
  Conditions: disks of at most 100000 sectors, logs of at most 10000; the disk's fuse is at 0 or never burns.
-/
import Derived.Test.YthicidpdgggbjaaDoorK12Q
namespace Go.Proofs.YthicidpdgggbjaaDoor
open Go.RowKit
set_option maxRecDepth 8000

theorem LogAt.put {X : Nat → Prop} {B : Nat} {w : World} {g gd base size : Nat} {rs : List Er} {fo : Nat} {ws : List Sect} {vE vW : Value} (h : LogAt X B w g gd base size rs fo ws vE vW) (f2 : Nat) :
    LogAt X B ((w.setCell ⟨g, 4, none⟩ (.int .i64 (f2 : Int))).setCell ⟨g, 5, none⟩ (.slice none 0 0)) g gd base size rs f2 [] vE (.slice none 0 0) ∧ Mod (fun k => k = g) w ((w.setCell ⟨g, 4, none⟩ (.int .i64 (f2 : Int))).setCell ⟨g, 5, none⟩ (.slice none 0 0)) := by
  have hm : Mod (fun k => k = g) w ((w.setCell ⟨g, 4, none⟩ (.int .i64 (f2 : Int))).setCell ⟨g, 5, none⟩ (.slice none 0 0)) :=
    Mod.setCell (X := fun k => k = g) (Mod.setCell (X := fun k => k = g) (Mod.refl (fun k => k = g) w) (.inl rfl) _) (.inl rfl) _
  refine ⟨⟨(h.box.set 4 _).set 5 _, own_keep h.oe fun k hk => ?_, World.ownsRow_nil _ _ _ _, fun r hr => (h.els r hr).step (hm.mono fun k _ hk => .inl (.inl hk)) fun k _ hy => ?_, h.low⟩, hm⟩
  · obtain ⟨_, cur, hc⟩ := own_cells h.oe hk
    exact hm.block k (Array.getElem?_eq_some_iff.1 hc).1 fun e => own_ne h.oe h.box (by decide) (by rw [← e]; exact hk.symm)
  · rcases hy with (hy | hy | hy) | hy
    · exact .inl (.inl hy)
    · exact .inl (.inr (.inl hy))
    · cases hy
    · exact .inr hy

/-- A disk whose fuse keeps nothing depends on no blocks but its own. -/
theorem plat_any {X : Nat → Prop} {w : World} {g gs : Nat} {S : List Sect} {wr fu : Int} {dn : Bool} (h : Plat X w g gs S wr fu [] dn) (Y : Nat → Prop) : Plat Y w g gs S wr fu [] dn := by
  obtain ⟨cap, sp, A, c, h⟩ := h
  exact ⟨cap, sp, A, c, h.box, h.row, h.ne, h.cap1, h.cap2, ⟨by simp [BL], fun h => absurd h (Nat.lt_irrefl 0)⟩, h.c1, h.c2⟩

/-- A log written to its disk. -/
def ForceY (X : Nat → Prop) (B : Nat) (w : World) (g gd gs base size : Nat) (S : List Sect) (nw : Int) (rs : List Er) (ws : List Sect) (vE : Value) (p us : Nat) (e : Ending) (w' : World) : Prop :=
  e = .returned (.int .i64 0) ∧ Plat (fun _ => False) w' gd gs (upd S p ws (fun _ => true)) (nw + 1) (-1) [] false ∧ LogAt X B w' g gd base size rs us [] vE (.slice none 0 0) ∧ Mod (fun k => pl_own gd gs k ∨ k = g) w w'
/-- A write that tore. -/
def ForceT (X : Nat → Prop) (B : Nat) (w : World) (g gd gs base size : Nat) (S : List Sect) (nw : Int) (kp : List Bool) (rs : List Er) (fo : Nat) (ws : List Sect) (vE vW : Value) (p : Nat) (e : Ending) (w' : World) : Prop :=
  e = .returned (.int .i64 4) ∧ Plat (fun _ => False) w' gd gs (upd S p ws (fun j => kp.getD j false)) nw (-1) [] true ∧ LogAt X B w' g gd base size rs fo ws vE vW ∧ Mod (pl_own gd gs) w w'

section
variable (X : Nat → Prop) (B : Nat) (w : World) (g gd gs base size : Nat) (S : List Sect) (nw : Int) (kp : List Bool) (rs : List Er) (fo : Nat) (ws : List Sect) (vE vW : Value)
set_option maxHeartbeats 800000 in
theorem force_nil (h : LogAt X B w g gd base size rs fo [] vE vW) : Calls Tryd.prog 12 #[.pointer (some ⟨g, 0, none⟩)] w fun e w' => e = .returned (.int .i64 0) ∧ w = w' := by
  obtain ⟨AE, cE, AW, cW, rfl, rfl, _⟩ := h.sl
  obtain ⟨c0, c1, c2, c3, c4, c5⟩ := h.cells
  clear h
  go_enter Tryd.func12, Tryd.ntmps12
  go_wp2_with fail
  go_ret
  exact ⟨rfl, rfl⟩
set_option maxHeartbeats 1600000 in
theorem force_torn (h : LogAt X B w g gd base size rs fo ws vE vW) (hd : Plat (fun _ => False) w gd gs S nw 0 kp false) (hX : ∀ k, pl_own gd gs k → X k) (hB : ∀ k, pl_own gd gs k → k < B) (hn : S.length ≤ 100000) (hw : 0 < ws.length) (hkp : kp.length ≤ 100000)
    (p : Nat) (hp : p = base + fo) (hi : p + ws.length ≤ S.length) : Calls Tryd.prog 12 #[.pointer (some ⟨g, 0, none⟩)] w (ForceT X B w g gd gs base size S nw kp rs fo ws vE vW p) := by
  obtain ⟨AE, cE, AW, cW, rfl, rfl, _⟩ := h.sl
  obtain ⟨c0, c1, c2, c3, c4, c5⟩ := h.cells
  have HLG := Lib.hid h
  have HXL : Hid (∀ k, XL g (.slice AE rs.length cE) (.slice AW ws.length cW) k → ¬ pl_own gd gs k) := fun k hk hx => by
    have := (h.xlt k hk).2
    have := hB k hx
    omega
  have HXD : Hid (∀ k, k < (w.drewN 1).heap.size → pl_own gd gs k → X k) := fun k _ hk => hX k hk
  have WR := Lib.hid (write_torn (fun _ => False) gd gs S nw kp (w.drewN 1) p ws.length cW ws AW (hd.drewN 1) hn rfl (by omega) hi (Lz.of_own (h.drewN 1).ow hB) hkp (fun _ hk => hk.elim))
  have q0 : ((ws.length : Int) == 0) = false := beq_eq_false_iff_ne.2 (by omega)
  have q1 : decide ((ws.length : Int) = 0) = false := decide_eq_false (by omega)
  have e1 : (base : Int) + (fo : Int) = (p : Int) := by omega
  have e2 : IntKind.i64.wrap (p : Int) = (p : Int) := by rw [IntKind.wrap_i64]; omega
  have hbx := h.box
  clear h hd hX hB hp hi hw hn hkp
  go_enter Tryd.func12, Tryd.ntmps12
  go_wp2_with fail
  refine wp_region_held_drew (S := fun z => At z g 82 #[.pointer (some ⟨gd, 0, none⟩), .int .i64 (base : Int), .int .i64 (size : Int), .slice AE rs.length cE, .int .i64 (fo : Int), .slice AW ws.length cW]) (by kernel_rfl) (hbx.under (B := w.heap.size) ⟨rfl, rfl, rfl, Nat.le_refl _, fun _ _ => rfl⟩ hbx.lt) (fun hS => ?_)
  refine takeH (i := 0) (d := 10) (v := ?vf0) rfl (by kernel_rfl) (by kernel_rfl) (by kernel_rfl) (fun _ _ _ h => h) rfl (by rfl) ?yf0 hS ?rf0
  case yf0 => (intro wz hz; have c0 : wz.cell? ⟨g, 0, none⟩ = some (.pointer (some ⟨gd, 0, none⟩)) := hz.cell 0; have c1 : wz.cell? ⟨g, 1, none⟩ = some (.int .i64 (base : Int)) := hz.cell 1; have c4 : wz.cell? ⟨g, 4, none⟩ = some (.int .i64 (fo : Int)) := hz.cell 4; have c5 : wz.cell? ⟨g, 5, none⟩ = some (.slice AW ws.length cW) := hz.cell 5; go_simp <;> with_reducible rfl)
  simp only [List.setIfInBounds_toArray, List.set_cons_zero, List.set_cons_succ]
  refine takeH (i := 1) (d := 11) (v := ?vf1) rfl (by kernel_rfl) (by kernel_rfl) (by kernel_rfl) (fun _ _ _ h => h) rfl (by rfl) ?yf1 hS ?rf1
  case yf1 => (intro wz hz; have c0 : wz.cell? ⟨g, 0, none⟩ = some (.pointer (some ⟨gd, 0, none⟩)) := hz.cell 0; have c1 : wz.cell? ⟨g, 1, none⟩ = some (.int .i64 (base : Int)) := hz.cell 1; have c4 : wz.cell? ⟨g, 4, none⟩ = some (.int .i64 (fo : Int)) := hz.cell 4; have c5 : wz.cell? ⟨g, 5, none⟩ = some (.slice AW ws.length cW) := hz.cell 5; go_simp <;> with_reducible rfl)
  simp only [List.setIfInBounds_toArray, List.set_cons_zero, List.set_cons_succ]
  refine takeH (i := 2) (d := 12) (v := ?vf2) rfl (by kernel_rfl) (by kernel_rfl) (by kernel_rfl) (fun _ _ _ h => h) rfl (by rfl) ?yf2 hS ?rf2
  case yf2 => (intro wz hz; have c0 : wz.cell? ⟨g, 0, none⟩ = some (.pointer (some ⟨gd, 0, none⟩)) := hz.cell 0; have c1 : wz.cell? ⟨g, 1, none⟩ = some (.int .i64 (base : Int)) := hz.cell 1; have c4 : wz.cell? ⟨g, 4, none⟩ = some (.int .i64 (fo : Int)) := hz.cell 4; have c5 : wz.cell? ⟨g, 5, none⟩ = some (.slice AW ws.length cW) := hz.cell 5; go_simp <;> with_reducible rfl)
  simp only [List.setIfInBounds_toArray, List.set_cons_zero, List.set_cons_succ]
  refine takeH (i := 3) (d := 13) (v := ?vf3) rfl (by kernel_rfl) (by kernel_rfl) (by kernel_rfl) (fun _ _ _ h => h) rfl (by rfl) ?yf3 hS ?rf3
  case yf3 => (intro wz hz; have c0 : wz.cell? ⟨g, 0, none⟩ = some (.pointer (some ⟨gd, 0, none⟩)) := hz.cell 0; have c1 : wz.cell? ⟨g, 1, none⟩ = some (.int .i64 (base : Int)) := hz.cell 1; have c4 : wz.cell? ⟨g, 4, none⟩ = some (.int .i64 (fo : Int)) := hz.cell 4; have c5 : wz.cell? ⟨g, 5, none⟩ = some (.slice AW ws.length cW) := hz.cell 5; go_simp <;> with_reducible rfl)
  simp only [List.setIfInBounds_toArray, List.set_cons_zero, List.set_cons_succ]
  refine takeH (i := 4) (d := 14) (v := ?vf4) rfl (by kernel_rfl) (by kernel_rfl) (by kernel_rfl) (fun _ _ _ h => h) rfl (by rfl) ?yf4 hS ?rf4
  case yf4 => (intro wz hz; have c0 : wz.cell? ⟨g, 0, none⟩ = some (.pointer (some ⟨gd, 0, none⟩)) := hz.cell 0; have c1 : wz.cell? ⟨g, 1, none⟩ = some (.int .i64 (base : Int)) := hz.cell 1; have c4 : wz.cell? ⟨g, 4, none⟩ = some (.int .i64 (fo : Int)) := hz.cell 4; have c5 : wz.cell? ⟨g, 5, none⟩ = some (.slice AW ws.length cW) := hz.cell 5; go_simp <;> with_reducible rfl)
  simp only [List.setIfInBounds_toArray, List.set_cons_zero, List.set_cons_succ]
  refine takeH (i := 5) (d := 15) (v := ?vf5) rfl (by kernel_rfl) (by kernel_rfl) (by kernel_rfl) (fun _ _ _ h => h) rfl (by rfl) ?yf5 hS ?rf5
  case yf5 => (intro wz hz; have c0 : wz.cell? ⟨g, 0, none⟩ = some (.pointer (some ⟨gd, 0, none⟩)) := hz.cell 0; have c1 : wz.cell? ⟨g, 1, none⟩ = some (.int .i64 (base : Int)) := hz.cell 1; have c4 : wz.cell? ⟨g, 4, none⟩ = some (.int .i64 (fo : Int)) := hz.cell 4; have c5 : wz.cell? ⟨g, 5, none⟩ = some (.slice AW ws.length cW) := hz.cell 5; go_simp <;> with_reducible rfl)
  simp only [List.setIfInBounds_toArray, List.set_cons_zero, List.set_cons_succ]
  refine takeH (i := 6) (d := 16) (v := ?vf6) rfl (by kernel_rfl) (by kernel_rfl) (by kernel_rfl) (fun _ _ _ h => h) rfl (by rfl) ?yf6 hS ?rf6
  case yf6 => (intro wz hz; have c0 : wz.cell? ⟨g, 0, none⟩ = some (.pointer (some ⟨gd, 0, none⟩)) := hz.cell 0; have c1 : wz.cell? ⟨g, 1, none⟩ = some (.int .i64 (base : Int)) := hz.cell 1; have c4 : wz.cell? ⟨g, 4, none⟩ = some (.int .i64 (fo : Int)) := hz.cell 4; have c5 : wz.cell? ⟨g, 5, none⟩ = some (.slice AW ws.length cW) := hz.cell 5; go_simp <;> with_reducible rfl)
  simp only [List.setIfInBounds_toArray, List.set_cons_zero, List.set_cons_succ]
  refine takeH (i := 7) (d := 17) (v := ?vf7) rfl (by kernel_rfl) (by kernel_rfl) (by kernel_rfl) (fun _ _ _ h => h) rfl (by rfl) ?yf7 hS ?rf7
  case yf7 => (intro wz hz; have c0 : wz.cell? ⟨g, 0, none⟩ = some (.pointer (some ⟨gd, 0, none⟩)) := hz.cell 0; have c1 : wz.cell? ⟨g, 1, none⟩ = some (.int .i64 (base : Int)) := hz.cell 1; have c4 : wz.cell? ⟨g, 4, none⟩ = some (.int .i64 (fo : Int)) := hz.cell 4; have c5 : wz.cell? ⟨g, 5, none⟩ = some (.slice AW ws.length cW) := hz.cell 5; go_simp <;> with_reducible rfl)
  simp only [List.setIfInBounds_toArray, List.set_cons_zero, List.set_cons_succ]
  refine takeH (i := 8) (d := 18) (v := ?vf8) rfl (by kernel_rfl) (by kernel_rfl) (by kernel_rfl) (fun _ _ _ h => h) rfl (by rfl) ?yf8 hS ?rf8
  case yf8 => (intro wz hz; have c0 : wz.cell? ⟨g, 0, none⟩ = some (.pointer (some ⟨gd, 0, none⟩)) := hz.cell 0; have c1 : wz.cell? ⟨g, 1, none⟩ = some (.int .i64 (base : Int)) := hz.cell 1; have c4 : wz.cell? ⟨g, 4, none⟩ = some (.int .i64 (fo : Int)) := hz.cell 4; have c5 : wz.cell? ⟨g, 5, none⟩ = some (.slice AW ws.length cW) := hz.cell 5; go_simp <;> with_reducible rfl)
  simp only [List.setIfInBounds_toArray, List.set_cons_zero, List.set_cons_succ]
  refine takeH (i := 9) (d := 19) (v := ?vf9) rfl (by kernel_rfl) (by kernel_rfl) (by kernel_rfl) (fun _ _ _ h => h) rfl (by rfl) ?yf9 hS ?rf9
  case yf9 => (intro wz hz; have c0 : wz.cell? ⟨g, 0, none⟩ = some (.pointer (some ⟨gd, 0, none⟩)) := hz.cell 0; have c1 : wz.cell? ⟨g, 1, none⟩ = some (.int .i64 (base : Int)) := hz.cell 1; have c4 : wz.cell? ⟨g, 4, none⟩ = some (.int .i64 (fo : Int)) := hz.cell 4; have c5 : wz.cell? ⟨g, 5, none⟩ = some (.slice AW ws.length cW) := hz.cell 5; go_simp <;> with_reducible rfl)
  simp only [List.setIfInBounds_toArray, List.set_cons_zero, List.set_cons_succ]
  refine takeH (i := 10) (d := 20) (v := ?vf10) rfl (by kernel_rfl) (by kernel_rfl) (by kernel_rfl) (fun _ _ _ h => h) rfl (by rfl) ?yf10 hS ?rf10
  case yf10 => (intro wz hz; have c0 : wz.cell? ⟨g, 0, none⟩ = some (.pointer (some ⟨gd, 0, none⟩)) := hz.cell 0; have c1 : wz.cell? ⟨g, 1, none⟩ = some (.int .i64 (base : Int)) := hz.cell 1; have c4 : wz.cell? ⟨g, 4, none⟩ = some (.int .i64 (fo : Int)) := hz.cell 4; have c5 : wz.cell? ⟨g, 5, none⟩ = some (.slice AW ws.length cW) := hz.cell 5; go_simp <;> with_reducible rfl)
  simp only [List.setIfInBounds_toArray, List.set_cons_zero, List.set_cons_succ]
  refine takeH (i := 11) (d := 21) (v := ?vf11) rfl (by kernel_rfl) (by kernel_rfl) (by kernel_rfl) (fun _ _ _ h => h) rfl (by rfl) ?yf11 hS ?rf11
  case yf11 => (intro wz hz; have c0 : wz.cell? ⟨g, 0, none⟩ = some (.pointer (some ⟨gd, 0, none⟩)) := hz.cell 0; have c1 : wz.cell? ⟨g, 1, none⟩ = some (.int .i64 (base : Int)) := hz.cell 1; have c4 : wz.cell? ⟨g, 4, none⟩ = some (.int .i64 (fo : Int)) := hz.cell 4; have c5 : wz.cell? ⟨g, 5, none⟩ = some (.slice AW ws.length cW) := hz.cell 5; go_simp <;> with_reducible rfl)
  simp only [List.setIfInBounds_toArray, List.set_cons_zero, List.set_cons_succ]
  refine takeH (i := 12) (d := 22) (v := ?vf12) rfl (by kernel_rfl) (by kernel_rfl) (by kernel_rfl) (fun _ _ _ h => h) rfl (by rfl) ?yf12 hS ?rf12
  case yf12 => (intro wz hz; have c0 : wz.cell? ⟨g, 0, none⟩ = some (.pointer (some ⟨gd, 0, none⟩)) := hz.cell 0; have c1 : wz.cell? ⟨g, 1, none⟩ = some (.int .i64 (base : Int)) := hz.cell 1; have c4 : wz.cell? ⟨g, 4, none⟩ = some (.int .i64 (fo : Int)) := hz.cell 4; have c5 : wz.cell? ⟨g, 5, none⟩ = some (.slice AW ws.length cW) := hz.cell 5; go_simp <;> with_reducible rfl)
  simp only [List.setIfInBounds_toArray, List.set_cons_zero, List.set_cons_succ]
  refine takeH (i := 13) (d := 23) (v := ?vf13) rfl (by kernel_rfl) (by kernel_rfl) (by kernel_rfl) (fun _ _ _ h => h) rfl (by rfl) ?yf13 hS ?rf13
  case yf13 => (intro wz hz; have c0 : wz.cell? ⟨g, 0, none⟩ = some (.pointer (some ⟨gd, 0, none⟩)) := hz.cell 0; have c1 : wz.cell? ⟨g, 1, none⟩ = some (.int .i64 (base : Int)) := hz.cell 1; have c4 : wz.cell? ⟨g, 4, none⟩ = some (.int .i64 (fo : Int)) := hz.cell 4; have c5 : wz.cell? ⟨g, 5, none⟩ = some (.slice AW ws.length cW) := hz.cell 5; go_simp <;> with_reducible rfl)
  simp only [List.setIfInBounds_toArray, List.set_cons_zero, List.set_cons_succ]
  refine takeH (i := 14) (d := 24) (v := ?vf14) rfl (by kernel_rfl) (by kernel_rfl) (by kernel_rfl) (fun _ _ _ h => h) rfl (by rfl) ?yf14 hS ?rf14
  case yf14 => (intro wz hz; have c0 : wz.cell? ⟨g, 0, none⟩ = some (.pointer (some ⟨gd, 0, none⟩)) := hz.cell 0; have c1 : wz.cell? ⟨g, 1, none⟩ = some (.int .i64 (base : Int)) := hz.cell 1; have c4 : wz.cell? ⟨g, 4, none⟩ = some (.int .i64 (fo : Int)) := hz.cell 4; have c5 : wz.cell? ⟨g, 5, none⟩ = some (.slice AW ws.length cW) := hz.cell 5; go_simp <;> with_reducible rfl)
  simp only [List.setIfInBounds_toArray, List.set_cons_zero, List.set_cons_succ]
  refine takeH (i := 15) (d := 25) (v := ?vf15) rfl (by kernel_rfl) (by kernel_rfl) (by kernel_rfl) (fun _ _ _ h => h) rfl (by rfl) ?yf15 hS ?rf15
  case yf15 => (intro wz hz; have c0 : wz.cell? ⟨g, 0, none⟩ = some (.pointer (some ⟨gd, 0, none⟩)) := hz.cell 0; have c1 : wz.cell? ⟨g, 1, none⟩ = some (.int .i64 (base : Int)) := hz.cell 1; have c4 : wz.cell? ⟨g, 4, none⟩ = some (.int .i64 (fo : Int)) := hz.cell 4; have c5 : wz.cell? ⟨g, 5, none⟩ = some (.slice AW ws.length cW) := hz.cell 5; go_simp <;> with_reducible rfl)
  simp only [List.setIfInBounds_toArray, List.set_cons_zero, List.set_cons_succ]
  refine takeH (i := 16) (d := 26) (v := ?vf16) rfl (by kernel_rfl) (by kernel_rfl) (by kernel_rfl) (fun _ _ _ h => h) rfl (by rfl) ?yf16 hS ?rf16
  case yf16 => (intro wz hz; have c0 : wz.cell? ⟨g, 0, none⟩ = some (.pointer (some ⟨gd, 0, none⟩)) := hz.cell 0; have c1 : wz.cell? ⟨g, 1, none⟩ = some (.int .i64 (base : Int)) := hz.cell 1; have c4 : wz.cell? ⟨g, 4, none⟩ = some (.int .i64 (fo : Int)) := hz.cell 4; have c5 : wz.cell? ⟨g, 5, none⟩ = some (.slice AW ws.length cW) := hz.cell 5; go_simp <;> with_reducible rfl)
  simp only [List.setIfInBounds_toArray, List.set_cons_zero, List.set_cons_succ]
  refine wpAnyH_ready (rs := [17]) (by kernel_rfl) (by simp) ?_
  refine AllReadyH.cons rfl (fun K hK => ?_) AllReadyH.nil
  go_simp
  refine WR.out.mono ?_
  rintro e w1 ⟨rfl, hp1, hm1⟩
  have HP := Lib.hid hp1
  have HM := Lib.hid (show Mod (pl_own gd gs) w w1 from (show Mod (pl_own gd gs) w (w.drewN 1) from (Mod.refl _ w).drewN 1).trans hm1)
  have HL1 := Lib.hid ((HLG.out.drewN 1).kept hm1 HXL.out HXD.out)
  have hb : True := trivial
  clear hp1 hm1
  refine hK.out _ _ (HL1.out.box) (fun hT => ?_)
  clear hK hb hS
  have hS := hT
  clear hT
  refine takeH (i := 18) (d := 3) (v := ?vf18) rfl (by kernel_rfl) (by kernel_rfl) (by kernel_rfl) (fun _ _ _ h => h) rfl (by rfl) ?yf18 hS ?rf18
  case yf18 => (intro wz hz; have c0 : wz.cell? ⟨g, 0, none⟩ = some (.pointer (some ⟨gd, 0, none⟩)) := hz.cell 0; have c1 : wz.cell? ⟨g, 1, none⟩ = some (.int .i64 (base : Int)) := hz.cell 1; have c4 : wz.cell? ⟨g, 4, none⟩ = some (.int .i64 (fo : Int)) := hz.cell 4; have c5 : wz.cell? ⟨g, 5, none⟩ = some (.slice AW ws.length cW) := hz.cell 5; go_simp <;> with_reducible rfl)
  simp only [List.setIfInBounds_toArray, List.set_cons_zero, List.set_cons_succ]
  refine wpAnyH_done (by kernel_rfl) ?_ _
  clear hS hbx
  go_wp2_with fail
  go_ret
  exact ⟨rfl, HP.out, HL1.out, HM.out⟩
set_option maxHeartbeats 1600000 in
theorem force_ok (h : LogAt X B w g gd base size rs fo ws vE vW) (hd : Plat (fun _ => False) w gd gs S nw (-1) [] false) (hX : ∀ k, pl_own gd gs k → X k) (hB : ∀ k, pl_own gd gs k → k < B) (hn : S.length ≤ 100000) (hw : 0 < ws.length) (hf : fo ≤ 10000) (hwl : ws.length ≤ 10000)
    (hw0 : 0 ≤ nw) (hw1 : nw ≤ 1000000) (p : Nat) (hp : p = base + fo) (us : Nat) (hu : us = fo + ws.length) (hi : p + ws.length ≤ S.length) : Calls Tryd.prog 12 #[.pointer (some ⟨g, 0, none⟩)] w (ForceY X B w g gd gs base size S nw rs ws vE p us) := by
  obtain ⟨AE, cE, AW, cW, rfl, rfl, _⟩ := h.sl
  obtain ⟨c0, c1, c2, c3, c4, c5⟩ := h.cells
  have HLG := Lib.hid h
  have HXL : Hid (∀ k, XL g (.slice AE rs.length cE) (.slice AW ws.length cW) k → ¬ pl_own gd gs k) := fun k hk hx => by
    have := (h.xlt k hk).2
    have := hB k hx
    omega
  have HNE := Lib.hid (show g ≠ gd ∧ g ≠ gs from ⟨fun e => by have := h.low; have := hB gd (.inl rfl); omega, fun e => by have := h.low; have := hB gs (.inr rfl); omega⟩)
  have HXD : Hid (∀ k, k < (w.drewN 1).heap.size → pl_own gd gs k → X k) := fun k _ hk => hX k hk
  have WR := Lib.hid (write_ok (fun _ => False) gd gs S nw (-1) [] (w.drewN 1) p ws.length cW ws AW (hd.drewN 1) hn rfl (by omega) hi (Lz.of_own (h.drewN 1).ow hB) (by decide) (by decide) (by decide) hw0 hw1)
  rw [if_neg (by decide)] at WR
  have q0 : ((ws.length : Int) == 0) = false := beq_eq_false_iff_ne.2 (by omega)
  have q1 : decide ((ws.length : Int) = 0) = false := decide_eq_false (by omega)
  have e1 : (base : Int) + (fo : Int) = (p : Int) := by omega
  have e2 : IntKind.i64.wrap (p : Int) = (p : Int) := by rw [IntKind.wrap_i64]; omega
  have HF := Lib.hid (show fo ≤ 100000 by omega)
  have HW := Lib.hid (show ws.length ≤ 100000 by omega)
  have HU := Lib.hid hu
  have hbx := h.box
  clear h hd hX hB hp hi hw hn hu hf hwl hw0 hw1
  go_enter Tryd.func12, Tryd.ntmps12
  go_wp2_with fail
  refine wp_region_held_drew (S := fun z => At z g 82 #[.pointer (some ⟨gd, 0, none⟩), .int .i64 (base : Int), .int .i64 (size : Int), .slice AE rs.length cE, .int .i64 (fo : Int), .slice AW ws.length cW]) (by kernel_rfl) (hbx.under (B := w.heap.size) ⟨rfl, rfl, rfl, Nat.le_refl _, fun _ _ => rfl⟩ hbx.lt) (fun hS => ?_)
  refine takeH (i := 0) (d := 10) (v := ?vf0) rfl (by kernel_rfl) (by kernel_rfl) (by kernel_rfl) (fun _ _ _ h => h) rfl (by rfl) ?yf0 hS ?rf0
  case yf0 => (intro wz hz; have c0 : wz.cell? ⟨g, 0, none⟩ = some (.pointer (some ⟨gd, 0, none⟩)) := hz.cell 0; have c1 : wz.cell? ⟨g, 1, none⟩ = some (.int .i64 (base : Int)) := hz.cell 1; have c4 : wz.cell? ⟨g, 4, none⟩ = some (.int .i64 (fo : Int)) := hz.cell 4; have c5 : wz.cell? ⟨g, 5, none⟩ = some (.slice AW ws.length cW) := hz.cell 5; go_simp <;> with_reducible rfl)
  simp only [List.setIfInBounds_toArray, List.set_cons_zero, List.set_cons_succ]
  refine takeH (i := 1) (d := 11) (v := ?vf1) rfl (by kernel_rfl) (by kernel_rfl) (by kernel_rfl) (fun _ _ _ h => h) rfl (by rfl) ?yf1 hS ?rf1
  case yf1 => (intro wz hz; have c0 : wz.cell? ⟨g, 0, none⟩ = some (.pointer (some ⟨gd, 0, none⟩)) := hz.cell 0; have c1 : wz.cell? ⟨g, 1, none⟩ = some (.int .i64 (base : Int)) := hz.cell 1; have c4 : wz.cell? ⟨g, 4, none⟩ = some (.int .i64 (fo : Int)) := hz.cell 4; have c5 : wz.cell? ⟨g, 5, none⟩ = some (.slice AW ws.length cW) := hz.cell 5; go_simp <;> with_reducible rfl)
  simp only [List.setIfInBounds_toArray, List.set_cons_zero, List.set_cons_succ]
  refine takeH (i := 2) (d := 12) (v := ?vf2) rfl (by kernel_rfl) (by kernel_rfl) (by kernel_rfl) (fun _ _ _ h => h) rfl (by rfl) ?yf2 hS ?rf2
  case yf2 => (intro wz hz; have c0 : wz.cell? ⟨g, 0, none⟩ = some (.pointer (some ⟨gd, 0, none⟩)) := hz.cell 0; have c1 : wz.cell? ⟨g, 1, none⟩ = some (.int .i64 (base : Int)) := hz.cell 1; have c4 : wz.cell? ⟨g, 4, none⟩ = some (.int .i64 (fo : Int)) := hz.cell 4; have c5 : wz.cell? ⟨g, 5, none⟩ = some (.slice AW ws.length cW) := hz.cell 5; go_simp <;> with_reducible rfl)
  simp only [List.setIfInBounds_toArray, List.set_cons_zero, List.set_cons_succ]
  refine takeH (i := 3) (d := 13) (v := ?vf3) rfl (by kernel_rfl) (by kernel_rfl) (by kernel_rfl) (fun _ _ _ h => h) rfl (by rfl) ?yf3 hS ?rf3
  case yf3 => (intro wz hz; have c0 : wz.cell? ⟨g, 0, none⟩ = some (.pointer (some ⟨gd, 0, none⟩)) := hz.cell 0; have c1 : wz.cell? ⟨g, 1, none⟩ = some (.int .i64 (base : Int)) := hz.cell 1; have c4 : wz.cell? ⟨g, 4, none⟩ = some (.int .i64 (fo : Int)) := hz.cell 4; have c5 : wz.cell? ⟨g, 5, none⟩ = some (.slice AW ws.length cW) := hz.cell 5; go_simp <;> with_reducible rfl)
  simp only [List.setIfInBounds_toArray, List.set_cons_zero, List.set_cons_succ]
  refine takeH (i := 4) (d := 14) (v := ?vf4) rfl (by kernel_rfl) (by kernel_rfl) (by kernel_rfl) (fun _ _ _ h => h) rfl (by rfl) ?yf4 hS ?rf4
  case yf4 => (intro wz hz; have c0 : wz.cell? ⟨g, 0, none⟩ = some (.pointer (some ⟨gd, 0, none⟩)) := hz.cell 0; have c1 : wz.cell? ⟨g, 1, none⟩ = some (.int .i64 (base : Int)) := hz.cell 1; have c4 : wz.cell? ⟨g, 4, none⟩ = some (.int .i64 (fo : Int)) := hz.cell 4; have c5 : wz.cell? ⟨g, 5, none⟩ = some (.slice AW ws.length cW) := hz.cell 5; go_simp <;> with_reducible rfl)
  simp only [List.setIfInBounds_toArray, List.set_cons_zero, List.set_cons_succ]
  refine takeH (i := 5) (d := 15) (v := ?vf5) rfl (by kernel_rfl) (by kernel_rfl) (by kernel_rfl) (fun _ _ _ h => h) rfl (by rfl) ?yf5 hS ?rf5
  case yf5 => (intro wz hz; have c0 : wz.cell? ⟨g, 0, none⟩ = some (.pointer (some ⟨gd, 0, none⟩)) := hz.cell 0; have c1 : wz.cell? ⟨g, 1, none⟩ = some (.int .i64 (base : Int)) := hz.cell 1; have c4 : wz.cell? ⟨g, 4, none⟩ = some (.int .i64 (fo : Int)) := hz.cell 4; have c5 : wz.cell? ⟨g, 5, none⟩ = some (.slice AW ws.length cW) := hz.cell 5; go_simp <;> with_reducible rfl)
  simp only [List.setIfInBounds_toArray, List.set_cons_zero, List.set_cons_succ]
  refine takeH (i := 6) (d := 16) (v := ?vf6) rfl (by kernel_rfl) (by kernel_rfl) (by kernel_rfl) (fun _ _ _ h => h) rfl (by rfl) ?yf6 hS ?rf6
  case yf6 => (intro wz hz; have c0 : wz.cell? ⟨g, 0, none⟩ = some (.pointer (some ⟨gd, 0, none⟩)) := hz.cell 0; have c1 : wz.cell? ⟨g, 1, none⟩ = some (.int .i64 (base : Int)) := hz.cell 1; have c4 : wz.cell? ⟨g, 4, none⟩ = some (.int .i64 (fo : Int)) := hz.cell 4; have c5 : wz.cell? ⟨g, 5, none⟩ = some (.slice AW ws.length cW) := hz.cell 5; go_simp <;> with_reducible rfl)
  simp only [List.setIfInBounds_toArray, List.set_cons_zero, List.set_cons_succ]
  refine takeH (i := 7) (d := 17) (v := ?vf7) rfl (by kernel_rfl) (by kernel_rfl) (by kernel_rfl) (fun _ _ _ h => h) rfl (by rfl) ?yf7 hS ?rf7
  case yf7 => (intro wz hz; have c0 : wz.cell? ⟨g, 0, none⟩ = some (.pointer (some ⟨gd, 0, none⟩)) := hz.cell 0; have c1 : wz.cell? ⟨g, 1, none⟩ = some (.int .i64 (base : Int)) := hz.cell 1; have c4 : wz.cell? ⟨g, 4, none⟩ = some (.int .i64 (fo : Int)) := hz.cell 4; have c5 : wz.cell? ⟨g, 5, none⟩ = some (.slice AW ws.length cW) := hz.cell 5; go_simp <;> with_reducible rfl)
  simp only [List.setIfInBounds_toArray, List.set_cons_zero, List.set_cons_succ]
  refine takeH (i := 8) (d := 18) (v := ?vf8) rfl (by kernel_rfl) (by kernel_rfl) (by kernel_rfl) (fun _ _ _ h => h) rfl (by rfl) ?yf8 hS ?rf8
  case yf8 => (intro wz hz; have c0 : wz.cell? ⟨g, 0, none⟩ = some (.pointer (some ⟨gd, 0, none⟩)) := hz.cell 0; have c1 : wz.cell? ⟨g, 1, none⟩ = some (.int .i64 (base : Int)) := hz.cell 1; have c4 : wz.cell? ⟨g, 4, none⟩ = some (.int .i64 (fo : Int)) := hz.cell 4; have c5 : wz.cell? ⟨g, 5, none⟩ = some (.slice AW ws.length cW) := hz.cell 5; go_simp <;> with_reducible rfl)
  simp only [List.setIfInBounds_toArray, List.set_cons_zero, List.set_cons_succ]
  refine takeH (i := 9) (d := 19) (v := ?vf9) rfl (by kernel_rfl) (by kernel_rfl) (by kernel_rfl) (fun _ _ _ h => h) rfl (by rfl) ?yf9 hS ?rf9
  case yf9 => (intro wz hz; have c0 : wz.cell? ⟨g, 0, none⟩ = some (.pointer (some ⟨gd, 0, none⟩)) := hz.cell 0; have c1 : wz.cell? ⟨g, 1, none⟩ = some (.int .i64 (base : Int)) := hz.cell 1; have c4 : wz.cell? ⟨g, 4, none⟩ = some (.int .i64 (fo : Int)) := hz.cell 4; have c5 : wz.cell? ⟨g, 5, none⟩ = some (.slice AW ws.length cW) := hz.cell 5; go_simp <;> with_reducible rfl)
  simp only [List.setIfInBounds_toArray, List.set_cons_zero, List.set_cons_succ]
  refine takeH (i := 10) (d := 20) (v := ?vf10) rfl (by kernel_rfl) (by kernel_rfl) (by kernel_rfl) (fun _ _ _ h => h) rfl (by rfl) ?yf10 hS ?rf10
  case yf10 => (intro wz hz; have c0 : wz.cell? ⟨g, 0, none⟩ = some (.pointer (some ⟨gd, 0, none⟩)) := hz.cell 0; have c1 : wz.cell? ⟨g, 1, none⟩ = some (.int .i64 (base : Int)) := hz.cell 1; have c4 : wz.cell? ⟨g, 4, none⟩ = some (.int .i64 (fo : Int)) := hz.cell 4; have c5 : wz.cell? ⟨g, 5, none⟩ = some (.slice AW ws.length cW) := hz.cell 5; go_simp <;> with_reducible rfl)
  simp only [List.setIfInBounds_toArray, List.set_cons_zero, List.set_cons_succ]
  refine takeH (i := 11) (d := 21) (v := ?vf11) rfl (by kernel_rfl) (by kernel_rfl) (by kernel_rfl) (fun _ _ _ h => h) rfl (by rfl) ?yf11 hS ?rf11
  case yf11 => (intro wz hz; have c0 : wz.cell? ⟨g, 0, none⟩ = some (.pointer (some ⟨gd, 0, none⟩)) := hz.cell 0; have c1 : wz.cell? ⟨g, 1, none⟩ = some (.int .i64 (base : Int)) := hz.cell 1; have c4 : wz.cell? ⟨g, 4, none⟩ = some (.int .i64 (fo : Int)) := hz.cell 4; have c5 : wz.cell? ⟨g, 5, none⟩ = some (.slice AW ws.length cW) := hz.cell 5; go_simp <;> with_reducible rfl)
  simp only [List.setIfInBounds_toArray, List.set_cons_zero, List.set_cons_succ]
  refine takeH (i := 12) (d := 22) (v := ?vf12) rfl (by kernel_rfl) (by kernel_rfl) (by kernel_rfl) (fun _ _ _ h => h) rfl (by rfl) ?yf12 hS ?rf12
  case yf12 => (intro wz hz; have c0 : wz.cell? ⟨g, 0, none⟩ = some (.pointer (some ⟨gd, 0, none⟩)) := hz.cell 0; have c1 : wz.cell? ⟨g, 1, none⟩ = some (.int .i64 (base : Int)) := hz.cell 1; have c4 : wz.cell? ⟨g, 4, none⟩ = some (.int .i64 (fo : Int)) := hz.cell 4; have c5 : wz.cell? ⟨g, 5, none⟩ = some (.slice AW ws.length cW) := hz.cell 5; go_simp <;> with_reducible rfl)
  simp only [List.setIfInBounds_toArray, List.set_cons_zero, List.set_cons_succ]
  refine takeH (i := 13) (d := 23) (v := ?vf13) rfl (by kernel_rfl) (by kernel_rfl) (by kernel_rfl) (fun _ _ _ h => h) rfl (by rfl) ?yf13 hS ?rf13
  case yf13 => (intro wz hz; have c0 : wz.cell? ⟨g, 0, none⟩ = some (.pointer (some ⟨gd, 0, none⟩)) := hz.cell 0; have c1 : wz.cell? ⟨g, 1, none⟩ = some (.int .i64 (base : Int)) := hz.cell 1; have c4 : wz.cell? ⟨g, 4, none⟩ = some (.int .i64 (fo : Int)) := hz.cell 4; have c5 : wz.cell? ⟨g, 5, none⟩ = some (.slice AW ws.length cW) := hz.cell 5; go_simp <;> with_reducible rfl)
  simp only [List.setIfInBounds_toArray, List.set_cons_zero, List.set_cons_succ]
  refine takeH (i := 14) (d := 24) (v := ?vf14) rfl (by kernel_rfl) (by kernel_rfl) (by kernel_rfl) (fun _ _ _ h => h) rfl (by rfl) ?yf14 hS ?rf14
  case yf14 => (intro wz hz; have c0 : wz.cell? ⟨g, 0, none⟩ = some (.pointer (some ⟨gd, 0, none⟩)) := hz.cell 0; have c1 : wz.cell? ⟨g, 1, none⟩ = some (.int .i64 (base : Int)) := hz.cell 1; have c4 : wz.cell? ⟨g, 4, none⟩ = some (.int .i64 (fo : Int)) := hz.cell 4; have c5 : wz.cell? ⟨g, 5, none⟩ = some (.slice AW ws.length cW) := hz.cell 5; go_simp <;> with_reducible rfl)
  simp only [List.setIfInBounds_toArray, List.set_cons_zero, List.set_cons_succ]
  refine takeH (i := 15) (d := 25) (v := ?vf15) rfl (by kernel_rfl) (by kernel_rfl) (by kernel_rfl) (fun _ _ _ h => h) rfl (by rfl) ?yf15 hS ?rf15
  case yf15 => (intro wz hz; have c0 : wz.cell? ⟨g, 0, none⟩ = some (.pointer (some ⟨gd, 0, none⟩)) := hz.cell 0; have c1 : wz.cell? ⟨g, 1, none⟩ = some (.int .i64 (base : Int)) := hz.cell 1; have c4 : wz.cell? ⟨g, 4, none⟩ = some (.int .i64 (fo : Int)) := hz.cell 4; have c5 : wz.cell? ⟨g, 5, none⟩ = some (.slice AW ws.length cW) := hz.cell 5; go_simp <;> with_reducible rfl)
  simp only [List.setIfInBounds_toArray, List.set_cons_zero, List.set_cons_succ]
  refine takeH (i := 16) (d := 26) (v := ?vf16) rfl (by kernel_rfl) (by kernel_rfl) (by kernel_rfl) (fun _ _ _ h => h) rfl (by rfl) ?yf16 hS ?rf16
  case yf16 => (intro wz hz; have c0 : wz.cell? ⟨g, 0, none⟩ = some (.pointer (some ⟨gd, 0, none⟩)) := hz.cell 0; have c1 : wz.cell? ⟨g, 1, none⟩ = some (.int .i64 (base : Int)) := hz.cell 1; have c4 : wz.cell? ⟨g, 4, none⟩ = some (.int .i64 (fo : Int)) := hz.cell 4; have c5 : wz.cell? ⟨g, 5, none⟩ = some (.slice AW ws.length cW) := hz.cell 5; go_simp <;> with_reducible rfl)
  simp only [List.setIfInBounds_toArray, List.set_cons_zero, List.set_cons_succ]
  refine wpAnyH_ready (rs := [17]) (by kernel_rfl) (by simp) ?_
  refine AllReadyH.cons rfl (fun K hK => ?_) AllReadyH.nil
  go_simp
  refine WR.out.mono ?_
  rintro e w1 ⟨rfl, hp1, hm1⟩
  have HP := Lib.hid hp1
  have HM := Lib.hid (show Mod (pl_own gd gs) w w1 from (show Mod (pl_own gd gs) w (w.drewN 1) from (Mod.refl _ w).drewN 1).trans hm1)
  have HL1 := Lib.hid ((HLG.out.drewN 1).kept hm1 HXL.out HXD.out)
  have hb : True := trivial
  clear hp1 hm1
  refine hK.out _ _ (HL1.out.box) (fun hT => ?_)
  clear hK hb hS
  have hS := hT
  clear hT
  refine takeH (i := 18) (d := 3) (v := ?vf18) rfl (by kernel_rfl) (by kernel_rfl) (by kernel_rfl) (fun _ _ _ h => h) rfl (by rfl) ?yf18 hS ?rf18
  case yf18 => (intro wz hz; have c0 : wz.cell? ⟨g, 0, none⟩ = some (.pointer (some ⟨gd, 0, none⟩)) := hz.cell 0; have c1 : wz.cell? ⟨g, 1, none⟩ = some (.int .i64 (base : Int)) := hz.cell 1; have c4 : wz.cell? ⟨g, 4, none⟩ = some (.int .i64 (fo : Int)) := hz.cell 4; have c5 : wz.cell? ⟨g, 5, none⟩ = some (.slice AW ws.length cW) := hz.cell 5; go_simp <;> with_reducible rfl)
  simp only [List.setIfInBounds_toArray, List.set_cons_zero, List.set_cons_succ]
  refine wpAnyH_done (by kernel_rfl) ?_ _
  clear hS hbx c0 c1 c2 c3 c4 c5
  go_wp2_with (first
    | (go_at_call 29
       refine (lused_any X B w1 g gd base size rs fo ws _ _ HL1.out HF.out HW.out us HU.out).mono ?_
       rintro e w2 ⟨rfl, n2, rfl⟩
       have HL2 := Lib.hid (HL1.out.drewN n2)
       have HP2 := Lib.hid (HP.out.drewN n2)
       have HM2 := Lib.hid (show Mod (pl_own gd gs) w (w1.drewN n2) from HM.out.drewN n2)
       generalize w1.drewN n2 = z2 at *
       have k4 : z2.cell? ⟨g, 4, none⟩ = some (.int .i64 (fo : Int)) := HL2.out.cells.2.2.2.2.1
       have k5 : z2.cell? ⟨g, 5, none⟩ = some (.slice AW ws.length cW) := HL2.out.cells.2.2.2.2.2
       have j4 : z2.frozen? ⟨g, 4, none⟩ = false := HL2.out.box.frozen 4
       have j5 : z2.frozen? ⟨g, 5, none⟩ = false := HL2.out.box.frozen 5))
  go_ret
  obtain ⟨L3, M3⟩ := HL2.out.put us
  exact ⟨rfl, ((plat_any HP2.out (fun k => k = g)).kept M3 (fun e => HNE.out.1 e.symm) (fun e => HNE.out.2 e.symm) (fun _ _ hx => hx)).mono (fun _ _ hx => hx.elim), L3, (HM2.out.mono fun k _ hk => .inl hk).trans (M3.mono fun k _ hk => .inr hk)⟩
end
end Go.Proofs.YthicidpdgggbjaaDoor
