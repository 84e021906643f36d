/-
  A log in memory, and the walks of Used, Left, Next and Forced.
  Conditions: logs of at most 100000 sectors.
-/
import Derived.Test.YthicidpdgggbjaaDoorK8Q
import Derived.BigQuiet
import Derived.Deep.QuietTactic
namespace Go.Proofs.YthicidpdgggbjaaDoor
open Go.RowKit
set_option maxRecDepth 8000

/-- The blocks of a log that may turn: its box, the rows of its entries and of the sectors that wait. -/
def XL (g : Nat) (vE vW : Value) : Nat → Prop := fun k => k = g ∨ vE.ownBlock = some k ∨ vW.ownBlock = some k
/-- Block g is a log on the disk in block gd; its rows lie at or above B, the slices of its entries outside its own blocks and X. -/
structure LogAt (X : Nat → Prop) (B : Nat) (w : World) (g gd base size : Nat) (rs : List Er) (fo : Nat) (ws : List Sect) (vE vW : Value) : Prop where
  box : At w g 82 #[.pointer (some ⟨gd, 0, none⟩), .int .i64 (base : Int), .int .i64 (size : Int), vE, .int .i64 (fo : Int), vW]
  oe : w.ownsRow B 42 13 vE rs.length (flatE rs)
  ow : w.ownsRow B 68 64 vW ws.length (flat ws)
  els : ∀ r ∈ rs, ELz (fun k => XL g vE vW k ∨ X k) w r
  low : B ≤ g
section
variable {X Y : Nat → Prop} {B : Nat} {w w' : World} {g gd base size : Nat} {rs : List Er} {fo : Nat} {ws : List Sect} {vE vW : Value}
theorem LogAt.cells (h : LogAt X B w g gd base size rs fo ws vE vW) : w.cell? ⟨g, 0, none⟩ = some (.pointer (some ⟨gd, 0, none⟩)) ∧ w.cell? ⟨g, 1, none⟩ = some (.int .i64 (base : Int)) ∧ w.cell? ⟨g, 2, none⟩ = some (.int .i64 (size : Int)) ∧
    w.cell? ⟨g, 3, none⟩ = some vE ∧ w.cell? ⟨g, 4, none⟩ = some (.int .i64 (fo : Int)) ∧ w.cell? ⟨g, 5, none⟩ = some vW :=
  ⟨h.box.cell 0, h.box.cell 1, h.box.cell 2, h.box.cell 3, h.box.cell 4, h.box.cell 5⟩
theorem LogAt.sl (h : LogAt X B w g gd base size rs fo ws vE vW) : ∃ AE cE AW cW, vE = .slice AE rs.length cE ∧ vW = .slice AW ws.length cW ∧ rs.length ≤ cE ∧ cE ≤ maxLen ∧ ws.length ≤ cW ∧ cW ≤ maxLen := by
  obtain ⟨AE, cE, h1, h2, h3⟩ := own_slice h.oe
  obtain ⟨AW, cW, k1, k2, k3⟩ := own_slice h.ow
  exact ⟨AE, cE, AW, cW, h1, k1, h2, h3, k2, k3⟩
theorem LogAt.xlt (h : LogAt X B w g gd base size rs fo ws vE vW) : ∀ k, XL g vE vW k → k < w.heap.size ∧ B ≤ k := fun k hk => by
  rcases hk with rfl | hk | hk
  · exact ⟨h.box.lt, h.low⟩
  · obtain ⟨hb, cur, hc⟩ := own_cells h.oe hk
    exact ⟨(Array.getElem?_eq_some_iff.1 hc).1, hb⟩
  · obtain ⟨hb, cur, hc⟩ := own_cells h.ow hk
    exact ⟨(Array.getElem?_eq_some_iff.1 hc).1, hb⟩
/-- A log whose blocks and slices have not turned. -/
theorem LogAt.kept (h : LogAt X B w g gd base size rs fo ws vE vW) (hm : Mod Y w w') (h1 : ∀ k, XL g vE vW k → ¬ Y k) (hY : ∀ k, k < w.heap.size → Y k → X k) : LogAt X B w' g gd base size rs fo ws vE vW :=
  ⟨(hm.block g h.box.lt (h1 g (.inl rfl))).trans h.box, own_keep h.oe fun k hk => hm.block k (h.xlt k (.inr (.inl hk))).1 (h1 k (.inr (.inl hk))), own_keep h.ow fun k hk => hm.block k (h.xlt k (.inr (.inr hk))).1 (h1 k (.inr (.inr hk))),
    fun r hr => (h.els r hr).keptY hm fun k hk hy => .inr (hY k hk hy), h.low⟩
theorem LogAt.below (h : LogAt X B w g gd base size rs fo ws vE vW) (hb : Below w.heap.size w w') : LogAt X B w' g gd base size rs fo ws vE vW :=
  h.kept (Y := fun _ => False) (Mod.of_below hb _) (fun _ _ h => h) (fun _ _ h => h.elim)
theorem LogAt.mono (h : LogAt X B w g gd base size rs fo ws vE vW) (hY : ∀ k, k < w.heap.size → Y k → X k) : LogAt Y B w g gd base size rs fo ws vE vW :=
  ⟨h.box, h.oe, h.ow, fun r hr => (h.els r hr).mono fun k hk hy => hy.imp id (hY k hk), h.low⟩
theorem LogAt.drewN (h : LogAt X B w g gd base size rs fo ws vE vW) (n : Nat) : LogAt X B (w.drewN n) g gd base size rs fo ws vE vW := h.below ⟨rfl, rfl, rfl, Nat.le_refl _, fun _ _ => rfl⟩
end
/-- A number comes back; the world has only drawn. -/
def RetD (w : World) (v : Value) (e : Ending) (w' : World) : Prop := e = .returned v ∧ ∃ n, w' = w.drewN n

theorem drewN_add (w : World) (n m : Nat) : (w.drewN n).drewN m = w.drewN (n + m) := by simp [World.drewN, Nat.add_assoc]

section
variable (X : Nat → Prop) (B : Nat) (w : World) (g gd base size : Nat) (rs : List Er) (fo : Nat) (ws : List Sect) (vE vW : Value)
set_option maxHeartbeats 800000 in
theorem lused_any (h : LogAt X B w g gd base size rs fo ws vE vW) (hf : fo ≤ 100000) (hw : ws.length ≤ 100000) (us : Nat) (hu : us = fo + ws.length) :
    Calls Tryd.prog 29 #[.pointer (some ⟨g, 0, none⟩)] w (RetD w (.int .i64 (us : Int))) := by
  obtain ⟨AE, cE, AW, cW, rfl, rfl, _⟩ := h.sl
  obtain ⟨c0, c1, c2, c3, c4, c5⟩ := h.cells
  have e1 : (fo : Int) + (ws.length : Int) = (us : Int) := by omega
  have e2 : IntKind.i64.wrap (us : Int) = (us : Int) := by rw [IntKind.wrap_i64]; omega
  clear h hu
  go_enter Tryd.func29, Tryd.ntmps29
  go_wp2_with fail
  go_quiet (fail)
  go_wp2_with fail
  go_ret
  exact ⟨rfl, _, rfl⟩
set_option maxHeartbeats 800000 in
theorem lleft_any (h : LogAt X B w g gd base size rs fo ws vE vW) (hf : fo ≤ 100000) (hw : ws.length ≤ 100000) (us : Nat) (hu : us = fo + ws.length) (hs : us ≤ size) (hs2 : size ≤ 100000) (le : Nat) (hle : le = size - us) :
    Calls Tryd.prog 26 #[.pointer (some ⟨g, 0, none⟩)] w (RetD w (.int .i64 (le : Int))) := by
  have U := Lib.hid (fun n => lused_any X B (w.drewN n) g gd base size rs fo ws vE vW (h.drewN n) hf hw us hu)
  obtain ⟨c0, c1, c2, c3, c4, c5⟩ := h.cells
  have e1 : (size : Int) - (us : Int) = (le : Int) := by omega
  have e2 : IntKind.i64.wrap (le : Int) = (le : Int) := by rw [IntKind.wrap_i64]; omega
  clear h hu hle
  go_enter Tryd.func26, Tryd.ntmps26
  go_wp2_with fail
  refine wp_region_held_drew (S := fun z => ∃ n, z = w.drewN n) (by kernel_rfl) ⟨1, rfl⟩ (fun hS => ?_)
  refine takeH (i := 0) (d := 3) (v := ?vl0) rfl (by kernel_rfl) (by kernel_rfl) (by kernel_rfl) (fun _ _ _ h => h) rfl (by rfl) ?yl0 hS ?rl0
  case yl0 => (intro wz hz; obtain ⟨n5, rfl⟩ := hz; go_simp <;> with_reducible rfl)
  simp only [List.setIfInBounds_toArray, List.set_cons_zero, List.set_cons_succ]
  refine takeH (i := 1) (d := 4) (v := ?vl1) rfl (by kernel_rfl) (by kernel_rfl) (by kernel_rfl) (fun _ _ _ h => h) rfl (by rfl) ?yl1 hS ?rl1
  case yl1 => (intro wz hz; obtain ⟨n5, rfl⟩ := hz; go_simp <;> with_reducible rfl)
  simp only [List.setIfInBounds_toArray, List.set_cons_zero, List.set_cons_succ]
  refine takeH (i := 2) (d := 5) (v := ?vl2) rfl (by kernel_rfl) (by kernel_rfl) (by kernel_rfl) (fun _ _ _ h => h) rfl (by rfl) ?yl2 hS ?rl2
  case yl2 => (intro wz hz; obtain ⟨n5, rfl⟩ := hz; go_simp <;> with_reducible rfl)
  simp only [List.setIfInBounds_toArray, List.set_cons_zero, List.set_cons_succ]
  refine takeH (i := 3) (d := 6) (v := ?vl3) rfl (by kernel_rfl) (by kernel_rfl) (by kernel_rfl) (fun _ _ _ h => h) rfl (by rfl) ?yl3 hS ?rl3
  case yl3 => (intro wz hz; obtain ⟨n5, rfl⟩ := hz; go_simp <;> with_reducible rfl)
  simp only [List.setIfInBounds_toArray, List.set_cons_zero, List.set_cons_succ]
  refine takeH (i := 4) (d := 7) (v := ?vl4) rfl (by kernel_rfl) (by kernel_rfl) (by kernel_rfl) (fun _ _ _ h => h) rfl (by rfl) ?yl4 hS ?rl4
  case yl4 => (intro wz hz; obtain ⟨n5, rfl⟩ := hz; go_simp <;> with_reducible rfl)
  simp only [List.setIfInBounds_toArray, List.set_cons_zero, List.set_cons_succ]
  refine wpAnyH_ready (rs := [5]) (by kernel_rfl) (by simp) ?_
  refine AllReadyH.cons rfl (fun K hK => ?_) AllReadyH.nil
  go_simp
  obtain ⟨n0, hn0⟩ := hS
  rw [hn0]
  refine (U.out n0).mono ?_
  rintro e w1 ⟨rfl, n1, rfl⟩
  have hb : True := trivial
  have hS : ∃ n, w.drewN n = w.drewN n := ⟨0, rfl⟩
  refine hK.out _ _ (⟨n0 + n1, drewN_add w n0 n1⟩) (fun hT => ?_)
  clear hK hb hS
  have hS := hT
  clear hT
  refine takeH (i := 6) (d := 9) (v := ?vl6) rfl (by kernel_rfl) (by kernel_rfl) (by kernel_rfl) (fun _ _ _ h => h) rfl (by rfl) ?yl6 hS ?rl6
  case yl6 => (intro wz hz; obtain ⟨n5, rfl⟩ := hz; go_simp <;> with_reducible rfl)
  simp only [List.setIfInBounds_toArray, List.set_cons_zero, List.set_cons_succ]
  refine takeH (i := 7) (d := 2) (v := ?vl7) rfl (by kernel_rfl) (by kernel_rfl) (by kernel_rfl) (fun _ _ _ h => h) rfl (by rfl) ?yl7 hS ?rl7
  case yl7 => (intro wz hz; obtain ⟨n5, rfl⟩ := hz; go_simp <;> with_reducible rfl)
  simp only [List.setIfInBounds_toArray, List.set_cons_zero, List.set_cons_succ]
  refine wpAnyH_done (by kernel_rfl) ?_ _
  obtain ⟨n9, hn9⟩ := hS
  rw [hn9]
  go_wp2_with fail
  go_ret
  exact ⟨rfl, n9, rfl⟩
set_option maxHeartbeats 800000 in
theorem lnext_any (h : LogAt X B w g gd base size rs fo ws vE vW) (hf : fo ≤ 100000) (hw : ws.length ≤ 100000) (us : Nat) (hu : us = fo + ws.length) (nx : Nat) (hn : nx = us + 1) :
    Calls Tryd.prog 30 #[.pointer (some ⟨g, 0, none⟩)] w (RetD w (.int .u64 (nx : Int))) := by
  have U := Lib.hid (lused_any X B w g gd base size rs fo ws vE vW h hf hw us hu)
  have u1 : IntKind.u64.wrap (us : Int) = (us : Int) := by rw [IntKind.wrap_u64]; omega
  have u2 : (us : Int) + 1 = (nx : Int) := by omega
  have u3 : IntKind.u64.wrap (nx : Int) = (nx : Int) := by rw [IntKind.wrap_u64]; omega
  clear h hu hn
  go_enter Tryd.func30, Tryd.ntmps30
  go_wp2_with (go_at_call 29; refine U.out.mono ?_; rintro e w1 ⟨rfl, n1, rfl⟩)
  go_ret
  exact ⟨rfl, n1, rfl⟩
set_option maxHeartbeats 800000 in
theorem lforced_any (h : LogAt X B w g gd base size rs fo ws vE vW) (hf : fo ≤ 100000) (l : Nat) :
    Calls Tryd.prog 27 #[.pointer (some ⟨g, 0, none⟩), .int .u64 (l : Int)] w fun e w' => e = .returned (.bool (decide (l ≤ fo))) ∧ w = w' := by
  obtain ⟨c0, c1, c2, c3, c4, c5⟩ := h.cells
  have u1 : IntKind.u64.wrap (fo : Int) = (fo : Int) := by rw [IntKind.wrap_u64]; omega
  have hd : decide ((l : Int) ≤ (fo : Int)) = decide (l ≤ fo) := by rw [decide_eq_decide]; omega
  clear h
  go_enter Tryd.func27, Tryd.ntmps27
  go_wp2_with fail
  go_ret
  refine ⟨?_, rfl⟩
  first | rfl | (rw [← hd]; rfl)
end
end Go.Proofs.YthicidpdgggbjaaDoor
