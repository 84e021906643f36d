/-
  The walk of works, the law's example: it returns true.
  Conditions: none.
-/
import Derived.Test.YtiapllplhjhliaaR6
namespace Go.Proofs.Ytiapllplhjhliaa
open Go.RowKit Go.Shelf
attribute [local go_sem] Oper.semAt_some

theorem meet_is {x0 y0 x1 y1 u0 v0 u1 v1 p q r s : Int} (hp : max x0 u0 = p) (hq : max y0 v0 = q) (hr : min x1 u1 = r) (hs : min y1 v1 = s) (w : World) :
    Calls Try.prog 8 #[.agg #[.int .u32 x0, .int .u32 y0, .int .u32 x1, .int .u32 y1], .agg #[.int .u32 u0, .int .u32 v0, .int .u32 u1, .int .u32 v1]] w
      fun e w' => e = .returned (.agg #[.int .u32 p, .int .u32 q, .int .u32 r, .int .u32 s]) ∧ Below w.heap.size w w' := by
  subst hp hq hr hs; exact meet_any _ _ _ _ _ _ _ _ _
theorem hull_is {x0 y0 x1 y1 u0 v0 u1 v1 p q r s : Int} (ha : emptyB x0 y0 x1 y1 = false) (hb : emptyB u0 v0 u1 v1 = false) (hp : min x0 u0 = p) (hq : min y0 v0 = q) (hr : max x1 u1 = r) (hs : max y1 v1 = s) (w : World) :
    Calls Try.prog 9 #[.agg #[.int .u32 x0, .int .u32 y0, .int .u32 x1, .int .u32 y1], .agg #[.int .u32 u0, .int .u32 v0, .int .u32 u1, .int .u32 v1]] w
      fun e w' => e = .returned (.agg #[.int .u32 p, .int .u32 q, .int .u32 r, .int .u32 s]) ∧ Below w.heap.size w w' := by
  subst hp hq hr hs; exact hull_any _ _ _ _ _ _ _ _ _ ha hb
theorem tile_is {x y k : Int} (h : tileI x y = k) (h0 : 0 ≤ x) (h1 : x < 4294967296) (h2 : 0 ≤ y) (h3 : y < 4294967296) (w : World) :
    Calls Try.prog 15 #[.int .u32 x, .int .u32 y] w fun e w' => e = .returned (.int .i64 k) ∧ Below w.heap.size w w' := by
  subst h; exact (tile_any x y w h0 h1 h2 h3).mono fun e w' ⟨h, hw⟩ => ⟨h, hw ▸ Below.refl _ _⟩
theorem of_is {t a b c d : Int} (h0 : 0 ≤ t) (h1 : t < 64) (ha : t % 8 * 536870912 = a) (hb : t / 8 * 536870912 = b) (hc : t % 8 * 536870912 + 536870911 = c) (hd : t / 8 * 536870912 + 536870911 = d) (w : World) :
    Calls Try.prog 17 #[.int .i64 t] w fun e w' => e = .returned (.agg #[.int .u32 a, .int .u32 b, .int .u32 c, .int .u32 d]) ∧ Below w.heap.size w w' := by
  subst ha hb hc hd; exact of_in t w h0 h1
theorem count_is {x0 y0 x1 y1 : Int} {k : Nat} (hu : U4 x0 y0 x1 y1) (h : (tch x0 y0 x1 y1 64).length = k) (w : World) :
    Calls Try.prog 20 #[.agg #[.int .u32 x0, .int .u32 y0, .int .u32 x1, .int .u32 y1]] w fun e w' => e = .returned (.int .i64 (k : Int)) ∧ Below w.heap.size w w' := by
  subst h; exact count_any _ _ _ _ hu w
theorem u4_all : U4 0 0 4294967295 4294967295 := ⟨by decide, by decide, by decide, by decide, by decide, by decide, by decide, by decide⟩
theorem u4_ex : U4 2 2 5 5 := ⟨by decide, by decide, by decide, by decide, by decide, by decide, by decide, by decide⟩
theorem box4_own {β : Type} (B : Nat) (x0 y0 x1 y1 : Int) : Own (fun (_ : β) W => Box4 W B x0 y0 x1 y1) := fun s X Y row hs hg hrow =>
  (hg.block B (Array.getElem?_eq_some_iff.1 hs).1 (fun e' => by obtain ⟨o, ho, hc⟩ := hrow B e'.symm; rw [show X.heap[B]? = _ from hs] at ho; cases ho; cases hc)).trans hs
theorem Box4.new (W : World) (x0 y0 x1 y1 : Int) : Box4 (W.alloc (.cells #[.int .u32 x0, .int .u32 y0, .int .u32 x1, .int .u32 y1] 24)) W.heap.size x0 y0 x1 y1 := World.alloc_heap_new W _
theorem Box4.lt {W : World} {B : Nat} {x0 y0 x1 y1 : Int} (h : Box4 W B x0 y0 x1 y1) : B < W.heap.size := (Array.getElem?_eq_some_iff.1 h).1
theorem Box4.alloc {W : World} {B : Nat} {x0 y0 x1 y1 : Int} (h : Box4 W B x0 y0 x1 y1) (o : Obj) : Box4 (W.alloc o) B x0 y0 x1 y1 := (Below.heap_alloc _ _ _ h.lt).trans h
theorem Box4.set {W : World} {B : Nat} {x0 y0 x1 y1 : Int} (h : Box4 W B x0 y0 x1 y1) {p : Addr} (hp : B ≠ p.block) (v : Value) : Box4 (W.setCell p v) B x0 y0 x1 y1 := (Below.heap_setCell _ _ _ _ hp).trans h

theorem func_nil (b : Nat) (w : World) : Sem.run Try.prog (binOp .eql 38 (.func (.func 26) #[] #[.pointer (some ⟨b, 0, none⟩)]) .nilFunc) w = .ok (.bool false) w := by rfl

set_option linter.unusedSimpArgs false in
set_option maxRecDepth 100000 in
set_option maxHeartbeats 4000000 in
theorem works_any (w : World) : Calls Try.prog 14 #[] w fun e w' => e = .returned (.bool true) ∧ Below w.heap.size w w' := by
  refine (callsIn_wide (n := 3)).1 ?_
  refine callsIn_of_wp_marks Try.func14 rfl trivial ?_ rfl
  simp only [Try.ntmps14, List.size_toArray, List.length_cons, List.length_nil, Nat.reduceAdd, Nat.reduceSub, Array.replicate_succ, Array.replicate_zero, List.push_toArray, List.append_toArray, List.nil_append, List.cons_append]
  have hfn := func_nil
  gi_wp2_with fail
  refine wcall2 ((touched_any _ _ _ _ _).mono ?_)
  rintro e w' ⟨rfl, rfl⟩
  gi_wp2_with fail
  obtain ⟨W, hW⟩ : ∃ W, (((w.alloc (.cells #[.int .u32 2, .int .u32 2, .int .u32 5, .int .u32 5] 24)).alloc (.cells #[.int .u32 5, .int .u32 0, .int .u32 9, .int .u32 3] 24)).alloc (.cells #[.int .i64 0] 3)).alloc (.cells #[.int .u32 2, .int .u32 2, .int .u32 5, .int .u32 5] 24) = W := ⟨_, rfl⟩
  have hsz : W.heap.size = w.heap.size + 4 := by rw [← hW]; simp
  have hB0 : Below w.heap.size w W := by rw [← hW]; exact ((((Below.refl _ w).alloc (Nat.le_refl _) _).alloc (by simp) _).alloc (by simp; omega) _).alloc (by simp; omega) _
  have bA : Box4 W w.heap.size 2 2 5 5 := by rw [← hW]; exact (((Box4.new w 2 2 5 5).alloc _).alloc _).alloc _
  have bB : Box4 W (w.heap.size + 1) 5 0 9 3 := by
    rw [← hW]
    have := ((Box4.new (w.alloc (.cells #[.int .u32 2, .int .u32 2, .int .u32 5, .int .u32 5] 24)) 5 0 9 3).alloc (.cells #[.int .i64 0] 3)).alloc (.cells #[.int .u32 2, .int .u32 2, .int .u32 5, .int .u32 5] 24)
    rwa [World.size_alloc] at this
  have bN : Boxed W (w.heap.size + 1 + 1) 3 (.int .i64 0) := by
    rw [← hW]
    have := (Boxed.new ((w.alloc (.cells #[.int .u32 2, .int .u32 2, .int .u32 5, .int .u32 5] 24)).alloc (.cells #[.int .u32 5, .int .u32 0, .int .u32 9, .int .u32 3] 24)) 3 (.int .i64 0)).alloc (.cells #[.int .u32 2, .int .u32 2, .int .u32 5, .int .u32 5] 24)
    rwa [World.size_alloc, World.size_alloc] at this
  have b4 : Box4 W (w.heap.size + 1 + 1 + 1) 2 2 5 5 := by
    rw [← hW]
    have := Box4.new (((w.alloc (.cells #[.int .u32 2, .int .u32 2, .int .u32 5, .int .u32 5] 24)).alloc (.cells #[.int .u32 5, .int .u32 0, .int .u32 9, .int .u32 3] 24)).alloc (.cells #[.int .i64 0] 3)) 2 2 5 5
    rwa [World.size_alloc, World.size_alloc, World.size_alloc] at this
  rw [hW]
  clear hW
  have hle := tch_le 2 2 5 5 64
  clear hfn
  refine wpIn_rangeFunc_ownF rfl (by omega) (gf := 26) (lb := #[.pointer (some ⟨w.heap.size + 1 + 1 + 1, 0, none⟩)]) rfl trivial (enters_of Try.func26 (by kernel_rfl) rfl)
    (iter_stops _ (w.heap.size + 1 + 1 + 1) 2 2 5 5 u4_ex W b4) kpB_t (kpB_b (by omega)) (Below.refl _ _) (fun _ => rfl)
    (fun pre W' => ((Boxed W' (w.heap.size + 1 + 1) 3 (.int .i64 ((pre.length : Nat) : Int)) ∧ Box4 W' w.heap.size 2 2 5 5) ∧ Box4 W' (w.heap.size + 1) 5 0 9 3) ∧ Below w.heap.size w W')
    (fun _ _ _ => False)
    (OwnFrom.and (OwnFrom.and (OwnFrom.and (Own.from (boxed_own _ _ _) _) (Own.from (box4_own _ _ _ _ _) _)) (Own.from (box4_own _ _ _ _ _) _)) (ownFrom_below (Nat.le_refl _) (by omega)))
    (fun _ _ _ _ _ hs _ _ => hs)
    ⟨⟨⟨bN, bA⟩, bB⟩, hB0⟩
    (fun x => { tmps := #[.bool false, .pointer (some ⟨w.heap.size, 0, none⟩), .pointer (some ⟨w.heap.size + 1, 0, none⟩), .pointer (some ⟨w.heap.size + 1 + 1, 0, none⟩), .func (.func 26) #[] #[.pointer (some ⟨w.heap.size + 1 + 1 + 1, 0, none⟩)], .agg #[.int .u32 2, .int .u32 2, .int .u32 5, .int .u32 5], .agg #[.int .u32 5, .int .u32 0, .int .u32 9, .int .u32 3], .agg #[.int .u32 2, .int .u32 2, .int .u32 5, .int .u32 5], .func (.func 26) #[] #[.pointer (some ⟨w.heap.size + 1 + 1 + 1, 0, none⟩)], .func (.func 26) #[] #[.pointer (some ⟨w.heap.size + 1 + 1 + 1, 0, none⟩)], .bool false, .func (.func 26) #[] #[.pointer (some ⟨w.heap.size + 1 + 1 + 1, 0, none⟩)], .int .i64 (x : Int), undef, undef, undef, undef, undef, undef, undef, undef, undef, undef, undef, undef, undef, undef, undef, undef, undef, undef, undef, undef, undef, undef, undef, undef, undef, undef, undef, undef, undef, undef, undef, undef, undef, undef, undef, undef, undef, undef, undef, undef, undef, undef, undef, undef, undef, undef, undef, undef, undef, undef, undef, undef, undef, undef, undef, undef, undef, undef, undef, undef, undef], defers := [] }) ?assign ?body ?done ?stop
  case assign =>
    intro l x W K hK
    gi_wp2
    simpa using hK
  case body =>
    rintro l pre x W' ⟨⟨⟨bx, ba⟩, bb⟩, hB⟩ hlt
    have cR := bx.cell
    have fR := bx.frozen
    gi_wp2
    exact ⟨KeepsOthers.setCell _ _ _, Below.heap_setCell _ _ _ _ (by simp), ⟨⟨⟨by have := bx.set (.int .i64 ((pre.length : Int) + 1)); simpa using this, ba.set (by simp; omega) _⟩, bb.set (by simp) _⟩, hB.setCell (p := ⟨w.heap.size + 1 + 1, 0, none⟩) (by simp; omega) _⟩⟩
  case done =>
    rintro D ys W' hD rfl ⟨⟨⟨bx, ba⟩, bb⟩, hB⟩ hK
    have cn : W'.cell? ⟨w.heap.size + 1 + 1, 0, none⟩ = some (.int .i64 1) := by have := bx.cell; rwa [show (tch 2 2 5 5 64).length = 1 by decide +kernel] at this
    obtain ⟨a0, a1, a2, a3⟩ := ba.cells
    obtain ⟨b0, b1, b2, b3⟩ := bb.cells
    have hN : w.heap.size + 3 ≤ W'.heap.size := by have := bx.lt; omega
    have HB := Lib.hid hB
    have HK := Lib.hid hK
    have HD := Lib.hid hD
    clear hB hK bx ba bb b4 bN bA bB hB0 hle hD
    gi_wp2_with fail
    refine region_wide (S := fun z => Below W'.heap.size W' z) (by kernel_rfl) (Below.refl _ _).drew (fun hS => ?_)
    refine takeH (i := 0) (d := 15) (v := ?vg0) rfl (by kernel_rfl) (by kernel_rfl) (by kernel_rfl) (fun _ _ _ h => h) rfl (by rfl) ?yg0 hS ?rg0
    case yg0 => (intro wz hz; obtain ⟨hcz, hfz⟩ := keep (N := w.heap.size + 3) hz hN; go_simp <;> with_reducible rfl)
    simp only [List.setIfInBounds_toArray, List.set_cons_zero, List.set_cons_succ]
    refine wpAnyH_ready (rs := [1]) (by kernel_rfl) (by simp) ?_
    refine AllReadyH.cons rfl (fun K hK => ?_) AllReadyH.nil
    go_simp
    refine (has_is (b := true) (by decide) _).mono ?_
    rintro e w1 ⟨rfl, hb⟩
    refine hK.out _ _ (chain hS hb (Nat.le_refl _)) (fun hT => ?_)
    clear hK hb hS
    have hS := hT
    clear hT
    refine takeH (i := 2) (d := 17) (v := ?vg2) rfl (by kernel_rfl) (by kernel_rfl) (by kernel_rfl) (fun _ _ _ h => h) rfl (by rfl) ?yg2 hS ?rg2
    case yg2 => (intro wz hz; obtain ⟨hcz, hfz⟩ := keep (N := w.heap.size + 3) hz hN; go_simp <;> with_reducible rfl)
    simp only [List.setIfInBounds_toArray, List.set_cons_zero, List.set_cons_succ]
    refine takeH (i := 3) (d := 18) (v := ?vg3) rfl (by kernel_rfl) (by kernel_rfl) (by kernel_rfl) (fun _ _ _ h => h) rfl (by rfl) ?yg3 hS ?rg3
    case yg3 => (intro wz hz; obtain ⟨hcz, hfz⟩ := keep (N := w.heap.size + 3) hz hN; go_simp <;> with_reducible rfl)
    simp only [List.setIfInBounds_toArray, List.set_cons_zero, List.set_cons_succ]
    refine wpAnyH_ready (rs := [4]) (by kernel_rfl) (by simp) ?_
    refine AllReadyH.cons rfl (fun K hK => ?_) AllReadyH.nil
    go_simp
    refine (has_is (b := false) (by decide) _).mono ?_
    rintro e w1 ⟨rfl, hb⟩
    refine hK.out _ _ (chain hS hb (Nat.le_refl _)) (fun hT => ?_)
    clear hK hb hS
    have hS := hT
    clear hT
    refine takeH (i := 5) (d := 20) (v := ?vg5) rfl (by kernel_rfl) (by kernel_rfl) (by kernel_rfl) (fun _ _ _ h => h) rfl (by rfl) ?yg5 hS ?rg5
    case yg5 => (intro wz hz; obtain ⟨hcz, hfz⟩ := keep (N := w.heap.size + 3) hz hN; go_simp <;> with_reducible rfl)
    simp only [List.setIfInBounds_toArray, List.set_cons_zero, List.set_cons_succ]
    refine takeH (i := 6) (d := 21) (v := ?vg6) rfl (by kernel_rfl) (by kernel_rfl) (by kernel_rfl) (fun _ _ _ h => h) rfl (by rfl) ?yg6 hS ?rg6
    case yg6 => (intro wz hz; obtain ⟨hcz, hfz⟩ := keep (N := w.heap.size + 3) hz hN; go_simp <;> with_reducible rfl)
    simp only [List.setIfInBounds_toArray, List.set_cons_zero, List.set_cons_succ]
    refine takeH (i := 7) (d := 22) (v := ?vg7) rfl (by kernel_rfl) (by kernel_rfl) (by kernel_rfl) (fun _ _ _ h => h) rfl (by rfl) ?yg7 hS ?rg7
    case yg7 => (intro wz hz; obtain ⟨hcz, hfz⟩ := keep (N := w.heap.size + 3) hz hN; go_simp <;> with_reducible rfl)
    simp only [List.setIfInBounds_toArray, List.set_cons_zero, List.set_cons_succ]
    refine takeH (i := 8) (d := 23) (v := ?vg8) rfl (by kernel_rfl) (by kernel_rfl) (by kernel_rfl) (fun _ _ _ h => h) rfl (by rfl) ?yg8 hS ?rg8
    case yg8 => (intro wz hz; obtain ⟨hcz, hfz⟩ := keep (N := w.heap.size + 3) hz hN; go_simp <;> with_reducible rfl)
    simp only [List.setIfInBounds_toArray, List.set_cons_zero, List.set_cons_succ]
    refine takeH (i := 9) (d := 24) (v := ?vg9) rfl (by kernel_rfl) (by kernel_rfl) (by kernel_rfl) (fun _ _ _ h => h) rfl (by rfl) ?yg9 hS ?rg9
    case yg9 => (intro wz hz; obtain ⟨hcz, hfz⟩ := keep (N := w.heap.size + 3) hz hN; go_simp <;> with_reducible rfl)
    simp only [List.setIfInBounds_toArray, List.set_cons_zero, List.set_cons_succ]
    refine takeH (i := 11) (d := 26) (v := ?vg11) rfl (by kernel_rfl) (by kernel_rfl) (by kernel_rfl) (fun _ _ _ h => h) rfl (by rfl) ?yg11 hS ?rg11
    case yg11 => (intro wz hz; obtain ⟨hcz, hfz⟩ := keep (N := w.heap.size + 3) hz hN; go_simp <;> with_reducible rfl)
    simp only [List.setIfInBounds_toArray, List.set_cons_zero, List.set_cons_succ]
    refine wpAnyH_ready (rs := [10]) (by kernel_rfl) (by simp) ?_
    refine AllReadyH.cons rfl (fun K hK => ?_) AllReadyH.nil
    go_simp
    refine (meet_is (p := 5) (q := 2) (r := 5) (s := 3) (by decide) (by decide) (by decide) (by decide) _).mono ?_
    rintro e w1 ⟨rfl, hb⟩
    refine hK.out _ _ (chain hS hb (Nat.le_refl _)) (fun hT => ?_)
    clear hK hb hS
    have hS := hT
    clear hT
    refine takeH (i := 12) (d := 27) (v := ?vg12) rfl (by kernel_rfl) (by kernel_rfl) (by kernel_rfl) (fun _ _ _ h => h) rfl (by rfl) ?yg12 hS ?rg12
    case yg12 => (intro wz hz; obtain ⟨hcz, hfz⟩ := keep (N := w.heap.size + 3) hz hN; go_simp <;> with_reducible rfl)
    simp only [List.setIfInBounds_toArray, List.set_cons_zero, List.set_cons_succ]
    refine takeH (i := 13) (d := 28) (v := ?vg13) rfl (by kernel_rfl) (by kernel_rfl) (by kernel_rfl) (fun _ _ _ h => h) rfl (by rfl) ?yg13 hS ?rg13
    case yg13 => (intro wz hz; obtain ⟨hcz, hfz⟩ := keep (N := w.heap.size + 3) hz hN; go_simp <;> with_reducible rfl)
    simp only [List.setIfInBounds_toArray, List.set_cons_zero, List.set_cons_succ]
    refine takeH (i := 14) (d := 29) (v := ?vg14) rfl (by kernel_rfl) (by kernel_rfl) (by kernel_rfl) (fun _ _ _ h => h) rfl (by rfl) ?yg14 hS ?rg14
    case yg14 => (intro wz hz; obtain ⟨hcz, hfz⟩ := keep (N := w.heap.size + 3) hz hN; go_simp <;> with_reducible rfl)
    simp only [List.setIfInBounds_toArray, List.set_cons_zero, List.set_cons_succ]
    refine takeH (i := 15) (d := 30) (v := ?vg15) rfl (by kernel_rfl) (by kernel_rfl) (by kernel_rfl) (fun _ _ _ h => h) rfl (by rfl) ?yg15 hS ?rg15
    case yg15 => (intro wz hz; obtain ⟨hcz, hfz⟩ := keep (N := w.heap.size + 3) hz hN; go_simp <;> with_reducible rfl)
    simp only [List.setIfInBounds_toArray, List.set_cons_zero, List.set_cons_succ]
    refine takeH (i := 16) (d := 31) (v := ?vg16) rfl (by kernel_rfl) (by kernel_rfl) (by kernel_rfl) (fun _ _ _ h => h) rfl (by rfl) ?yg16 hS ?rg16
    case yg16 => (intro wz hz; obtain ⟨hcz, hfz⟩ := keep (N := w.heap.size + 3) hz hN; go_simp <;> with_reducible rfl)
    simp only [List.setIfInBounds_toArray, List.set_cons_zero, List.set_cons_succ]
    refine wpAnyH_ready (rs := [17]) (by kernel_rfl) (by simp) ?_
    refine AllReadyH.cons rfl (fun K hK => ?_) AllReadyH.nil
    go_simp
    refine (meets_is (b := true) (by decide) _).mono ?_
    rintro e w1 ⟨rfl, hb⟩
    refine hK.out _ _ (chain hS hb (Nat.le_refl _)) (fun hT => ?_)
    clear hK hb hS
    have hS := hT
    clear hT
    refine takeH (i := 18) (d := 33) (v := ?vg18) rfl (by kernel_rfl) (by kernel_rfl) (by kernel_rfl) (fun _ _ _ h => h) rfl (by rfl) ?yg18 hS ?rg18
    case yg18 => (intro wz hz; obtain ⟨hcz, hfz⟩ := keep (N := w.heap.size + 3) hz hN; go_simp <;> with_reducible rfl)
    simp only [List.setIfInBounds_toArray, List.set_cons_zero, List.set_cons_succ]
    refine takeH (i := 19) (d := 34) (v := ?vg19) rfl (by kernel_rfl) (by kernel_rfl) (by kernel_rfl) (fun _ _ _ h => h) rfl (by rfl) ?yg19 hS ?rg19
    case yg19 => (intro wz hz; obtain ⟨hcz, hfz⟩ := keep (N := w.heap.size + 3) hz hN; go_simp <;> with_reducible rfl)
    simp only [List.setIfInBounds_toArray, List.set_cons_zero, List.set_cons_succ]
    refine takeH (i := 20) (d := 35) (v := ?vg20) rfl (by kernel_rfl) (by kernel_rfl) (by kernel_rfl) (fun _ _ _ h => h) rfl (by rfl) ?yg20 hS ?rg20
    case yg20 => (intro wz hz; obtain ⟨hcz, hfz⟩ := keep (N := w.heap.size + 3) hz hN; go_simp <;> with_reducible rfl)
    simp only [List.setIfInBounds_toArray, List.set_cons_zero, List.set_cons_succ]
    refine takeH (i := 21) (d := 36) (v := ?vg21) rfl (by kernel_rfl) (by kernel_rfl) (by kernel_rfl) (fun _ _ _ h => h) rfl (by rfl) ?yg21 hS ?rg21
    case yg21 => (intro wz hz; obtain ⟨hcz, hfz⟩ := keep (N := w.heap.size + 3) hz hN; go_simp <;> with_reducible rfl)
    simp only [List.setIfInBounds_toArray, List.set_cons_zero, List.set_cons_succ]
    refine wpAnyH_ready (rs := [22]) (by kernel_rfl) (by simp) ?_
    refine AllReadyH.cons rfl (fun K hK => ?_) AllReadyH.nil
    go_simp
    refine (within_is (b := false) (by decide) _).mono ?_
    rintro e w1 ⟨rfl, hb⟩
    refine hK.out _ _ (chain hS hb (Nat.le_refl _)) (fun hT => ?_)
    clear hK hb hS
    have hS := hT
    clear hT
    refine takeH (i := 23) (d := 38) (v := ?vg23) rfl (by kernel_rfl) (by kernel_rfl) (by kernel_rfl) (fun _ _ _ h => h) rfl (by rfl) ?yg23 hS ?rg23
    case yg23 => (intro wz hz; obtain ⟨hcz, hfz⟩ := keep (N := w.heap.size + 3) hz hN; go_simp <;> with_reducible rfl)
    simp only [List.setIfInBounds_toArray, List.set_cons_zero, List.set_cons_succ]
    refine takeH (i := 24) (d := 39) (v := ?vg24) rfl (by kernel_rfl) (by kernel_rfl) (by kernel_rfl) (fun _ _ _ h => h) rfl (by rfl) ?yg24 hS ?rg24
    case yg24 => (intro wz hz; obtain ⟨hcz, hfz⟩ := keep (N := w.heap.size + 3) hz hN; go_simp <;> with_reducible rfl)
    simp only [List.setIfInBounds_toArray, List.set_cons_zero, List.set_cons_succ]
    refine takeH (i := 25) (d := 40) (v := ?vg25) rfl (by kernel_rfl) (by kernel_rfl) (by kernel_rfl) (fun _ _ _ h => h) rfl (by rfl) ?yg25 hS ?rg25
    case yg25 => (intro wz hz; obtain ⟨hcz, hfz⟩ := keep (N := w.heap.size + 3) hz hN; go_simp <;> with_reducible rfl)
    simp only [List.setIfInBounds_toArray, List.set_cons_zero, List.set_cons_succ]
    refine takeH (i := 26) (d := 41) (v := ?vg26) rfl (by kernel_rfl) (by kernel_rfl) (by kernel_rfl) (fun _ _ _ h => h) rfl (by rfl) ?yg26 hS ?rg26
    case yg26 => (intro wz hz; obtain ⟨hcz, hfz⟩ := keep (N := w.heap.size + 3) hz hN; go_simp <;> with_reducible rfl)
    simp only [List.setIfInBounds_toArray, List.set_cons_zero, List.set_cons_succ]
    refine wpAnyH_ready (rs := [27]) (by kernel_rfl) (by simp) ?_
    refine AllReadyH.cons rfl (fun K hK => ?_) AllReadyH.nil
    go_simp
    refine (all_any _).mono ?_
    rintro e w1 ⟨rfl, hb⟩
    refine hK.out _ _ (chain hS hb (Nat.le_refl _)) (fun hT => ?_)
    clear hK hb hS
    have hS := hT
    clear hT
    refine wpAnyH_ready (rs := [28]) (by kernel_rfl) (by simp) ?_
    refine AllReadyH.cons rfl (fun K hK => ?_) AllReadyH.nil
    go_simp
    refine (within_is (b := true) (by decide) _).mono ?_
    rintro e w1 ⟨rfl, hb⟩
    refine hK.out _ _ (chain hS hb (Nat.le_refl _)) (fun hT => ?_)
    clear hK hb hS
    have hS := hT
    clear hT
    refine takeH (i := 29) (d := 44) (v := ?vg29) rfl (by kernel_rfl) (by kernel_rfl) (by kernel_rfl) (fun _ _ _ h => h) rfl (by rfl) ?yg29 hS ?rg29
    case yg29 => (intro wz hz; obtain ⟨hcz, hfz⟩ := keep (N := w.heap.size + 3) hz hN; go_simp <;> with_reducible rfl)
    simp only [List.setIfInBounds_toArray, List.set_cons_zero, List.set_cons_succ]
    refine takeH (i := 30) (d := 45) (v := ?vg30) rfl (by kernel_rfl) (by kernel_rfl) (by kernel_rfl) (fun _ _ _ h => h) rfl (by rfl) ?yg30 hS ?rg30
    case yg30 => (intro wz hz; obtain ⟨hcz, hfz⟩ := keep (N := w.heap.size + 3) hz hN; go_simp <;> with_reducible rfl)
    simp only [List.setIfInBounds_toArray, List.set_cons_zero, List.set_cons_succ]
    refine wpAnyH_ready (rs := [31]) (by kernel_rfl) (by simp) ?_
    refine AllReadyH.cons rfl (fun K hK => ?_) AllReadyH.nil
    go_simp
    refine (tile_is (k := 17) (by decide) (by decide) (by decide) (by decide) (by decide) _).mono ?_
    rintro e w1 ⟨rfl, hb⟩
    refine hK.out _ _ (chain hS hb (Nat.le_refl _)) (fun hT => ?_)
    clear hK hb hS
    have hS := hT
    clear hT
    refine takeH (i := 32) (d := 47) (v := ?vg32) rfl (by kernel_rfl) (by kernel_rfl) (by kernel_rfl) (fun _ _ _ h => h) rfl (by rfl) ?yg32 hS ?rg32
    case yg32 => (intro wz hz; obtain ⟨hcz, hfz⟩ := keep (N := w.heap.size + 3) hz hN; go_simp <;> with_reducible rfl)
    simp only [List.setIfInBounds_toArray, List.set_cons_zero, List.set_cons_succ]
    refine takeH (i := 33) (d := 48) (v := ?vg33) rfl (by kernel_rfl) (by kernel_rfl) (by kernel_rfl) (fun _ _ _ h => h) rfl (by rfl) ?yg33 hS ?rg33
    case yg33 => (intro wz hz; obtain ⟨hcz, hfz⟩ := keep (N := w.heap.size + 3) hz hN; go_simp <;> with_reducible rfl)
    simp only [List.setIfInBounds_toArray, List.set_cons_zero, List.set_cons_succ]
    refine takeH (i := 34) (d := 49) (v := ?vg34) rfl (by kernel_rfl) (by kernel_rfl) (by kernel_rfl) (fun _ _ _ h => h) rfl (by rfl) ?yg34 hS ?rg34
    case yg34 => (intro wz hz; obtain ⟨hcz, hfz⟩ := keep (N := w.heap.size + 3) hz hN; go_simp <;> with_reducible rfl)
    simp only [List.setIfInBounds_toArray, List.set_cons_zero, List.set_cons_succ]
    refine takeH (i := 36) (d := 51) (v := ?vg36) rfl (by kernel_rfl) (by kernel_rfl) (by kernel_rfl) (fun _ _ _ h => h) rfl (by rfl) ?yg36 hS ?rg36
    case yg36 => (intro wz hz; obtain ⟨hcz, hfz⟩ := keep (N := w.heap.size + 3) hz hN; go_simp <;> with_reducible rfl)
    simp only [List.setIfInBounds_toArray, List.set_cons_zero, List.set_cons_succ]
    refine wpAnyH_ready (rs := [35]) (by kernel_rfl) (by simp) ?_
    refine AllReadyH.cons rfl (fun K hK => ?_) AllReadyH.nil
    go_simp
    refine (of_is (a := 536870912) (b := 1073741824) (c := 1073741823) (d := 1610612735) (by decide) (by decide) (by decide) (by decide) (by decide) (by decide) _).mono ?_
    rintro e w1 ⟨rfl, hb⟩
    refine hK.out _ _ (chain hS hb (Nat.le_refl _)) (fun hT => ?_)
    clear hK hb hS
    have hS := hT
    clear hT
    refine takeH (i := 37) (d := 52) (v := ?vg37) rfl (by kernel_rfl) (by kernel_rfl) (by kernel_rfl) (fun _ _ _ h => h) rfl (by rfl) ?yg37 hS ?rg37
    case yg37 => (intro wz hz; obtain ⟨hcz, hfz⟩ := keep (N := w.heap.size + 3) hz hN; go_simp <;> with_reducible rfl)
    simp only [List.setIfInBounds_toArray, List.set_cons_zero, List.set_cons_succ]
    refine takeH (i := 38) (d := 53) (v := ?vg38) rfl (by kernel_rfl) (by kernel_rfl) (by kernel_rfl) (fun _ _ _ h => h) rfl (by rfl) ?yg38 hS ?rg38
    case yg38 => (intro wz hz; obtain ⟨hcz, hfz⟩ := keep (N := w.heap.size + 3) hz hN; go_simp <;> with_reducible rfl)
    simp only [List.setIfInBounds_toArray, List.set_cons_zero, List.set_cons_succ]
    refine takeH (i := 39) (d := 54) (v := ?vg39) rfl (by kernel_rfl) (by kernel_rfl) (by kernel_rfl) (fun _ _ _ h => h) rfl (by rfl) ?yg39 hS ?rg39
    case yg39 => (intro wz hz; obtain ⟨hcz, hfz⟩ := keep (N := w.heap.size + 3) hz hN; go_simp <;> with_reducible rfl)
    simp only [List.setIfInBounds_toArray, List.set_cons_zero, List.set_cons_succ]
    refine takeH (i := 40) (d := 55) (v := ?vg40) rfl (by kernel_rfl) (by kernel_rfl) (by kernel_rfl) (fun _ _ _ h => h) rfl (by rfl) ?yg40 hS ?rg40
    case yg40 => (intro wz hz; obtain ⟨hcz, hfz⟩ := keep (N := w.heap.size + 3) hz hN; go_simp <;> with_reducible rfl)
    simp only [List.setIfInBounds_toArray, List.set_cons_zero, List.set_cons_succ]
    refine takeH (i := 41) (d := 56) (v := ?vg41) rfl (by kernel_rfl) (by kernel_rfl) (by kernel_rfl) (fun _ _ _ h => h) rfl (by rfl) ?yg41 hS ?rg41
    case yg41 => (intro wz hz; obtain ⟨hcz, hfz⟩ := keep (N := w.heap.size + 3) hz hN; go_simp <;> with_reducible rfl)
    simp only [List.setIfInBounds_toArray, List.set_cons_zero, List.set_cons_succ]
    refine takeH (i := 42) (d := 57) (v := ?vg42) rfl (by kernel_rfl) (by kernel_rfl) (by kernel_rfl) (fun _ _ _ h => h) rfl (by rfl) ?yg42 hS ?rg42
    case yg42 => (intro wz hz; obtain ⟨hcz, hfz⟩ := keep (N := w.heap.size + 3) hz hN; go_simp <;> with_reducible rfl)
    simp only [List.setIfInBounds_toArray, List.set_cons_zero, List.set_cons_succ]
    refine takeH (i := 43) (d := 58) (v := ?vg43) rfl (by kernel_rfl) (by kernel_rfl) (by kernel_rfl) (fun _ _ _ h => h) rfl (by rfl) ?yg43 hS ?rg43
    case yg43 => (intro wz hz; obtain ⟨hcz, hfz⟩ := keep (N := w.heap.size + 3) hz hN; go_simp <;> with_reducible rfl)
    simp only [List.setIfInBounds_toArray, List.set_cons_zero, List.set_cons_succ]
    refine wpAnyH_ready (rs := [44]) (by kernel_rfl) (by simp) ?_
    refine AllReadyH.cons rfl (fun K hK => ?_) AllReadyH.nil
    go_simp
    refine (all_any _).mono ?_
    rintro e w1 ⟨rfl, hb⟩
    refine hK.out _ _ (chain hS hb (Nat.le_refl _)) (fun hT => ?_)
    clear hK hb hS
    have hS := hT
    clear hT
    refine wpAnyH_ready (rs := [45]) (by kernel_rfl) (by simp) ?_
    refine AllReadyH.cons rfl (fun K hK => ?_) AllReadyH.nil
    go_simp
    refine (count_is (k := 64) u4_all (by decide +kernel) _).mono ?_
    rintro e w1 ⟨rfl, hb⟩
    refine hK.out _ _ (chain hS hb (Nat.le_refl _)) (fun hT => ?_)
    clear hK hb hS
    have hS := hT
    clear hT
    refine takeH (i := 46) (d := 61) (v := ?vg46) rfl (by kernel_rfl) (by kernel_rfl) (by kernel_rfl) (fun _ _ _ h => h) rfl (by rfl) ?yg46 hS ?rg46
    case yg46 => (intro wz hz; obtain ⟨hcz, hfz⟩ := keep (N := w.heap.size + 3) hz hN; go_simp <;> with_reducible rfl)
    simp only [List.setIfInBounds_toArray, List.set_cons_zero, List.set_cons_succ]
    refine takeH (i := 47) (d := 62) (v := ?vg47) rfl (by kernel_rfl) (by kernel_rfl) (by kernel_rfl) (fun _ _ _ h => h) rfl (by rfl) ?yg47 hS ?rg47
    case yg47 => (intro wz hz; obtain ⟨hcz, hfz⟩ := keep (N := w.heap.size + 3) hz hN; go_simp <;> with_reducible rfl)
    simp only [List.setIfInBounds_toArray, List.set_cons_zero, List.set_cons_succ]
    refine takeH (i := 48) (d := 63) (v := ?vg48) rfl (by kernel_rfl) (by kernel_rfl) (by kernel_rfl) (fun _ _ _ h => h) rfl (by rfl) ?yg48 hS ?rg48
    case yg48 => (intro wz hz; obtain ⟨hcz, hfz⟩ := keep (N := w.heap.size + 3) hz hN; go_simp <;> with_reducible rfl)
    simp only [List.setIfInBounds_toArray, List.set_cons_zero, List.set_cons_succ]
    refine wpAnyH_ready (rs := [49]) (by kernel_rfl) (by simp) ?_
    refine AllReadyH.cons rfl (fun K hK => ?_) AllReadyH.nil
    go_simp
    refine (of_out 64 _ (by decide)).mono ?_
    rintro e w1 ⟨rfl, hb⟩
    refine hK.out _ _ (chain hS hb (Nat.le_refl _)) (fun hT => ?_)
    clear hK hb hS
    have hS := hT
    clear hT
    refine wpAnyH_ready (rs := [50]) (by kernel_rfl) (by simp) ?_
    refine AllReadyH.cons rfl (fun K hK => ?_) AllReadyH.nil
    go_simp
    refine (empty_is (b := true) (by decide) _).mono ?_
    rintro e w1 ⟨rfl, hb⟩
    refine hK.out _ _ (chain hS hb (Nat.le_refl _)) (fun hT => ?_)
    clear hK hb hS
    have hS := hT
    clear hT
    refine takeH (i := 51) (d := 66) (v := ?vg51) rfl (by kernel_rfl) (by kernel_rfl) (by kernel_rfl) (fun _ _ _ h => h) rfl (by rfl) ?yg51 hS ?rg51
    case yg51 => (intro wz hz; obtain ⟨hcz, hfz⟩ := keep (N := w.heap.size + 3) hz hN; go_simp <;> with_reducible rfl)
    simp only [List.setIfInBounds_toArray, List.set_cons_zero, List.set_cons_succ]
    refine takeH (i := 52) (d := 67) (v := ?vg52) rfl (by kernel_rfl) (by kernel_rfl) (by kernel_rfl) (fun _ _ _ h => h) rfl (by rfl) ?yg52 hS ?rg52
    case yg52 => (intro wz hz; obtain ⟨hcz, hfz⟩ := keep (N := w.heap.size + 3) hz hN; go_simp <;> with_reducible rfl)
    simp only [List.setIfInBounds_toArray, List.set_cons_zero, List.set_cons_succ]
    refine takeH (i := 53) (d := 68) (v := ?vg53) rfl (by kernel_rfl) (by kernel_rfl) (by kernel_rfl) (fun _ _ _ h => h) rfl (by rfl) ?yg53 hS ?rg53
    case yg53 => (intro wz hz; obtain ⟨hcz, hfz⟩ := keep (N := w.heap.size + 3) hz hN; go_simp <;> with_reducible rfl)
    simp only [List.setIfInBounds_toArray, List.set_cons_zero, List.set_cons_succ]
    refine takeH (i := 54) (d := 69) (v := ?vg54) rfl (by kernel_rfl) (by kernel_rfl) (by kernel_rfl) (fun _ _ _ h => h) rfl (by rfl) ?yg54 hS ?rg54
    case yg54 => (intro wz hz; obtain ⟨hcz, hfz⟩ := keep (N := w.heap.size + 3) hz hN; go_simp <;> with_reducible rfl)
    simp only [List.setIfInBounds_toArray, List.set_cons_zero, List.set_cons_succ]
    refine takeH (i := 56) (d := 71) (v := ?vg56) rfl (by kernel_rfl) (by kernel_rfl) (by kernel_rfl) (fun _ _ _ h => h) rfl (by rfl) ?yg56 hS ?rg56
    case yg56 => (intro wz hz; obtain ⟨hcz, hfz⟩ := keep (N := w.heap.size + 3) hz hN; go_simp <;> with_reducible rfl)
    simp only [List.setIfInBounds_toArray, List.set_cons_zero, List.set_cons_succ]
    refine wpAnyH_ready (rs := [55]) (by kernel_rfl) (by simp) ?_
    refine AllReadyH.cons rfl (fun K hK => ?_) AllReadyH.nil
    go_simp
    refine (hull_is (p := 2) (q := 0) (r := 9) (s := 5) (by decide) (by decide) (by decide) (by decide) (by decide) (by decide) _).mono ?_
    rintro e w1 ⟨rfl, hb⟩
    refine hK.out _ _ (chain hS hb (Nat.le_refl _)) (fun hT => ?_)
    clear hK hb hS
    have hS := hT
    clear hT
    refine takeH (i := 57) (d := 72) (v := ?vg57) rfl (by kernel_rfl) (by kernel_rfl) (by kernel_rfl) (fun _ _ _ h => h) rfl (by rfl) ?yg57 hS ?rg57
    case yg57 => (intro wz hz; obtain ⟨hcz, hfz⟩ := keep (N := w.heap.size + 3) hz hN; go_simp <;> with_reducible rfl)
    simp only [List.setIfInBounds_toArray, List.set_cons_zero, List.set_cons_succ]
    refine takeH (i := 58) (d := 73) (v := ?vg58) rfl (by kernel_rfl) (by kernel_rfl) (by kernel_rfl) (fun _ _ _ h => h) rfl (by rfl) ?yg58 hS ?rg58
    case yg58 => (intro wz hz; obtain ⟨hcz, hfz⟩ := keep (N := w.heap.size + 3) hz hN; go_simp <;> with_reducible rfl)
    simp only [List.setIfInBounds_toArray, List.set_cons_zero, List.set_cons_succ]
    refine takeH (i := 59) (d := 0) (v := ?vg59) rfl (by kernel_rfl) (by kernel_rfl) (by kernel_rfl) (fun _ _ _ h => h) rfl (by rfl) ?yg59 hS ?rg59
    case yg59 => (intro wz hz; obtain ⟨hcz, hfz⟩ := keep (N := w.heap.size + 3) hz hN; go_simp <;> with_reducible rfl)
    simp only [List.setIfInBounds_toArray, List.set_cons_zero, List.set_cons_succ]
    refine wpAnyH_done (by kernel_rfl) ?_ _

    refine only_done ?_
    have HS := Lib.hid hS
    clear hS hN a0 a1 a2 a3 b0 b1 b2 b3 cn
    gi_wp2_with fail
    have hK' : w1.heap[D]? = some (.deferred (some [])) := (HS.out.block D (Array.getElem?_eq_some_iff.1 HK.out).1).trans HK.out
    refine ⟨by simp, .inl ⟨_, _, rfl, run_takeDeferred hK', ?_⟩⟩
    exact ⟨_, results_tmp rfl _ _ _, rfl, (chain HB.out HS.out (Nat.le_refl _)).trans (belowK_b (w := w) (Nat.le_refl _) w1 D _ _ (by have := HD.out; omega) hK' rfl rfl)⟩
  case stop =>
    rintro D c pre W' _ _ h _
    exact h.elim
end Go.Proofs.Ytiapllplhjhliaa
