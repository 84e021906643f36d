/-
  slices.SortFunc over resources, laid over this program; the walks of cmp.Compare, cmp.Or, Compare.
  Conditions: none beyond those that each theorem names.
-/
import Derived.Test.YthbifccankfngaaGreatDoorY3
import Derived.Shelf.SlSortCmp.WholeK
import Derived.Shelf.SlLaysF0
import Derived.Shelf.SlSortCmp.NoneTotal
namespace Go.Proofs.YthbifccankfngaaGreatDoor
open Go.RowKit Go.Shelf
attribute [local go_sem] Oper.semAt_some
set_option maxRecDepth 20000

def laySort_ren : Go.Shelf.Ren := ⟨fun | 6 => 47 | 15 => 67 | 14 => 72 | 28 => 89 | 29 => 90 | 20 => 93 | 21 => 94 | 22 => 95 | 23 => 96 | 24 => 97 | 25 => 98 | 26 => 99 | 27 => 100 | 46 => 107 | 47 => 102 | 48 => 103 | 49 => 108 | 50 => 109 | 57 => 112 | n => n, fun | 22 => 40 | 24 => 33 | 25 => 56 | 3 => 3 | 39 => 108 | 0 => 0 | 53 => 129 | 55 => 31 | 4 => 4 | 46 => 121 | 45 => 120 | 50 => 126 | 5 => 5 | 9 => 9 | 66 => 139 | 70 => 143 | 76 => 147 | 77 => 148 | n => n, fun | n => n⟩
theorem laySort : Go.Proofs.SlLaysF0.n6 Tryz.prog laySort_ren := {
  mixed := by kernel_rfl
  f6 := ⟨Tryz.f47.name, by decide, Tryz.func47.trans (congrArg some (by kernel_rfl))⟩
  f14 := ⟨Tryz.f72.name, by decide, Tryz.func72.trans (congrArg some (by kernel_rfl))⟩
  f15 := Tryz.func67.trans (congrArg some (by kernel_rfl))
  f20 := ⟨Tryz.f93.name, by decide, Tryz.func93.trans (congrArg some (by kernel_rfl))⟩
  f21 := ⟨Tryz.f94.name, by decide, Tryz.func94.trans (congrArg some (by kernel_rfl))⟩
  f22 := ⟨Tryz.f95.name, by decide, Tryz.func95.trans (congrArg some (by kernel_rfl))⟩
  f23 := ⟨Tryz.f96.name, by decide, Tryz.func96.trans (congrArg some (by kernel_rfl))⟩
  f24 := ⟨Tryz.f97.name, by decide, Tryz.func97.trans (congrArg some (by kernel_rfl))⟩
  f25 := ⟨Tryz.f98.name, by decide, Tryz.func98.trans (congrArg some (by kernel_rfl))⟩
  f26 := ⟨Tryz.f99.name, by decide, Tryz.func99.trans (congrArg some (by kernel_rfl))⟩
  f27 := ⟨Tryz.f100.name, by decide, Tryz.func100.trans (congrArg some (by kernel_rfl))⟩
  f28 := Tryz.func89.trans (congrArg some (by kernel_rfl))
  f29 := Tryz.func90.trans (congrArg some (by kernel_rfl))
  f46 := ⟨Tryz.f107.name, by decide, Tryz.func107.trans (congrArg some (by kernel_rfl))⟩
  f47 := Tryz.func102.trans (congrArg some (by kernel_rfl))
  f48 := Tryz.func103.trans (congrArg some (by kernel_rfl))
  f49 := ⟨Tryz.f108.name, by decide, Tryz.func108.trans (congrArg some (by kernel_rfl))⟩
  f50 := ⟨Tryz.f109.name, by decide, Tryz.func109.trans (congrArg some (by kernel_rfl))⟩
  f57 := ⟨Tryz.f112.name, by decide, Tryz.func112.trans (congrArg some (by kernel_rfl))⟩
  t0 := Tryz.underlying0
  a0 := Tryz.isAgg0
  z0 := Tryz.sizeOf0
  v0 := Tryz.zeroValue0
  t3 := Tryz.underlying3
  a3 := Tryz.isAgg3
  z3 := Tryz.sizeOf3
  v3 := Tryz.zeroValue3
  t4 := Tryz.underlying4
  a4 := Tryz.isAgg4
  z4 := Tryz.sizeOf4
  v4 := Tryz.zeroValue4
  t5 := Tryz.underlying5
  a5 := Tryz.isAgg5
  z5 := Tryz.sizeOf5
  v5 := Tryz.zeroValue5
  t9 := Tryz.underlying9
  a9 := Tryz.isAgg9
  z9 := Tryz.sizeOf9
  v9 := Tryz.zeroValue9
  t22 := Tryz.underlying40
  a22 := Tryz.isAgg40
  z22 := Tryz.sizeOf40
  v22 := Tryz.zeroValue40
  t25 := Tryz.underlying56
  a25 := Tryz.isAgg56
  z25 := Tryz.sizeOf56
  v25 := Tryz.zeroValue56
  t39 := Tryz.underlying108
  a39 := Tryz.isAgg108
  z39 := Tryz.sizeOf108
  v39 := Tryz.zeroValue108
  t45 := Tryz.underlying120
  a45 := Tryz.isAgg120
  z45 := Tryz.sizeOf120
  v45 := Tryz.zeroValue120
  t46 := Tryz.underlying121
  a46 := Tryz.isAgg121
  z46 := Tryz.sizeOf121
  v46 := Tryz.zeroValue121
  t50 := Tryz.underlying126
  a50 := Tryz.isAgg126
  z50 := Tryz.sizeOf126
  v50 := Tryz.zeroValue126
  t53 := Tryz.underlying129
  a53 := Tryz.isAgg129
  z53 := Tryz.sizeOf129
  v53 := Tryz.zeroValue129
  t55 := Tryz.underlying31
  a55 := Tryz.isAgg31
  z55 := Tryz.sizeOf31
  v55 := Tryz.zeroValue31
  t66 := Tryz.underlying139
  a66 := Tryz.isAgg139
  z66 := Tryz.sizeOf139
  v66 := Tryz.zeroValue139
  t70 := Tryz.underlying143
  a70 := Tryz.isAgg143
  z70 := Tryz.sizeOf143
  v70 := Tryz.zeroValue143
  t76 := Tryz.underlying147
  a76 := Tryz.isAgg147
  z76 := Tryz.sizeOf147
  v76 := Tryz.zeroValue147
  t77 := Tryz.underlying148
  a77 := Tryz.isAgg148
  z77 := Tryz.sizeOf148
  v77 := Tryz.zeroValue148 }

def cmpZ (a b : Int) : Int := if a < b then -1 else if b < a then 1 else 0
def cmpR (a b : Rs) : Int := if cmpZ a.1 b.1 != 0 then cmpZ a.1 b.1 else cmpZ (a.2 : Int) (b.2 : Int)
theorem nanI_any (a : Int) (w : World) : Calls Tryz.prog 74 #[.int .i64 a] w fun e w' => e = .returned (.bool false) ∧ w = w' := by
  go_enter Tryz.func74, Tryz.ntmps74
  go_wp2_with fail
  go_ret
  simp
theorem nanU_any (a : Int) (w : World) : Calls Tryz.prog 75 #[.int .u64 a] w fun e w' => e = .returned (.bool false) ∧ w = w' := by
  go_enter Tryz.func75, Tryz.ntmps75
  go_wp2_with fail
  go_ret
  simp
theorem cmpI_any (a b : Int) (w : World) : Calls Tryz.prog 51 #[.int .i64 a, .int .i64 b] w fun e w' => e = .returned (.int .i64 (cmpZ a b)) ∧ w = w' := by
  unfold cmpZ
  by_cases h1 : a < b
  · rw [if_pos h1]
    go_enter Tryz.func51, Tryz.ntmps51
    go_wp2_with (go_at_call 74; refine (nanI_any _ w).mono ?_; rintro e z ⟨rfl, rfl⟩)
    go_ret
    exact ⟨rfl, rfl⟩
  · rw [if_neg h1]
    by_cases h2 : b < a
    · rw [if_pos h2]
      go_enter Tryz.func51, Tryz.ntmps51
      go_wp2_with (go_at_call 74; refine (nanI_any _ w).mono ?_; rintro e z ⟨rfl, rfl⟩)
      go_ret
      exact ⟨rfl, rfl⟩
    · rw [if_neg h2]
      go_enter Tryz.func51, Tryz.ntmps51
      go_wp2_with (go_at_call 74; refine (nanI_any _ w).mono ?_; rintro e z ⟨rfl, rfl⟩)
      go_ret
      exact ⟨rfl, rfl⟩
theorem cmpU_any (a b : Int) (w : World) : Calls Tryz.prog 52 #[.int .u64 a, .int .u64 b] w fun e w' => e = .returned (.int .i64 (cmpZ a b)) ∧ w = w' := by
  unfold cmpZ
  by_cases h1 : a < b
  · rw [if_pos h1]
    go_enter Tryz.func52, Tryz.ntmps52
    go_wp2_with (go_at_call 75; refine (nanU_any _ w).mono ?_; rintro e z ⟨rfl, rfl⟩)
    go_ret
    exact ⟨rfl, rfl⟩
  · rw [if_neg h1]
    by_cases h2 : b < a
    · rw [if_pos h2]
      go_enter Tryz.func52, Tryz.ntmps52
      go_wp2_with (go_at_call 75; refine (nanU_any _ w).mono ?_; rintro e z ⟨rfl, rfl⟩)
      go_ret
      exact ⟨rfl, rfl⟩
    · rw [if_neg h2]
      go_enter Tryz.func52, Tryz.ntmps52
      go_wp2_with (go_at_call 75; refine (nanU_any _ w).mono ?_; rintro e z ⟨rfl, rfl⟩)
      go_ret
      exact ⟨rfl, rfl⟩
def OrL (w : World) (x y : Int) (i : Value) (z : World) : Prop :=
  ∃ k : Nat, k ≤ 2 ∧ i = .int .i64 (k : Int) ∧ w = z ∧ (1 ≤ k → x = 0) ∧ (2 ≤ k → y = 0)
set_option maxHeartbeats 800000 in
theorem or_any (b : Nat) (x y : Int) (w : World) (h : At w b 3 #[.int .i64 x, .int .i64 y]) : Calls Tryz.prog 50 #[.slice (some ⟨b, 0, none⟩) 2 2] w fun e w' => e = .returned (.int .i64 (if x != 0 then x else y)) ∧ w = w' := by
  have c0 : w.cell? ⟨b, 0, none⟩ = some (.int .i64 x) := h.cell 0
  have c1 : w.cell? ⟨b, 1, none⟩ = some (.int .i64 y) := h.cell 1
  clear h
  go_enter Tryz.func50, Tryz.ntmps50
  go_wp2_with fail
  go_loopw [8] (fun i z => OrL w x y i z) (fun i _ => 2 - (intOf i).toNat)
  case atStart => exact ⟨0, by omega, rfl, rfl, by omega, by omega⟩
  case round =>
    obtain ⟨k, hk, rfl, rfl, h1, h2⟩ := hrel
    by_cases k0 : k = 0
    · subst k0
      cases hx : (x != 0)
      · have hx0 : x = 0 := by simpa using hx
        go_wp2_with fail
        exact ⟨⟨1, by omega, rfl, rfl, fun _ => hx0, by omega⟩, by simp [intOf]⟩
      · go_wp2_with fail
        go_ret
        exact ⟨rfl, rfl⟩
    · have hx0 := h1 (by omega)
      by_cases k1 : k = 1
      · subst k1
        cases hy : (y != 0)
        · have hy0 : y = 0 := by simpa using hy
          clear h1 h2
          go_wp2_with fail
          exact ⟨⟨2, by omega, rfl, rfl, fun _ => hx0, fun _ => hy0⟩, by simp [intOf]⟩
        · clear h1 h2
          go_wp2_with fail
          go_ret
          exact ⟨rfl, rfl⟩
      · obtain rfl : k = 2 := by omega
        have hy0 := h2 (by omega)
        clear h1 h2
        go_wp2_with fail
        go_ret
        exact ⟨by first | rfl | (simp [hy0]; done) | (rw [hy0]; rfl), rfl⟩
open Go.Sort in
theorem grow_cell {z wz : World} {q : Nat} {os : Array Obj} (h : wz = Go.Sort.grow (z.drewN q) os) (a : Addr) (ha : a.block < z.heap.size) : wz.cell? a = z.cell? a := by
  rw [h, Go.Sort.cell?_grow _ _ _ (by exact ha)]
  rfl
def GrD (z wz : World) : Prop := ∃ q os, wz = Go.Sort.grow (z.drewN q) os
theorem GrD.drew (z : World) : GrD z z.drew := ⟨1, #[], by rw [Go.Sort.grow_empty]; rfl⟩
theorem GrD.alloc {z wz : World} (h : GrD z wz) (o : Obj) : GrD z (wz.alloc o) := by
  obtain ⟨q, os, rfl⟩ := h
  exact ⟨q, os ++ #[o], by rw [Go.Sort.alloc_eq_grow, Go.Sort.grow_grow]⟩
theorem GrD.cell {z wz : World} (h : GrD z wz) {a : Addr} {v : Value} (hv : z.cell? a = some v) : wz.cell? a = some v := by
  obtain ⟨q, os, e⟩ := h
  rw [grow_cell e a (World.block_lt_of_cell? z a hv)]
  exact hv
theorem GrD.from {w z : World} {os : Array Obj} (hz : z = Go.Sort.grow w os) {wz : World} (h : GrD z wz) : GrD w wz := by
  obtain ⟨q, os', rfl⟩ := h
  exact ⟨q, os ++ os', by rw [hz, ← Go.Sort.grow_grow]; rfl⟩
theorem wp_lit2 {o : Oper} {a : Act} {w : World} {K : Act → World → Prop} {Q : Exit → Act → World → Prop} {X Y : Int} (d : Nat) (x y : Operand) (hop : o.dst = some d) (ho : o.op = .buildSlice 114 2 #[(0, x), (1, y)]) (hx : a.eval x = .int .i64 X) (hy : a.eval y = .int .i64 Y)
    (h : K (a.put (some d) (.slice (some ⟨w.heap.size, 0, none⟩) 2 2)) (w.alloc (.cells #[.int .i64 X, .int .i64 Y] 3))) : o.wp Tryz.prog a w K Q := by
  have hrun : (Instr.buildSlice 114 2 #[(0, .int .i64 X), (1, .int .i64 Y)]).run Tryz.prog w = .ok (.slice (some ⟨w.heap.size, 0, none⟩) 2 2) (w.alloc (.cells #[.int .i64 X, .int .i64 Y] 3)) := by go_simp
  unfold Oper.wp
  simp [execOp, ho, hx, hy, hrun, Result.andThen]
  simp only [Oper.upon]
  rw [hop]
  exact h
set_option maxHeartbeats 1600000 in
theorem compare_any (a b : Rs) (w : World) : Calls Tryz.prog 23 #[.agg (rsA a), .agg (rsA b)] w fun e w' => e = .returned (.int .i64 (cmpR a b)) ∧ GrD w w' := by
  obtain ⟨a1, a2⟩ := a
  obtain ⟨b1, b2⟩ := b
  obtain ⟨X, hX⟩ : ∃ X, cmpZ a1 b1 = X := ⟨_, rfl⟩
  obtain ⟨Y, hY⟩ : ∃ Y, cmpZ (a2 : Int) (b2 : Int) = Y := ⟨_, rfl⟩
  obtain ⟨R, hR⟩ : ∃ R, cmpR (a1, a2) (b1, b2) = R := ⟨_, rfl⟩
  have HR : Hid ((if X != 0 then X else Y) = R) := by
    show _ = _
    rw [← hR, ← hX, ← hY]
    rfl
  have HCI : Hid (∀ W, Calls Tryz.prog 51 #[.int .i64 a1, .int .i64 b1] W fun e w' => e = .returned (.int .i64 X) ∧ W = w') := fun W => by
    have := cmpI_any a1 b1 W
    rwa [hX] at this
  have HCU : Hid (∀ W, Calls Tryz.prog 52 #[.int .u64 (a2 : Int), .int .u64 (b2 : Int)] W fun e w' => e = .returned (.int .i64 Y) ∧ W = w') := fun W => by
    have := cmpU_any (a2 : Int) (b2 : Int) W
    rwa [hY] at this
  rw [hR]
  obtain ⟨z, hz⟩ : ∃ z, (w.alloc (.cells (rsA (a1, a2)) 33)).alloc (.cells (rsA (b1, b2)) 33) = z := ⟨_, rfl⟩
  have HZ : Hid (z = Go.Sort.grow w (#[.cells (rsA (a1, a2)) 33] ++ #[.cells (rsA (b1, b2)) 33])) := by
    show _ = _
    rw [← hz, Go.Sort.alloc_eq_grow, Go.Sort.alloc_eq_grow, Go.Sort.grow_grow]
  have A2 : At z w.heap.size 33 (rsA (a1, a2)) := hz ▸ (At.new w 33 (rsA (a1, a2))).alloc _
  have A3 : At z (w.heap.size + 1) 33 (rsA (b1, b2)) := by
    have := At.new (w.alloc (.cells (rsA (a1, a2)) 33)) 33 (rsA (b1, b2))
    rw [hz] at this
    simpa using this
  have c0 : z.cell? ⟨w.heap.size, 0, none⟩ = some (.int .i64 a1) := A2.cell 0
  have c1 : z.cell? ⟨w.heap.size, 1, none⟩ = some (.int .u64 (a2 : Int)) := A2.cell 1
  have c2 : z.cell? ⟨w.heap.size + 1, 0, none⟩ = some (.int .i64 b1) := A3.cell 0
  have c3 : z.cell? ⟨w.heap.size + 1, 1, none⟩ = some (.int .u64 (b2 : Int)) := A3.cell 1
  clear A2 A3 hX hY hR
  unfold rsA at *
  go_enter Tryz.func23, Tryz.ntmps23
  go_upto_region 1 with fail
  clear hz
  refine wp_region_held_drew (S := GrD z) (by kernel_rfl) (GrD.drew z) (fun hS => ?_)
  refine tk 0 hS ?_
  refine tk 1 hS ?_ (hy := by intro wz hz; have p0 := hz.cell c0; have p1 := hz.cell c1; have p2 := hz.cell c2; have p3 := hz.cell c3; go_simp <;> with_reducible rfl)
  refine tk 2 hS ?_
  refine tk 3 hS ?_ (hy := by intro wz hz; have p0 := hz.cell c0; have p1 := hz.cell c1; have p2 := hz.cell c2; have p3 := hz.cell c3; go_simp <;> with_reducible rfl)
  refine tk 5 hS ?_
  refine tk 6 hS ?_ (hy := by intro wz hz; have p0 := hz.cell c0; have p1 := hz.cell c1; have p2 := hz.cell c2; have p3 := hz.cell c3; go_simp <;> with_reducible rfl)
  refine tk 7 hS ?_
  refine tk 8 hS ?_ (hy := by intro wz hz; have p0 := hz.cell c0; have p1 := hz.cell c1; have p2 := hz.cell c2; have p3 := hz.cell c3; go_simp <;> with_reducible rfl)
  refine wpAnyH_ready (rs := [4]) (by kernel_rfl) (by simp) ?_
  refine AllReadyH.cons rfl (fun K hK => ?_) AllReadyH.nil
  go_simp
  refine (HCI.out _).mono ?_
  rintro e y1 ⟨rfl, rfl⟩
  have hb : True := trivial
  refine hK.out _ _ (hS) (fun hT => ?_)
  clear hK hb hS
  have hS := hT
  clear hT
  refine wpAnyH_ready (rs := [9]) (by kernel_rfl) (by simp) ?_
  refine AllReadyH.cons rfl (fun K hK => ?_) AllReadyH.nil
  go_simp
  refine (HCU.out _).mono ?_
  rintro e y2 ⟨rfl, rfl⟩
  have hb : True := trivial
  refine hK.out _ _ (hS) (fun hT => ?_)
  clear hK hb hS
  have hS := hT
  clear hT
  refine wpAnyH_ready (rs := [10]) (by kernel_rfl) (by simp) ?_
  refine AllReadyH.cons rfl (fun K hK => ?_) AllReadyH.nil
  rw [if_pos (by rfl)]
  refine wp_lit2 15 (.tmp 9) (.tmp 14) rfl rfl rfl rfl ?_
  refine hK.out _ _ (hS.alloc _) (fun hT => ?_)
  clear hK hS
  have hS := hT
  clear hT
  refine wpAnyH_ready (rs := [11]) (by kernel_rfl) (by simp) ?_
  refine AllReadyH.cons rfl (fun K hK => ?_) AllReadyH.nil
  go_simp
  have hor := (or_any z.heap.size X Y (z.alloc (.cells #[.int .i64 X, .int .i64 Y] 3)).drew (show At (z.alloc (.cells #[.int .i64 X, .int .i64 Y] 3)).drew z.heap.size 3 #[.int .i64 X, .int .i64 Y] from At.new z 3 #[.int .i64 X, .int .i64 Y]))
  rw [HR.out] at hor
  refine hor.mono ?_
  clear hor
  rintro e y3 ⟨rfl, rfl⟩
  refine hK.out _ _ (hS) (fun hT => ?_)
  clear hK hS
  have hS := hT
  clear hT
  refine tk 12 hS ?_
  refine wpAnyH_done (by kernel_rfl) ?_ _
  go_wp2_with fail
  go_ret
  exact ⟨rfl, GrD.from HZ.out hS⟩
end Go.Proofs.YthbifccankfngaaGreatDoor
