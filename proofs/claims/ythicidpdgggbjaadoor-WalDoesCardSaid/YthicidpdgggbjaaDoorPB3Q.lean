/-
  The walks of New, cut and Read, and of the reference's New.
  Conditions: disks of at most 100000 sectors.
-/
import Derived.Test.YthicidpdgggbjaaDoorPB2Q
namespace Go.Proofs.YthicidpdgggbjaaDoor
open Go.RowKit

theorem made_zero (n : Nat) : madeCells (secA zsec) (n * 64) = (flat (List.replicate n zsec)).toArray := by
  apply Array.ext_getElem?
  intro j
  rw [flat_zero]
  conv => rhs; rw [List.getElem?_toArray, List.getElem?_replicate]
  by_cases h : j < n * 64
  · rw [if_pos h]
    have h64 : j % 64 < 64 := Nat.mod_lt _ (by omega)
    have hh : (secA zsec)[j % (secA zsec).size]! = .int .u8 0 := by
      rw [secA_size, getElem!_def, zsec_lit, Array.getElem?_replicate, if_pos h64]
    simp only [madeCells, Array.getElem?_map]
    rw [Array.getElem?_range]
    simp only [h, if_true, Option.map_some]
    rw [hh]
  · rw [if_neg h, Array.getElem?_eq_none (by rw [size_madeCells]; omega)]

theorem make_any (n : Nat) (hn : n ≤ 100000) (w : World) : (Instr.makeSlice 62 (.int .i64 (n : Int)) (.int .i64 (n : Int))).run Tryd.prog w =
    .ok (.slice (some ⟨w.heap.size, 0, none⟩) n n) (w.alloc (.cells (flat (List.replicate n zsec)).toArray 68)) := by
  obtain ⟨i0, hi0, hz0, hz1, hz2⟩ := info_parts arr_info3
  have := run_make (P := Tryd.prog) w 62 68 i0 _ Tryd.underlying62 hi0 hz0 .i64 .i64 n n (by omega) (by omega) (by rw [hz2]; omega) (by omega)
  simp only [Int.toNat_natCast] at this
  rw [this, hz1, ← made_zero]
  rfl

/-- What New returns. -/
def Newed (X : Nat → Prop) (w : World) (n : Nat) (e : Ending) (w' : World) : Prop :=
  ∃ g gs, e = .returned (.tuple #[.pointer (some ⟨g, 0, none⟩), .int .i64 0]) ∧ w.heap.size ≤ g ∧ w.heap.size ≤ gs ∧ Plat X w' g gs (List.replicate n zsec) 0 (-1) [] false ∧ Below w.heap.size w w'
set_option maxHeartbeats 400000 in
theorem new_ok (X : Nat → Prop) (n : Nat) (w : World) (h1 : 1 ≤ n) (h2 : n ≤ 16384) : Calls Tryd.prog 8 #[.int .i64 n] w (Newed X w n) := by
  have hmk := make_any n (by omega)
  go_enter Tryd.func8, Tryd.ntmps8
  go_wp2_with fail
  go_ret2
  refine ⟨w.heap.size + 1, w.heap.size, rfl, by omega, by omega, ⟨n, [], none, 0, ?_, ?_, by omega, by simp, by simp only [maxLen]; omega, Lz.empty, by simp, by simp [maxLen]⟩, ?_⟩
  · have := heap_alloc2_new w (.cells (flat (List.replicate n zsec)).toArray 68) (.cells #[.slice (some ⟨w.heap.size, 0, none⟩) n n, .int .i64 0, .int .i64 (-1), .slice none 0 0, .bool false] 80)
    simpa using this
  · rw [List.append_nil]
    exact heap_alloc2_old w _ _
  · exact ((Below.refl _ _).alloc (Nat.le_refl _) _).alloc (by simp) _
set_option maxHeartbeats 400000 in
theorem new_bad (n : Int) (w : World) (h : n < 1 ∨ 16384 < n) : Calls Tryd.prog 8 #[.int .i64 n] w fun e w' => e = .returned (.tuple #[.pointer none, .int .i64 2]) ∧ w = w' := by
  by_cases h1 : n < 1
  · go_enter Tryd.func8, Tryd.ntmps8
    go_wp2_with fail
    go_ret2
    exact ⟨rfl, rfl⟩
  · have h2 : 16384 < n := by omega
    go_enter Tryd.func8, Tryd.ntmps8
    go_wp2_with fail
    go_ret2
    exact ⟨rfl, rfl⟩

theorem row_range (w : World) (b : Nat) (cs : List Value) (t : TypeId) (h : w.heap[b]? = some (.cells cs.toArray t (0, 0))) : w.rangeAt b 0 cs := fun j v hv => by
  rw [cell_of_row w b _ _ _ _ h, Nat.zero_add, List.getElem?_toArray]
  exact hv
/-- Sector p exists, and there are n sectors from it on. -/
def Inside (s : Nat) (p n : Int) : Prop := 0 ≤ p ∧ p < s ∧ 0 ≤ n ∧ n ≤ s - p
instance (s : Nat) (p n : Int) : Decidable (Inside s p n) := by unfold Inside; infer_instance

section
variable (X : Nat → Prop) (g gs : Nat) (S : List Sect) (wr fu : Int) (kp : List Bool) (dn : Bool) (w : World)
set_option maxHeartbeats 800000 in
theorem cut_bad (p n : Int) (h : Plat X w g gs S wr fu kp dn) (hn : S.length ≤ 100000) (hi : ¬ Inside S.length p n) :
    Calls Tryd.prog 61 #[.pointer (some ⟨g, 0, none⟩), .int .i64 p, .int .i64 n] w fun e w' => e = .returned (.tuple #[.slice none 0 0, .int .i64 2]) ∧ w = w' := by
  obtain ⟨cap, sp, A, c, h⟩ := h
  have h0 := h.cell0
  unfold Inside at hi
  clear h
  by_cases h1 : p < 0
  · go_enter Tryd.func61, Tryd.ntmps61
    go_wp2_with fail
    go_ret2
    exact ⟨rfl, rfl⟩
  · by_cases h2 : (S.length : Int) ≤ p
    · go_enter Tryd.func61, Tryd.ntmps61
      go_wp2_with fail
      go_ret2
      exact ⟨rfl, rfl⟩
    · by_cases h3 : n < 0
      · go_enter Tryd.func61, Tryd.ntmps61
        go_wp2_with fail
        go_ret2
        exact ⟨rfl, rfl⟩
      · have h4 : (S.length : Int) - p < n := by omega
        have d4 : decide ((S.length : Int) - p < n) = true := by simpa using h4
        clear hi
        go_enter Tryd.func61, Tryd.ntmps61
        go_wp2_with fail
        go_ret2
        exact ⟨rfl, rfl⟩
set_option maxHeartbeats 800000 in
theorem cut_down (p n : Int) (h : Plat X w g gs S wr fu kp true) (hn : S.length ≤ 100000) (hi : Inside S.length p n) :
    Calls Tryd.prog 61 #[.pointer (some ⟨g, 0, none⟩), .int .i64 p, .int .i64 n] w fun e w' => e = .returned (.tuple #[.slice none 0 0, .int .i64 4]) ∧ w = w' := by
  obtain ⟨cap, sp, A, c, h⟩ := h
  have h0 := h.cell0
  have h4 := h.cell4
  obtain ⟨i1, i2, i3, i4⟩ := hi
  clear h
  have d1 : decide (p < 0) = false := by simpa using i1
  have d2 : decide ((S.length : Int) ≤ p) = false := by simpa using i2
  have d3 : decide (n < 0) = false := by simpa using i3
  have d4 : decide ((S.length : Int) - p < n) = false := by simpa using i4
  go_enter Tryd.func61, Tryd.ntmps61
  go_wp2_with fail
  go_ret2
  exact ⟨rfl, rfl⟩
set_option maxHeartbeats 800000 in
theorem cut_ok (p n : Nat) (h : Plat X w g gs S wr fu kp false) (hn : S.length ≤ 100000) (hp : p < S.length) (hi : p + n ≤ S.length) :
    Calls Tryd.prog 61 #[.pointer (some ⟨g, 0, none⟩), .int .i64 p, .int .i64 n] w fun e w' => e = .returned (.tuple #[.slice (some ⟨gs, (if n = 0 then 0 else p * 64), none⟩) n n, .int .i64 0]) ∧ w = w' := by
  obtain ⟨cap, sp, A, c, h⟩ := h
  have h0 := h.cell0
  have h4 := h.cell4
  have hc := h.cap1
  clear h
  have d1 : decide ((p : Int) < 0) = false := by simp
  have d2 : decide ((S.length : Int) ≤ (p : Int)) = false := by simp; omega
  have d2' : decide (S.length ≤ p) = false := by simp; omega
  have d3 : decide ((n : Int) < 0) = false := by simp
  have d4 : decide ((S.length : Int) - (p : Int) < (n : Int)) = false := by simp; omega
  go_enter Tryd.func61, Tryd.ntmps61
  go_wp2_with fail
  all_goals (go_ret2; exact ⟨rfl, rfl⟩)

theorem PlatAt.part {X Y : Nat → Prop} {w : World} {g gs cap c : Nat} {sp : List Value} {A : Option Addr} {S : List Sect} {wr fu : Int} {kp : List Bool} {dn : Bool} (h : PlatAt X w g gs cap sp A c S wr fu kp dn) (hY : ∀ k, Y k → k ≠ gs) {p n : Nat} (hi : p + n ≤ S.length) :
    Lz Y w 64 (some ⟨gs, (if n = 0 then 0 else p * 64), none⟩) n (flat ((S.drop p).take n)) := by
  have h1 := (h.sect (Y := Y) hY).tail (k := p) (by omega) (some ⟨gs, p * 64, none⟩) (fun _ => by simp [add_plain])
  have h2 := h1.head (k := n) (by omega)
  rw [flat_drop, flat_take] at h2
  by_cases hn : n = 0
  · subst hn
    rw [if_pos rfl, List.take_zero]
    exact Lz.empty
  · rw [if_neg hn]
    exact h2
def RetRead (w : World) (l : List Sect) (e : Ending) (w' : World) : Prop :=
  ∃ A c, e = .returned (.tuple #[.slice A l.length c, .int .i64 0]) ∧ w'.ownsRow w.heap.size 68 64 (.slice A l.length c) l.length (flat l) ∧ Below w.heap.size w w'
set_option maxHeartbeats 400000 in
theorem read_core (o : Nat) (p n : Nat) (L : List Sect) (hn : n ≤ 100000)
    (cu : Calls Tryd.prog 61 #[.pointer (some ⟨g, 0, none⟩), .int .i64 p, .int .i64 n] w fun e w' => e = .returned (.tuple #[.slice (some ⟨gs, o, none⟩) n n, .int .i64 0]) ∧ w = w') (hl : Lz (fun _ => False) w 64 (some ⟨gs, o, none⟩) n (flat L)) :
    Calls Tryd.prog 50 #[.pointer (some ⟨g, 0, none⟩), .int .i64 p, .int .i64 n] w (RetRead w L) := by
  have CU := Lib.hid cu
  have CL := Lib.hid (cloneS_any (fun _ => False) n n _ L w hl hn)
  clear cu hl
  go_enter Tryd.func50, Tryd.ntmps50
  go_wp2_with (first
    | (go_at_call 61; refine CU.out.mono ?_; rintro e w1 ⟨rfl, rfl⟩)
    | (go_at_call 64; refine CL.out.mono ?_; rintro e w1 ⟨A1, c1, rfl, ho, hb⟩; have HO := Lib.hid ho; clear ho))
  go_ret2
  exact ⟨A1, c1, rfl, HO.out, hb⟩
theorem read_ok (p n : Nat) (h : Plat X w g gs S wr fu kp false) (hn : S.length ≤ 100000) (hp : p < S.length) (hi : p + n ≤ S.length) :
    Calls Tryd.prog 50 #[.pointer (some ⟨g, 0, none⟩), .int .i64 p, .int .i64 n] w (RetRead w ((S.drop p).take n)) := by
  have CU := cut_ok X g gs S wr fu kp w p n h hn hp hi
  obtain ⟨cap, sp, A, c, h⟩ := h
  exact read_core g gs w _ p n _ (by omega) CU (h.part (fun _ h => h.elim) hi)
set_option maxHeartbeats 400000 in
theorem read_no (p n : Int) (code : Int) (hc : Calls Tryd.prog 61 #[.pointer (some ⟨g, 0, none⟩), .int .i64 p, .int .i64 n] w fun e w' => e = .returned (.tuple #[.slice none 0 0, .int .i64 code]) ∧ w = w') :
    Calls Tryd.prog 50 #[.pointer (some ⟨g, 0, none⟩), .int .i64 p, .int .i64 n] w fun e w' => e = .returned (.tuple #[.slice none 0 0, .int .i64 code]) ∧ w = w' := by
  have CU := Lib.hid hc
  clear hc
  go_enter Tryd.func50, Tryd.ntmps50
  go_wp2_with (first
    | (go_at_call 61; refine CU.out.mono ?_; rintro e w1 ⟨rfl, rfl⟩)
    | (go_at_call 64; refine (cloneS_none 0 0 _).mono ?_; rintro e w1 ⟨rfl, rfl⟩))
  go_ret2
  exact ⟨rfl, rfl⟩
end
end Go.Proofs.YthicidpdgggbjaaDoor
