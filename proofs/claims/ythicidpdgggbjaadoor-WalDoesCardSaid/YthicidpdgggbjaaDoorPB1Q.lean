/-
  A disk in memory, and the walks of Size, Writes, Down, Image, Fuse, Up, Twin, New.
  Conditions: disks of at most 100000 sectors.
-/
import Derived.Test.YthicidpdgggbjaaDoorPA3Q
namespace Go.Proofs.YthicidpdgggbjaaDoor
open Go.RowKit

/-- The two blocks of a disk. -/
def pl_own (g gs : Nat) : Nat → Prop := fun b => b = g ∨ b = gs
/-- Block g is a disk whose sectors lie in block gs; its bools lie outside X. -/
structure PlatAt (X : Nat → Prop) (w : World) (g gs cap : Nat) (sp : List Value) (A : Option Addr) (c : Nat) (S : List Sect) (wr fu : Int) (kp : List Bool) (dn : Bool) : Prop where
  box : w.heap[g]? = some (.cells #[.slice (some ⟨gs, 0, none⟩) S.length cap, .int .i64 wr, .int .i64 fu, .slice A kp.length c, .bool dn] 80 (0, 0))
  row : w.heap[gs]? = some (.cells (flat S ++ sp).toArray 68 (0, 0))
  ne : g ≠ gs
  cap1 : S.length ≤ cap
  cap2 : cap ≤ maxLen
  lies : Lz (fun b => b = g ∨ b = gs ∨ X b) w 1 A kp.length (BL kp)
  c1 : kp.length ≤ c
  c2 : c ≤ maxLen
def Plat (X : Nat → Prop) (w : World) (g gs : Nat) (S : List Sect) (wr fu : Int) (kp : List Bool) (dn : Bool) : Prop :=
  ∃ cap sp A c, PlatAt X w g gs cap sp A c S wr fu kp dn

section
variable {X Y : Nat → Prop} {w w' : World} {g gs cap c : Nat} {sp : List Value} {A : Option Addr} {S : List Sect} {wr fu : Int} {kp : List Bool} {dn : Bool}
theorem PlatAt.lt (h : PlatAt X w g gs cap sp A c S wr fu kp dn) : g < w.heap.size := (Array.getElem?_eq_some_iff.1 h.box).1
theorem PlatAt.lts (h : PlatAt X w g gs cap sp A c S wr fu kp dn) : gs < w.heap.size := (Array.getElem?_eq_some_iff.1 h.row).1
theorem PlatAt.cell0 (h : PlatAt X w g gs cap sp A c S wr fu kp dn) : w.cell? ⟨g, 0, none⟩ = some (.slice (some ⟨gs, 0, none⟩) S.length cap) := cell_of_row w g 0 _ _ _ h.box
theorem PlatAt.cell1 (h : PlatAt X w g gs cap sp A c S wr fu kp dn) : w.cell? ⟨g, 1, none⟩ = some (.int .i64 wr) := cell_of_row w g 1 _ _ _ h.box
theorem PlatAt.cell2 (h : PlatAt X w g gs cap sp A c S wr fu kp dn) : w.cell? ⟨g, 2, none⟩ = some (.int .i64 fu) := cell_of_row w g 2 _ _ _ h.box
theorem PlatAt.cell3 (h : PlatAt X w g gs cap sp A c S wr fu kp dn) : w.cell? ⟨g, 3, none⟩ = some (.slice A kp.length c) := cell_of_row w g 3 _ _ _ h.box
theorem PlatAt.cell4 (h : PlatAt X w g gs cap sp A c S wr fu kp dn) : w.cell? ⟨g, 4, none⟩ = some (.bool dn) := cell_of_row w g 4 _ _ _ h.box
theorem PlatAt.frozen (h : PlatAt X w g gs cap sp A c S wr fu kp dn) (i : Nat) : w.frozen? ⟨g, i, none⟩ = false := frozen_of_row w g i _ _ h.box
theorem PlatAt.sect (h : PlatAt X w g gs cap sp A c S wr fu kp dn) (hY : ∀ k, Y k → k ≠ gs) : Lz Y w 64 (some ⟨gs, 0, none⟩) S.length (flat S) := by
  refine ⟨flat_length S, fun _ => ⟨gs, 0, rfl, fun hy => hY gs hy rfl, h.lts, fun j v hv => ?_⟩⟩
  rw [cell_of_row w gs _ _ _ _ h.row, Nat.zero_add, List.getElem?_toArray, List.getElem?_append_left (List.getElem?_eq_some_iff.1 hv).1]
  exact hv
/-- A disk whose blocks and bools have not turned. -/
theorem PlatAt.kept (h : PlatAt X w g gs cap sp A c S wr fu kp dn) (hm : Mod Y w w') (h1 : ¬ Y g) (h2 : ¬ Y gs) (hY : ∀ k, k < w.heap.size → Y k → X k) : PlatAt X w' g gs cap sp A c S wr fu kp dn :=
  ⟨by rw [hm.block g h.lt h1]; exact h.box, by rw [hm.block gs h.lts h2]; exact h.row, h.ne, h.cap1, h.cap2, h.lies.keptY hm (fun k hk hy => .inr (.inr (hY k hk hy))), h.c1, h.c2⟩
theorem Plat.kept (h : Plat X w g gs S wr fu kp dn) (hm : Mod Y w w') (h1 : ¬ Y g) (h2 : ¬ Y gs) (hY : ∀ k, k < w.heap.size → Y k → X k) : Plat X w' g gs S wr fu kp dn := by
  obtain ⟨cap, sp, A, c, h⟩ := h
  exact ⟨cap, sp, A, c, h.kept hm h1 h2 hY⟩
theorem Plat.below (h : Plat X w g gs S wr fu kp dn) (hb : Below w.heap.size w w') : Plat X w' g gs S wr fu kp dn :=
  h.kept (Y := fun _ => False) (Mod.of_below hb _) (fun h => h) (fun h => h) (fun _ _ h => h.elim)
theorem Plat.drewN (h : Plat X w g gs S wr fu kp dn) (n : Nat) : Plat X (w.drewN n) g gs S wr fu kp dn :=
  h.kept (Y := fun _ => False) ((Mod.refl _ w).drewN n) (fun h => h) (fun h => h) (fun _ _ h => h.elim)
theorem Plat.mono (h : Plat X w g gs S wr fu kp dn) (hY : ∀ k, k < w.heap.size → Y k → X k) : Plat Y w g gs S wr fu kp dn := by
  obtain ⟨cap, sp, A, c, h⟩ := h
  refine ⟨cap, sp, A, c, h.box, h.row, h.ne, h.cap1, h.cap2, h.lies.mono fun k hk hy => ?_, h.c1, h.c2⟩
  rcases hy with hy | hy | hy
  · exact .inl hy
  · exact .inr (.inl hy)
  · exact .inr (.inr (hY k hk hy))
theorem Plat.lt (h : Plat X w g gs S wr fu kp dn) : g < w.heap.size ∧ gs < w.heap.size ∧ g ≠ gs := by
  obtain ⟨cap, sp, A, c, h⟩ := h
  exact ⟨h.lt, h.lts, h.ne⟩
/-- One cell of the disk's box is stored. -/
theorem PlatAt.put (h : PlatAt X w g gs cap sp A c S wr fu kp dn) (i : Nat) (u : Value) {cap' c' : Nat} {A' : Option Addr} {wr' fu' : Int} {kp' : List Bool} {dn' : Bool}
    (he : (#[.slice (some ⟨gs, 0, none⟩) S.length cap, .int .i64 wr, .int .i64 fu, .slice A kp.length c, .bool dn] : Array Value).setIfInBounds i u = #[.slice (some ⟨gs, 0, none⟩) S.length cap', .int .i64 wr', .int .i64 fu', .slice A' kp'.length c', .bool dn'])
    (h1 : S.length ≤ cap') (h2 : cap' ≤ maxLen) (h3 : Lz (fun b => b = g ∨ b = gs ∨ X b) w 1 A' kp'.length (BL kp')) (h4 : kp'.length ≤ c') (h5 : c' ≤ maxLen) :
    PlatAt X (w.setCell ⟨g, i, none⟩ u) g gs cap' sp A' c' S wr' fu' kp' dn' := by
  have hm : Mod (fun b => b = g) w (w.setCell ⟨g, i, none⟩ u) := Mod.setCell (X := fun b => b = g) (p := ⟨g, i, none⟩) (Mod.refl _ w) (.inl rfl) u
  refine ⟨by rw [heap_setCell_same w g i _ _ u h.box, he], by rw [hm.block gs h.lts fun e => h.ne e.symm]; exact h.row, h.ne, h1, h2, h3.keptY hm fun k _ e => .inl e, h4, h5⟩
end

section
variable (X : Nat → Prop) (g gs : Nat) (S : List Sect) (wr fu : Int) (kp : List Bool) (dn : Bool) (w : World)
set_option maxHeartbeats 400000 in
theorem size_any (h : Plat X w g gs S wr fu kp dn) :
    Calls Tryd.prog 32 #[.pointer (some ⟨g, 0, none⟩)] w fun e w' => e = .returned (.int .i64 S.length) ∧ w = w' := by
  obtain ⟨cap, sp, A, c, h⟩ := h
  have h0 := h.cell0
  clear h
  go_enter Tryd.func32, Tryd.ntmps32
  go_wp2
  go_ret
  exact ⟨rfl, rfl⟩
/-- What Fuse leaves. -/
def Fused (X : Nat → Prop) (w : World) (g gs : Nat) (S : List Sect) (wr fu : Int) (kp : List Bool) (dn : Bool) (e : Ending) (w' : World) : Prop :=
  e = .returned (.tuple #[]) ∧ Plat X w' g gs S wr fu kp dn ∧ Mod (pl_own g gs) w w'
set_option maxHeartbeats 400000 in
theorem fuse_any (n : Int) (K : Option Addr) (k kc : Nat) (kl : List Bool) (h : Plat X w g gs S wr fu kp dn) (hk : Lz (pl_own g gs) w 1 K k (BL kl)) (hkc : k ≤ kc) (hkm : kc ≤ maxLen) (hn : S.length ≤ 100000) (hX : ∀ k, X k → k < w.heap.size) :
    Calls Tryd.prog 36 #[.pointer (some ⟨g, 0, none⟩), .int .i64 n, .slice K k kc] w (Fused X w g gs S wr n (kl.take S.length) dn) := by
  obtain ⟨cap, sp, A, c, h⟩ := h
  have hkl : kl.length = k := by have := hk.len; rw [BL_length] at this; omega
  have hm0 : Mod (pl_own g gs) w (w.setCell ⟨g, 2, none⟩ (.int .i64 n)) := (Mod.refl _ w).setCell (.inl (.inl rfl)) _
  have h' : PlatAt X (w.setCell ⟨g, 2, none⟩ (.int .i64 n)) g gs cap sp A c S wr n kp dn := h.put 2 _ (by rfl) h.cap1 h.cap2 h.lies h.c1 h.c2
  have hk' := hk.kept hm0
  have c2 := h.cell2
  have f2 := h.frozen 2
  have c0 := h'.cell0
  have c3 := h'.cell3
  have f3 := h'.frozen 3
  have HM := Lib.hid hm0
  have CL : ∀ m : Nat, m ≤ k → m ≤ 100000 → Calls Tryd.prog 63 #[.slice K m kc] (w.setCell ⟨g, 2, none⟩ (.int .i64 n)) (RetK (w.setCell ⟨g, 2, none⟩ (.int .i64 n)) (kl.take m)) := fun m hm hm2 => by
    refine cloneK_any (pl_own g gs) m kc K (kl.take m) _ ?_ hm2
    have := hk'.head hm
    rw [Nat.mul_one, ← BL_take] at this
    exact this
  have FIN : ∀ (m : Nat) (w1 : World) (A1 : Option Addr) (c1 : Nat), kl.take m = kl.take S.length → (kl.take m).length = m → w1.ownsRow (w.setCell ⟨g, 2, none⟩ (.int .i64 n)).heap.size 4 1 (.slice A1 m c1) m (BL (kl.take m)) → Below (w.setCell ⟨g, 2, none⟩ (.int .i64 n)).heap.size (w.setCell ⟨g, 2, none⟩ (.int .i64 n)) w1 →
      Fused X w g gs S wr n (kl.take S.length) dn (.returned (.tuple #[])) (w1.setCell ⟨g, 3, none⟩ (.slice A1 m c1)) := by
    intro m w1 A1 c1 hm hml ho hb
    have hz : (w.setCell ⟨g, 2, none⟩ (.int .i64 n)).heap.size = w.heap.size := by simp [World.setCell]
    have h1 := h'.kept (Y := fun _ => False) (Mod.of_below hb _) (fun h => h) (fun h => h) (fun _ _ h => h.elim)
    obtain ⟨A2, c2, e2, hc2, hm2⟩ := pl_own_slice ho
    injection e2 with _ _ e3
    subst e3
    refine ⟨rfl, ⟨cap, sp, A1, c1, h1.put 3 _ (by rw [← hm, hml]; rfl) h.cap1 h.cap2 ?_ (by rw [← hm, hml]; exact hc2) hm2⟩, ?_⟩
    · rw [← hm, hml]
      refine Lz.of_own ho fun k hk => ?_
      rw [hz]
      rcases hk with rfl | rfl | hk
      · exact h.lt
      · exact h.lts
      · exact hX k hk
    · exact (hm0.trans (Mod.of_below hb _)).setCell (.inl (.inl rfl)) _
  have CLH := Lib.hid CL
  have FINH := Lib.hid FIN
  have HKL := Lib.hid hkl
  have cap1 := h.cap1
  have cap2 := h.cap2
  have hgz : g < (w.setCell ⟨g, 2, none⟩ (.int .i64 n)).heap.size := h'.lt
  clear h hk h' hk' hm0 CL FIN hkl
  unfold maxLen at hkm
  have HGZ := Lib.hid hgz
  clear hgz
  by_cases hlt : S.length < k
  · have CX := Lib.hid (CLH.out S.length (by omega) hn)
    have HLT := Lib.hid (show (kl.take S.length).length = S.length by rw [List.length_take, HKL.out]; omega)
    go_enter Tryd.func36, Tryd.ntmps36
    go_wp2_with (go_at_call 63; refine CX.out.mono ?_; rintro e w1 ⟨A1, c1, rfl, ho, hb⟩; rw [HLT.out] at ho ⊢; have HO := Lib.hid ho; clear ho; have HB := Lib.hid hb; have c31 := (hb.cell (p := ⟨g, 3, none⟩) HGZ.out).trans c3; have f31 := (hb.frozen (p := ⟨g, 3, none⟩) HGZ.out).trans f3; clear hb)
    go_end0
    exact FINH.out S.length w1 A1 c1 rfl HLT.out HO.out HB.out
  · have CX := Lib.hid (CLH.out k (Nat.le_refl _) (by omega))
    have HLT := Lib.hid (show (kl.take k).length = k by rw [List.length_take, HKL.out]; omega)
    have HTT := Lib.hid (show kl.take k = kl.take S.length by rw [List.take_of_length_le (by rw [HKL.out]; exact Nat.le_refl _), List.take_of_length_le (by rw [HKL.out]; omega)])
    go_enter Tryd.func36, Tryd.ntmps36
    go_wp2_with (go_at_call 63; refine CX.out.mono ?_; rintro e w1 ⟨A1, c1, rfl, ho, hb⟩; rw [HLT.out] at ho ⊢; have HO := Lib.hid ho; clear ho; have HB := Lib.hid hb; have c31 := (hb.cell (p := ⟨g, 3, none⟩) HGZ.out).trans c3; have f31 := (hb.frozen (p := ⟨g, 3, none⟩) HGZ.out).trans f3; clear hb)
    go_end0
    exact FINH.out k w1 A1 c1 HTT.out HLT.out HO.out HB.out
end
end Go.Proofs.YthicidpdgggbjaaDoor
