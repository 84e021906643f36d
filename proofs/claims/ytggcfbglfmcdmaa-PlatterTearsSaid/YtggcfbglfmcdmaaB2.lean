/-
  The walks of Up, Twin, New.
  Conditions: disks of at most 100000 sectors.
-/
import Derived.Test.YtggcfbglfmcdmaaB1
import Derived.Laws.MakeOwn
import Derived.Laws.Entries
namespace Go.Proofs.Ytggcfbglfmcdmaa
open Go.RowKit

section
variable (X : Nat → Prop) (g gs : Nat) (S : List Int) (wr fu : Int) (kp : List Bool) (dn : Bool) (w : World)
theorem fuse_never (h : Plat X w g gs S wr fu kp dn) (hn : S.length ≤ 100000) (hX : ∀ k, X k → k < w.heap.size) :
    Calls Try.prog 14 #[.pointer (some ⟨g, 0, none⟩), .int .i64 (-1), .slice none 0 0] w (Fused X w g gs S wr (-1) [] dn) := by
  have := fuse_any X g gs S wr fu kp dn w (-1) none 0 0 [] h Lz.empty (Nat.le_refl _) (by simp [maxLen]) hn hX
  simpa using this
theorem put_down {X : Nat → Prop} {w : World} {g gs : Nat} {S : List Int} {wr fu : Int} {kp : List Bool} {dn : Bool} (h : Plat X w g gs S wr fu kp dn) (b : Bool) : Plat X (w.setCell ⟨g, 4, none⟩ (.bool b)) g gs S wr fu kp b := by
  obtain ⟨cap, sp, A, c, h⟩ := h
  exact ⟨cap, sp, A, c, h.put 4 _ (by rfl) h.cap1 h.cap2 h.lies h.c1 h.c2⟩
theorem box_cells {X : Nat → Prop} {w : World} {g gs : Nat} {S : List Int} {wr fu : Int} {kp : List Bool} {dn : Bool} (h : Plat X w g gs S wr fu kp dn) :
    w.cell? ⟨g, 4, none⟩ = some (.bool dn) ∧ w.frozen? ⟨g, 4, none⟩ = false ∧ w.cell? ⟨g, 2, none⟩ = some (.int .i64 fu) ∧ w.frozen? ⟨g, 2, none⟩ = false ∧ w.cell? ⟨g, 1, none⟩ = some (.int .i64 wr) ∧ w.frozen? ⟨g, 1, none⟩ = false := by
  obtain ⟨cap, sp, A, c, h⟩ := h
  exact ⟨h.cell4, h.frozen 4, h.cell2, h.frozen 2, h.cell1, h.frozen 1⟩
set_option maxHeartbeats 400000 in
theorem up_any (h : Plat X w g gs S wr fu kp dn) (hn : S.length ≤ 100000) (hX : ∀ k, X k → k < w.heap.size) :
    Calls Try.prog 12 #[.pointer (some ⟨g, 0, none⟩)] w (Fused X w g gs S wr (-1) [] false) := by
  have FU := Lib.hid (fuse_never X g gs S wr fu kp dn w h hn hX)
  clear h
  go_enter Try.func12, Try.ntmps12
  go_wp2_with (go_at_call 14; refine FU.out.mono ?_; rintro e w1 ⟨rfl, hp, hm⟩; have HP := Lib.hid hp; have HM := Lib.hid hm; clear hm; obtain ⟨c4, f4, _⟩ := box_cells hp; clear hp)
  go_end0
  exact ⟨rfl, put_down HP.out false, HM.out.setCell (.inl (.inl rfl)) _⟩

/-- What Twin returns. -/
def Twinned (X : Nat → Prop) (w : World) (S : List Int) (wr fu : Int) (kp : List Bool) (dn : Bool) (e : Ending) (w' : World) : Prop :=
  ∃ g2 gs2, e = .returned (.pointer (some ⟨g2, 0, none⟩)) ∧ w.heap.size ≤ g2 ∧ w.heap.size ≤ gs2 ∧ Plat X w' g2 gs2 S wr fu kp dn ∧ Below w.heap.size w w'

theorem twin_fin {X : Nat → Prop} {w w2 w4 : World} {S : List Int} {wr fu : Int} {kp : List Bool} {dn : Bool} {C : Array Value} {A0 A A1 A2 : Option Addr} {cap c c1 c2 n0 : Nat} (hX : ∀ k, X k → k < w.heap.size) (hS : 0 < S.length)
    (hC : C = #[.slice A0 n0 cap, .int .i64 wr, .int .i64 fu, .slice A kp.length c, .bool dn])
    (ho : w2.ownsRow (w.alloc (.cells C 55)).heap.size 48 64 (.slice A1 S.length c1) S.length (flat S)) (hb : Below (w.alloc (.cells C 55)).heap.size (w.alloc (.cells C 55)) w2)
    (ho2 : w4.ownsRow (w2.setCell ⟨w.heap.size, 0, none⟩ (.slice A1 S.length c1)).heap.size 4 1 (.slice A2 kp.length c2) kp.length (BL kp))
    (hb2 : Below (w2.setCell ⟨w.heap.size, 0, none⟩ (.slice A1 S.length c1)).heap.size (w2.setCell ⟨w.heap.size, 0, none⟩ (.slice A1 S.length c1)) w4) :
    Twinned X w S wr fu kp dn (.returned (.pointer (some ⟨w.heap.size, 0, none⟩))) (w4.setCell ⟨w.heap.size, 3, none⟩ (.slice A2 kp.length c2)) := by
  have z1 : (w.alloc (.cells C 55)).heap.size = w.heap.size + 1 := by simp
  have z2 : (w2.setCell ⟨w.heap.size, 0, none⟩ (.slice A1 S.length c1)).heap.size = w2.heap.size := by simp [World.setCell]
  have s2 := hb.size
  have s4 := hb2.size
  rw [z1] at s2 ho
  rw [z2] at s4 ho2
  obtain ⟨Aw, cw, e1, hc1, hm1⟩ := own_slice ho
  injection e1 with _ _ e1
  subst e1
  obtain ⟨Aw, cw, e2, hc2, hm2⟩ := own_slice ho2
  injection e2 with _ _ e2
  subst e2
  rcases ho.2 with ⟨_, h0⟩ | ⟨gs2, capx, cur, hv, hbg, hg, _, _, hcs, htk⟩
  · omega
  injection hv with hA1
  subst hA1
  have hlt := (Array.getElem?_eq_some_iff.1 hg).1
  have b2 : w2.heap[w.heap.size]? = some (.cells C 55 (0, 0)) := by rw [hb.block _ (by omega)]; exact heap_alloc_new w _
  have b3 := heap_setCell_same w2 w.heap.size 0 C 55 (.slice (some ⟨gs2, 0, none⟩) S.length c1) b2
  have b4 : w4.heap[w.heap.size]? = _ := (hb2.block _ (by rw [z2]; omega)).trans b3
  have b5 := heap_setCell_same w4 w.heap.size 3 _ 55 (.slice A2 kp.length c2) b4
  have r4 : w4.heap[gs2]? = some (.cells cur 48 (0, 0)) := by
    rw [hb2.block _ (by rw [z2]; exact hlt), Below.heap_setCell _ _ _ _ (by show gs2 ≠ w.heap.size; omega)]
    exact hg
  have r5 : (w4.setCell ⟨w.heap.size, 3, none⟩ (.slice A2 kp.length c2)).heap[gs2]? = some (.cells cur 48 (0, 0)) := by
    rw [Below.heap_setCell _ _ _ _ (by show gs2 ≠ w.heap.size; omega)]
    exact r4
  have hcur : cur = (flat S ++ cur.toList.drop (S.length * 64)).toArray := by
    rw [← htk, List.take_append_drop]
  refine ⟨w.heap.size, gs2, rfl, Nat.le_refl _, by omega, ⟨c1, cur.toList.drop (S.length * 64), A2, c2, ?_, ?_, by omega, hc1, hm1, ?_, hc2, hm2⟩, ?_⟩
  · rw [b5, hC]
    rfl
  · rw [r5, ← hcur]
  · have hl := Lz.of_own (X := fun b => b = w.heap.size ∨ b = gs2 ∨ X b) ho2 (fun k hk => by
      rcases hk with rfl | rfl | hk
      · omega
      · exact hlt
      · have := hX k hk; omega)
    exact hl.keptY (Y := fun b => b = w.heap.size) (Mod.setCell (X := fun b => b = w.heap.size) (p := ⟨w.heap.size, 3, none⟩) (Mod.refl _ w4) (.inl rfl) _) (fun k _ e => .inl e)
  · have B1 : Below w.heap.size w w2 := ((Below.refl _ w).alloc (Nat.le_refl _) _).trans (hb.mono (by omega))
    exact ((B1.setCell (p := ⟨w.heap.size, 0, none⟩) (Nat.le_refl _) _).trans (hb2.mono (by rw [z2]; omega))).setCell (Nat.le_refl _) _

set_option maxHeartbeats 800000 in
theorem twin_any (h : Plat X w g gs S wr fu kp dn) (hn : S.length ≤ 100000) (h0 : 0 < S.length) (hk : kp.length ≤ 100000) (hX : ∀ k, X k → k < w.heap.size) :
    Calls Try.prog 9 #[.pointer (some ⟨g, 0, none⟩)] w (Twinned X w S wr fu kp dn) := by
  obtain ⟨cap, sp, A, c, h⟩ := h
  have a0 := h.cell0
  have a1 := h.cell1
  have a2 := h.cell2
  have a3 := h.cell3
  have a4 := h.cell4
  have hlt := h.lt
  have hne := h.ne
  have CS : ∀ W, Below w.heap.size w W → Calls Try.prog 23 #[.slice (some ⟨gs, 0, none⟩) S.length cap] W (RetS W S) := fun W hb =>
    cloneS_any (fun _ => False) S.length cap _ S W ((h.sect (Y := fun _ => False) fun _ h => h.elim).below hb) hn
  have CK : ∀ W, Below w.heap.size w W → Calls Try.prog 24 #[.slice A kp.length c] W (RetK W kp) := fun W hb =>
    cloneK_any _ kp.length c A kp W (h.lies.below hb) hk
  have HCS := Lib.hid CS
  have HCK := Lib.hid CK
  have HX := Lib.hid hX
  have HH := Lib.hid h
  clear h CS CK hX
  go_enter Try.func9, Try.ntmps9
  have hnb : g ≠ w.heap.size := by omega
  have hnb2 : ¬ w.heap.size = g := by omega
  go_wp2_with (first
    | (go_at_call 23; refine (HCS.out _ ((Below.refl _ w).alloc (Nat.le_refl _) _)).mono ?_; rintro e w2 ⟨A1, c1, rfl, ho, hb⟩
       have HO := Lib.hid ho
       have HB := Lib.hid hb
       have HB2 := Lib.hid (((Below.refl _ w).alloc (Nat.le_refl _) _).trans (hb.mono (by simp)))
       have d3 := (HB2.out.cell (p := ⟨g, 3, none⟩) hlt).trans a3
       have e0 := (hb.cell (p := ⟨w.heap.size, 0, none⟩) (by simp)).trans (cell_of_row _ _ 0 _ _ _ (heap_alloc_new w _))
       have e1 := (hb.frozen (p := ⟨w.heap.size, 0, none⟩) (by simp)).trans (frozen_of_row _ _ 0 _ _ (heap_alloc_new w _))
       have e3 := (hb.cell (p := ⟨w.heap.size, 3, none⟩) (by simp)).trans (cell_of_row _ _ 3 _ _ _ (heap_alloc_new w _))
       have e4 := (hb.frozen (p := ⟨w.heap.size, 3, none⟩) (by simp)).trans (frozen_of_row _ _ 3 _ _ (heap_alloc_new w _))
       have hz2 : w.heap.size < w2.heap.size := by have := hb.size; simp at this; omega
       clear ho hb)
    | (go_at_call 24; refine (HCK.out _ (HB2.out.setCell (p := ⟨w.heap.size, 0, none⟩) (Nat.le_refl _) _)).mono ?_; rintro e w4 ⟨A2, c2, rfl, ho, hb⟩
       have HO2 := Lib.hid ho
       have HB4 := Lib.hid hb
       have g3 := hb.cell (p := ⟨w.heap.size, 3, none⟩) (by simpa [World.setCell] using hz2)
       have g4 := hb.frozen (p := ⟨w.heap.size, 3, none⟩) (by simpa [World.setCell] using hz2)
       rw [World.cell?_setCell_other _ _ _ _ (by simp), e3] at g3
       rw [World.frozen?_setCell, e4] at g4
       clear ho hb))
  go_ret
  exact twin_fin HX.out h0 rfl HO.out HB.out HO2.out HB4.out
end
end Go.Proofs.Ytggcfbglfmcdmaa
