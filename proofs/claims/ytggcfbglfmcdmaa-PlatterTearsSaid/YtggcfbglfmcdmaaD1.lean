/-
  The walk of same: a disk and the reference's disk agree.
  Conditions: disks of at most 100000 sectors.
-/
import Derived.Test.YtggcfbglfmcdmaaC3
namespace Go.Proofs.Ytggcfbglfmcdmaa
open Go.RowKit

theorem below_drewN {B : Nat} {a w : World} (h : Below B a w) (n : Nat) : Below B a (w.drewN n) := ⟨h.os, h.tape, h.output, h.size, h.block⟩
theorem SB.under {w z z' : World} {R : Array Value} (h : SB w R z) (hb : Below z.heap.size z z') : SB w R z' := by
  have hl := (Array.getElem?_eq_some_iff.1 h.box).1
  exact ⟨h.below.trans (hb.mono (by omega)), by rw [hb.block _ hl]; exact h.box⟩
theorem SB.cellAt {w z : World} {R : Array Value} (h : SB w R z) {i : Nat} {v : Value} (hv : R[i]? = some v) : z.cell? ⟨w.heap.size, i, none⟩ = some v := by
  rw [cell_of_row z _ i _ _ _ h.box, hv]
theorem same_is (X Y : Nat → Prop) (n1 c1 n2 c2 : Nat) (A1 A2 : Option Addr) (l : List Int) (w : World) (h1 : Lz X w 64 A1 n1 (flat l)) (h2 : Lz Y w 64 A2 n2 (flat l)) (hn1 : n1 ≤ 100000) (hn2 : n2 ≤ 100000) :
    Calls Try.prog 17 #[.slice A1 n1 c1, .slice A2 n2 c2] w fun e w' => e = .returned (.bool true) ∧ ∃ m, w' = w.drewN m := by
  have := same_any X Y n1 c1 n2 c2 A1 A2 l l w h1 h2 hn1 hn2
  rw [beq_self_eq_true] at this
  exact this

set_option maxHeartbeats 4000000 in
set_option maxRecDepth 100000 in
theorem agree_any (X : Nat → Prop) (g gs : Nat) (S : List Int) (nw fu : Int) (kp : List Bool) (dn : Bool) (w : World) (A : Option Addr) (c : Nat) (fu2 : Int) (K : Option Addr) (k kc : Nat)
    (hp : Plat X w g gs S nw fu kp dn) (hr : Lz X w 64 A S.length (flat S)) (hs : S.length ≤ 100000) :
    Calls Try.prog 11 #[.pointer (some ⟨g, 0, none⟩), .agg #[.slice A S.length c, .int .i64 nw, .int .i64 fu2, .slice K k kc, .bool dn]] w fun e w' => e = .returned (.bool true) ∧ Below w.heap.size w w' := by
  have HP := Lib.hid hp
  have HR := Lib.hid hr
  clear hp hr
  go_enter Try.func11, Try.ntmps11
  go_wp2_with fail
  refine wp_region_held_drew (S := SB w #[.slice A S.length c, .int .i64 nw, .int .i64 fu2, .slice K k kc, .bool dn]) (by kernel_rfl) ⟨((Below.refl _ _).alloc (Nat.le_refl _) _).drew, heap_alloc_new w _⟩ (fun hS => ?_)
  refine takeH (i := 0) (d := 5) (v := ?vg0) rfl (by kernel_rfl) (by kernel_rfl) (by kernel_rfl) (fun _ _ _ h => h) rfl (by rfl) ?yg0 hS ?rg0
  case yg0 => (intro wz hz; have hc0 := hz.cellAt (i := 0) rfl; have hc1 := hz.cellAt (i := 1) rfl; have hc4 := hz.cellAt (i := 4) rfl; go_simp <;> with_reducible rfl)
  simp only [List.setIfInBounds_toArray, List.set_cons_zero, List.set_cons_succ]
  refine takeH (i := 2) (d := 7) (v := ?vg2) rfl (by kernel_rfl) (by kernel_rfl) (by kernel_rfl) (fun _ _ _ h => h) rfl (by rfl) ?yg2 hS ?rg2
  case yg2 => (intro wz hz; have hc0 := hz.cellAt (i := 0) rfl; have hc1 := hz.cellAt (i := 1) rfl; have hc4 := hz.cellAt (i := 4) rfl; go_simp <;> with_reducible rfl)
  simp only [List.setIfInBounds_toArray, List.set_cons_zero, List.set_cons_succ]
  refine takeH (i := 3) (d := 8) (v := ?vg3) rfl (by kernel_rfl) (by kernel_rfl) (by kernel_rfl) (fun _ _ _ h => h) rfl (by rfl) ?yg3 hS ?rg3
  case yg3 => (intro wz hz; have hc0 := hz.cellAt (i := 0) rfl; have hc1 := hz.cellAt (i := 1) rfl; have hc4 := hz.cellAt (i := 4) rfl; go_simp <;> with_reducible rfl)
  simp only [List.setIfInBounds_toArray, List.set_cons_zero, List.set_cons_succ]
  refine wpAnyH_ready (rs := [1]) (by kernel_rfl) (by simp) ?_
  refine AllReadyH.cons rfl (fun K hK => ?_) AllReadyH.nil
  go_simp
  refine (image_any X g gs S nw fu kp dn _ (HP.out.below hS.below) hs).mono ?_
  rintro e w1 ⟨A1, c1, rfl, ho, hb⟩
  have HO := Lib.hid ho
  clear ho
  refine hK.out _ _ (hS.under hb) (fun hT => ?_)
  clear hK hb hS
  have hS := hT
  clear hT
  refine wpAnyH_ready (rs := [4]) (by kernel_rfl) (by simp) ?_
  refine AllReadyH.cons rfl (fun K hK => ?_) AllReadyH.nil
  go_simp
  refine (same_is (fun _ => False) (fun _ => False) _ _ _ _ _ _ S _ (Lz.of_own HO.out (fun _ h => h.elim)) ((HR.out.below hS.below).mono (fun _ _ h => h.elim)) hs hs).mono ?_
  rintro e w2 ⟨rfl, m, rfl⟩
  have hb : Below w1.heap.size w1 (w1.drewN m) := below_drewN (Below.refl _ _) m
  refine hK.out _ _ (hS.under hb) (fun hT => ?_)
  clear hK hb hS
  have hS := hT
  clear hT
  refine takeH (i := 5) (d := 10) (v := ?vg5) rfl (by kernel_rfl) (by kernel_rfl) (by kernel_rfl) (fun _ _ _ h => h) rfl (by rfl) ?yg5 hS ?rg5
  case yg5 => (intro wz hz; have hc0 := hz.cellAt (i := 0) rfl; have hc1 := hz.cellAt (i := 1) rfl; have hc4 := hz.cellAt (i := 4) rfl; go_simp <;> with_reducible rfl)
  simp only [List.setIfInBounds_toArray, List.set_cons_zero, List.set_cons_succ]
  refine takeH (i := 6) (d := 11) (v := ?vg6) rfl (by kernel_rfl) (by kernel_rfl) (by kernel_rfl) (fun _ _ _ h => h) rfl (by rfl) ?yg6 hS ?rg6
  case yg6 => (intro wz hz; have hc0 := hz.cellAt (i := 0) rfl; have hc1 := hz.cellAt (i := 1) rfl; have hc4 := hz.cellAt (i := 4) rfl; go_simp <;> with_reducible rfl)
  simp only [List.setIfInBounds_toArray, List.set_cons_zero, List.set_cons_succ]
  refine takeH (i := 8) (d := 13) (v := ?vg8) rfl (by kernel_rfl) (by kernel_rfl) (by kernel_rfl) (fun _ _ _ h => h) rfl (by rfl) ?yg8 hS ?rg8
  case yg8 => (intro wz hz; have hc0 := hz.cellAt (i := 0) rfl; have hc1 := hz.cellAt (i := 1) rfl; have hc4 := hz.cellAt (i := 4) rfl; go_simp <;> with_reducible rfl)
  simp only [List.setIfInBounds_toArray, List.set_cons_zero, List.set_cons_succ]
  refine takeH (i := 9) (d := 14) (v := ?vg9) rfl (by kernel_rfl) (by kernel_rfl) (by kernel_rfl) (fun _ _ _ h => h) rfl (by rfl) ?yg9 hS ?rg9
  case yg9 => (intro wz hz; have hc0 := hz.cellAt (i := 0) rfl; have hc1 := hz.cellAt (i := 1) rfl; have hc4 := hz.cellAt (i := 4) rfl; go_simp <;> with_reducible rfl)
  simp only [List.setIfInBounds_toArray, List.set_cons_zero, List.set_cons_succ]
  refine takeH (i := 10) (d := 15) (v := ?vg10) rfl (by kernel_rfl) (by kernel_rfl) (by kernel_rfl) (fun _ _ _ h => h) rfl (by rfl) ?yg10 hS ?rg10
  case yg10 => (intro wz hz; have hc0 := hz.cellAt (i := 0) rfl; have hc1 := hz.cellAt (i := 1) rfl; have hc4 := hz.cellAt (i := 4) rfl; go_simp <;> with_reducible rfl)
  simp only [List.setIfInBounds_toArray, List.set_cons_zero, List.set_cons_succ]
  refine wpAnyH_ready (rs := [7]) (by kernel_rfl) (by simp) ?_
  refine AllReadyH.cons rfl (fun K hK => ?_) AllReadyH.nil
  go_simp
  refine (size_any X g gs S nw fu kp dn _ (HP.out.below hS.below)).mono ?_
  rintro e w3 ⟨rfl, rfl⟩
  have hb := trivial
  refine hK.out _ _ (hS) (fun hT => ?_)
  clear hK hb hS
  have hS := hT
  clear hT
  refine takeH (i := 11) (d := 16) (v := ?vg11) rfl (by kernel_rfl) (by kernel_rfl) (by kernel_rfl) (fun _ _ _ h => h) rfl (by rfl) ?yg11 hS ?rg11
  case yg11 => (intro wz hz; have hc0 := hz.cellAt (i := 0) rfl; have hc1 := hz.cellAt (i := 1) rfl; have hc4 := hz.cellAt (i := 4) rfl; go_simp <;> with_reducible rfl)
  simp only [List.setIfInBounds_toArray, List.set_cons_zero, List.set_cons_succ]
  refine takeH (i := 12) (d := 17) (v := ?vg12) rfl (by kernel_rfl) (by kernel_rfl) (by kernel_rfl) (fun _ _ _ h => h) rfl (by rfl) ?yg12 hS ?rg12
  case yg12 => (intro wz hz; have hc0 := hz.cellAt (i := 0) rfl; have hc1 := hz.cellAt (i := 1) rfl; have hc4 := hz.cellAt (i := 4) rfl; go_simp <;> with_reducible rfl)
  simp only [List.setIfInBounds_toArray, List.set_cons_zero, List.set_cons_succ]
  refine takeH (i := 13) (d := 18) (v := ?vg13) rfl (by kernel_rfl) (by kernel_rfl) (by kernel_rfl) (fun _ _ _ h => h) rfl (by rfl) ?yg13 hS ?rg13
  case yg13 => (intro wz hz; have hc0 := hz.cellAt (i := 0) rfl; have hc1 := hz.cellAt (i := 1) rfl; have hc4 := hz.cellAt (i := 4) rfl; go_simp <;> with_reducible rfl)
  simp only [List.setIfInBounds_toArray, List.set_cons_zero, List.set_cons_succ]
  refine takeH (i := 14) (d := 19) (v := ?vg14) rfl (by kernel_rfl) (by kernel_rfl) (by kernel_rfl) (fun _ _ _ h => h) rfl (by rfl) ?yg14 hS ?rg14
  case yg14 => (intro wz hz; have hc0 := hz.cellAt (i := 0) rfl; have hc1 := hz.cellAt (i := 1) rfl; have hc4 := hz.cellAt (i := 4) rfl; go_simp <;> with_reducible rfl)
  simp only [List.setIfInBounds_toArray, List.set_cons_zero, List.set_cons_succ]
  refine takeH (i := 16) (d := 21) (v := ?vg16) rfl (by kernel_rfl) (by kernel_rfl) (by kernel_rfl) (fun _ _ _ h => h) rfl (by rfl) ?yg16 hS ?rg16
  case yg16 => (intro wz hz; have hc0 := hz.cellAt (i := 0) rfl; have hc1 := hz.cellAt (i := 1) rfl; have hc4 := hz.cellAt (i := 4) rfl; go_simp <;> with_reducible rfl)
  simp only [List.setIfInBounds_toArray, List.set_cons_zero, List.set_cons_succ]
  refine takeH (i := 17) (d := 22) (v := ?vg17) rfl (by kernel_rfl) (by kernel_rfl) (by kernel_rfl) (fun _ _ _ h => h) rfl (by rfl) ?yg17 hS ?rg17
  case yg17 => (intro wz hz; have hc0 := hz.cellAt (i := 0) rfl; have hc1 := hz.cellAt (i := 1) rfl; have hc4 := hz.cellAt (i := 4) rfl; go_simp <;> with_reducible rfl)
  simp only [List.setIfInBounds_toArray, List.set_cons_zero, List.set_cons_succ]
  refine wpAnyH_ready (rs := [15]) (by kernel_rfl) (by simp) ?_
  refine AllReadyH.cons rfl (fun K hK => ?_) AllReadyH.nil
  go_simp
  refine (writes_any X g gs S nw fu kp dn _ (HP.out.below hS.below)).mono ?_
  rintro e w3 ⟨rfl, rfl⟩
  have hb := trivial
  refine hK.out _ _ (hS) (fun hT => ?_)
  clear hK hb hS
  have hS := hT
  clear hT
  refine takeH (i := 18) (d := 23) (v := ?vg18) rfl (by kernel_rfl) (by kernel_rfl) (by kernel_rfl) (fun _ _ _ h => h) rfl (by rfl) ?yg18 hS ?rg18
  case yg18 => (intro wz hz; have hc0 := hz.cellAt (i := 0) rfl; have hc1 := hz.cellAt (i := 1) rfl; have hc4 := hz.cellAt (i := 4) rfl; go_simp <;> with_reducible rfl)
  simp only [List.setIfInBounds_toArray, List.set_cons_zero, List.set_cons_succ]
  refine takeH (i := 19) (d := 24) (v := ?vg19) rfl (by kernel_rfl) (by kernel_rfl) (by kernel_rfl) (fun _ _ _ h => h) rfl (by rfl) ?yg19 hS ?rg19
  case yg19 => (intro wz hz; have hc0 := hz.cellAt (i := 0) rfl; have hc1 := hz.cellAt (i := 1) rfl; have hc4 := hz.cellAt (i := 4) rfl; go_simp <;> with_reducible rfl)
  simp only [List.setIfInBounds_toArray, List.set_cons_zero, List.set_cons_succ]
  refine takeH (i := 20) (d := 25) (v := ?vg20) rfl (by kernel_rfl) (by kernel_rfl) (by kernel_rfl) (fun _ _ _ h => h) rfl (by rfl) ?yg20 hS ?rg20
  case yg20 => (intro wz hz; have hc0 := hz.cellAt (i := 0) rfl; have hc1 := hz.cellAt (i := 1) rfl; have hc4 := hz.cellAt (i := 4) rfl; go_simp <;> with_reducible rfl)
  simp only [List.setIfInBounds_toArray, List.set_cons_zero, List.set_cons_succ]
  refine takeH (i := 21) (d := 26) (v := ?vg21) rfl (by kernel_rfl) (by kernel_rfl) (by kernel_rfl) (fun _ _ _ h => h) rfl (by rfl) ?yg21 hS ?rg21
  case yg21 => (intro wz hz; have hc0 := hz.cellAt (i := 0) rfl; have hc1 := hz.cellAt (i := 1) rfl; have hc4 := hz.cellAt (i := 4) rfl; go_simp <;> with_reducible rfl)
  simp only [List.setIfInBounds_toArray, List.set_cons_zero, List.set_cons_succ]
  refine takeH (i := 23) (d := 28) (v := ?vg23) rfl (by kernel_rfl) (by kernel_rfl) (by kernel_rfl) (fun _ _ _ h => h) rfl (by rfl) ?yg23 hS ?rg23
  case yg23 => (intro wz hz; have hc0 := hz.cellAt (i := 0) rfl; have hc1 := hz.cellAt (i := 1) rfl; have hc4 := hz.cellAt (i := 4) rfl; go_simp <;> with_reducible rfl)
  simp only [List.setIfInBounds_toArray, List.set_cons_zero, List.set_cons_succ]
  refine takeH (i := 24) (d := 29) (v := ?vg24) rfl (by kernel_rfl) (by kernel_rfl) (by kernel_rfl) (fun _ _ _ h => h) rfl (by rfl) ?yg24 hS ?rg24
  case yg24 => (intro wz hz; have hc0 := hz.cellAt (i := 0) rfl; have hc1 := hz.cellAt (i := 1) rfl; have hc4 := hz.cellAt (i := 4) rfl; go_simp <;> with_reducible rfl)
  simp only [List.setIfInBounds_toArray, List.set_cons_zero, List.set_cons_succ]
  refine wpAnyH_ready (rs := [22]) (by kernel_rfl) (by simp) ?_
  refine AllReadyH.cons rfl (fun K hK => ?_) AllReadyH.nil
  go_simp
  refine (down_any X g gs S nw fu kp dn _ (HP.out.below hS.below)).mono ?_
  rintro e w3 ⟨rfl, rfl⟩
  have hb := trivial
  refine hK.out _ _ (hS) (fun hT => ?_)
  clear hK hb hS
  have hS := hT
  clear hT
  refine takeH (i := 25) (d := 30) (v := ?vg25) rfl (by kernel_rfl) (by kernel_rfl) (by kernel_rfl) (fun _ _ _ h => h) rfl (by rfl) ?yg25 hS ?rg25
  case yg25 => (intro wz hz; have hc0 := hz.cellAt (i := 0) rfl; have hc1 := hz.cellAt (i := 1) rfl; have hc4 := hz.cellAt (i := 4) rfl; go_simp <;> with_reducible rfl)
  simp only [List.setIfInBounds_toArray, List.set_cons_zero, List.set_cons_succ]
  refine takeH (i := 26) (d := 31) (v := ?vg26) rfl (by kernel_rfl) (by kernel_rfl) (by kernel_rfl) (fun _ _ _ h => h) rfl (by rfl) ?yg26 hS ?rg26
  case yg26 => (intro wz hz; have hc0 := hz.cellAt (i := 0) rfl; have hc1 := hz.cellAt (i := 1) rfl; have hc4 := hz.cellAt (i := 4) rfl; go_simp <;> with_reducible rfl)
  simp only [List.setIfInBounds_toArray, List.set_cons_zero, List.set_cons_succ]
  refine takeH (i := 27) (d := 4) (v := ?vg27) rfl (by kernel_rfl) (by kernel_rfl) (by kernel_rfl) (fun _ _ _ h => h) rfl (by rfl) ?yg27 hS ?rg27
  case yg27 => (intro wz hz; have hc0 := hz.cellAt (i := 0) rfl; have hc1 := hz.cellAt (i := 1) rfl; have hc4 := hz.cellAt (i := 4) rfl; go_simp <;> with_reducible rfl)
  simp only [List.setIfInBounds_toArray, List.set_cons_zero, List.set_cons_succ]
  refine wpAnyH_done (by kernel_rfl) ?_ _
  have HS := Lib.hid hS
  clear hS
  go_wp2_with fail
  go_ret
  exact ⟨rfl, HS.out.below⟩
end Go.Proofs.Ytggcfbglfmcdmaa
