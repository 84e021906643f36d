/-
  The walk of 'works': it returns true in every memory in which the table of math/bits lies in its variable, and writes nothing that was there.
  Conditions: the table lies there.
-/
import Derived.Test.YtkhfmldheclddaaDoorW6
namespace Go.Proofs.YtkhfmldheclddaaDoor
open Go.RowKit

theorem lies_cells (w : World) (cs : Array Value) (t : TypeId) (fr : Nat × Nat) : Lies (w.alloc (.cells cs t fr)) (w.heap.size + 1) 1 (some ⟨w.heap.size, 0, none⟩) cs.size cs.toList := by
  refine ⟨by simp, fun _ => ⟨_, rfl, Nat.lt_succ_self _, fun j u hu => ?_⟩⟩
  rw [Addr.add_lit]
  rw [Array.getElem?_toList] at hu
  rw [cell_of_row _ _ _ _ _ _ (heap_alloc_new w _)]
  simpa using hu

theorem below_n (B : Nat) (w : World) (n : Nat) : Below B w (w.drewN n) := ⟨rfl, rfl, rfl, Nat.le_refl _, fun _ _ => rfl⟩

def l8 : List Nat := [1, 2, 3, 4, 5, 6, 7, 8]
theorem l8_low : (side false 0 l8).length = 5 := by decide +kernel
theorem l8_high : (side true 0 l8).length = 3 := by decide +kernel
theorem m0 : Mx.mix 0 = 16294208416658607535 := by decide +kernel
theorem um0 : Mx.unmix 16294208416658607535 = 0 := by decide +kernel
theorem lo8 : Mx.mix 0 % 2 ^ 8 = 175 := by decide +kernel
theorem lo0 : Mx.mix 0 % 2 ^ 0 = 0 := by decide +kernel
theorem b00 : bitB 0 0 = true := by decide +kernel
theorem b064 : bitB 0 64 = false := by decide +kernel
theorem al55 : Mx.alike (Mx.mix 5) (Mx.mix 5) = 64 := (Mx.alike_all (Mx.mix_lt 5) (Mx.mix_lt 5)).2 rfl

def Eight (w : World) (e : Ending) (w' : World) : Prop :=
  ∃ A1 c1 A2 c2, e = .returned (.tuple #[.slice A1 5 c1, .slice A2 3 c2]) ∧ Below w.heap.size w w'
theorem split_eight (w : World) (fr : Nat × Nat) (cs : Array Value) (hcs : cs.toList = UC l8) :
    Calls Tryd.prog 9 #[.slice (some ⟨w.heap.size, 0, none⟩) 8 8, .int .i64 0] (w.alloc (.cells cs 22 fr)) (Eight w) := by
  have h := lies_cells w cs 22 fr
  have hn : cs.size = 8 := by rw [← Array.length_toList, hcs]; rfl
  rw [hcs, hn] at h
  have hs : (w.alloc (.cells cs 22 fr)).heap.size = w.heap.size + 1 := by simp
  refine (split_any 8 8 _ l8 0 _ (by rw [hs]; exact h) (by omega)).mono ?_
  rintro e w1 ⟨u, v, rfl, h2⟩
  obtain ⟨n1, h1⟩ := h2.a
  obtain ⟨n2, h3⟩ := h2.b
  obtain ⟨A1, c1, rfl, _, _⟩ := own_slice h1
  obtain ⟨A2, c2, rfl, _, _⟩ := own_slice h3
  obtain rfl : n1 = 5 := by have := h1.1; rw [UC_length, l8_low] at this; omega
  obtain rfl : n2 = 3 := by have := h3.1; rw [UC_length, l8_high] at this; omega
  have := h2.old
  rw [hs] at this
  exact ⟨A1, c1, A2, c2, rfl, ((Below.refl _ _).alloc (Nat.le_refl _) _).trans (this.mono (by omega))⟩

set_option maxHeartbeats 2000000 in
theorem works_any (w : World) (hT : Tab w) : Calls Tryd.prog 8 #[] w fun e w' => e = .returned (.bool true) ∧ Below w.heap.size w w' := by
  have HT := Lib.hid hT
  clear hT
  go_enter Tryd.func8, Tryd.ntmps8
  go_wp2_with fail
  refine (split_eight w _ _ rfl).mono ?_
  rintro e w1 ⟨A1, c1, A2, c2, rfl, hb1⟩
  have HT1 := Lib.hid (HT.out.under hb1)
  clear HT
  go_wp2_with fail
  refine (mix_any 0 _).mono ?_
  rintro e w' ⟨rfl, rfl⟩
  rw [m0]
  go_wp2_with fail
  refine (unmix_any 16294208416658607535 w1 (by decide)).mono ?_
  rintro e w' ⟨rfl, n1, rfl⟩
  rw [um0]
  go_wp2_with fail
  refine (low_any 0 8 _ (by decide)).mono ?_
  rintro e w' ⟨rfl, n2, rfl⟩
  rw [lo8]
  go_wp2_with fail
  refine (low_any 0 0 _ (by decide)).mono ?_
  rintro e w' ⟨rfl, n3, rfl⟩
  rw [lo0]
  go_wp2_with fail
  refine (bit_any 0 0 _).mono ?_
  rintro e w' ⟨rfl, rfl⟩
  rw [b00]
  go_wp2_with fail
  refine (bit_any 0 64 _).mono ?_
  rintro e w' ⟨rfl, rfl⟩
  rw [b064]
  go_wp2_with fail
  refine (alike_any 5 5 _ (HT1.out.under (below_n _ _ _))).mono ?_
  rintro e w' ⟨rfl, rfl⟩
  rw [al55]
  go_wp2_with fail
  go_ret
  exact ⟨rfl, hb1.trans (below_n _ _ _)⟩
end Go.Proofs.YtkhfmldheclddaaDoor
