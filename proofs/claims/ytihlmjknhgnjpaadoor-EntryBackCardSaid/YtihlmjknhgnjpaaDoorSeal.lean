/-
  The walks of littleEndian, seal.Put and the reference's Put.
  Conditions: at most 100000 bytes.
-/
import Derived.Test.YtihlmjknhgnjpaaDoorPut
namespace Go.Proofs.YtihlmjknhgnjpaaDoor
open Go.RowKit
set_option maxRecDepth 8000
open Crc (regI)

theorem lies_cells (w : World) (cs : Array Value) (t : TypeId) (fr : Nat × Nat) : Lies (w.alloc (.cells cs t fr)) (w.heap.size + 1) 1 (some ⟨w.heap.size, 0, none⟩) cs.size cs.toList := by
  refine ⟨by simp, fun _ => ⟨_, rfl, Nat.lt_succ_self _, fun j u hu => ?_⟩⟩
  have hadd : (⟨w.heap.size, 0, none⟩ : Addr).add j = ⟨w.heap.size, j, none⟩ := by unfold Addr.add; split <;> simp_all
  rw [hadd, cell_of_row _ w.heap.size j cs t fr (heap_alloc_new w _)]
  simpa using hu

def LeR (w : World) (s : Nat) (out i : Value) (wr : World) : Prop :=
  ∃ k : Nat, k ≤ 4 ∧ i = .int .i64 k ∧ Hid (wr.ownsRow w.heap.size 5 1 out k (BC ((Crc.le4 s).take k))) ∧ Below w.heap.size w wr

theorem le_byte (s k : Nat) (h : k < 4) : (regI s / 2 ^ (8 * k) % 256) = (((Crc.le4 s)[k]'(by simpa [Crc.le4] using h)).toNat : Int) := by
  have e : ∀ m : Nat, ((s : Int) / 2 ^ m % 256) = ((UInt8.ofNat (s >>> m)).toNat : Int) := by
    intro m
    rw [UInt8.toNat_ofNat', Nat.shiftRight_eq_div_pow, Int.natCast_emod, Int.natCast_ediv, Int.natCast_pow]
    rfl
  unfold regI
  match k, h with
  | 0, _ => exact e 0
  | 1, _ => exact e 8
  | 2, _ => exact e 16
  | 3, _ => exact e 24

set_option maxHeartbeats 400000 in
theorem le_any (s : Nat) (w : World) (hs : s < 2 ^ 32) : Calls Tryd.prog 44 #[.int .u32 (regI s)] w (RetB w (Crc.le4 s)) := by
  obtain ⟨i0, hi0, hz0, hz1, hz2⟩ := info_parts u8_info
  have hsb := Crc.regI_lt hs
  go_enter Tryd.func44, Tryd.ntmps44
  go_wp2_with fail
  go_loopw [3, 5] (fun out i wr => LeR w s out i wr) (fun _ i _ => 4 - (intOf i).toNat)
  case atStart => exact ⟨0, by omega, rfl, Lib.hid (World.ownsRow_nil w w.heap.size 5 1), Below.refl _ _⟩
  case round =>
    obtain ⟨k, hk, rfl, ho, hb⟩ := hrel
    by_cases hlt : k < 4
    · go_wp2_with (at_builtin; refine wpList_app _ rfl (.tmp 8) (.tmp 14) _ rfl w.heap.size 5 i0 _ 1 1 Tryd.underlying32 hi0 hz0 hz1 hz2 rfl (by omega) _ _ _ rfl (ho.out.alloc _) _ _ _ _ _ rfl (lies_new _ _ _) (by intro u hu; rw [List.mem_singleton.1 hu]; rfl) (by simp only [maxLen]; omega) (by omega) (by have := hb.size; simp; omega) ?_; intro v2 w2 hown2 hg)
      refine ⟨⟨k + 1, by omega, by go_num, Lib.hid (own_len hown2 ?_), below_own (hb.alloc hb.size _) (ho.out.alloc _) hg (Nat.le_refl _) (by have := hb.size; simp; omega)⟩, by simp [intOf]; omega⟩
      rw [take_snoc (Crc.le4 s) k (by simpa [Crc.le4] using hlt), BC_append, le_byte s k hlt]
      rfl
    · go_wp2_with fail
      go_ret
      obtain rfl : k = 4 := by omega
      exact RetB.mk ho.out hb

theorem le4_length (s : Nat) : (Crc.le4 s).length = 4 := rfl
/-- The sealed bytes. -/
def sealL (l : List UInt8) : List UInt8 := l ++ Crc.le4 (Crc.sumN l)
theorem sealL_length (l : List UInt8) : (sealL l).length = l.length + 4 := by simp [sealL, le4_length]

set_option maxHeartbeats 400000 in
theorem put_any (B n c : Nat) (A : Option Addr) (l : List UInt8) (w : World) (h : Lies w B 1 A n (BC l)) (hB : B ≤ w.heap.size) (hn : n ≤ 90000) :
    Calls Tryd.prog 23 #[.slice A n c] w (RetB w (sealL l)) := by
  obtain ⟨i0, hi0, hz0, hz1, hz2⟩ := info_parts u8_info
  have hl : l.length = n := by have := h.len; rw [BC_length] at this; omega
  have HL := Lib.hid hl
  have HH := Lib.hid h
  clear hl h
  go_enter Tryd.func23, Tryd.ntmps23
  go_wp2_with fail
  refine (clone_any B n c A l w HH.out hB (by omega)).mono ?_
  rintro e w1 ⟨A1, c1, rfl, ho1, hb1⟩
  rw [HL.out] at ho1 ⊢
  have s1 := hb1.size
  have H1 := Lib.hid (HH.out.under (hb1.mono hB))
  have O1 := Lib.hid ho1
  clear ho1 HH
  go_wp2_with fail
  refine (sum_any B n c A l w1 H1.out (by omega) (by omega)).mono ?_
  rintro e w2 ⟨rfl, hb2⟩
  have s2 := hb2.size
  have O2 := Lib.hid (own_under O1.out hb2 (Nat.le_refl _))
  have B2 := hb1.trans (hb2.mono s1)
  clear O1 hb1 H1 hb2
  go_wp2_with fail
  refine (le_any (Crc.sumN l) w2 (Crc.sumN_lt l)).mono ?_
  rintro e w3 ⟨A3, c3, rfl, ho3, hb3⟩
  rw [le4_length] at ho3 ⊢
  have s3 := hb3.size
  have L3 := Lib.hid (Lies.of_own ho3)
  have O3 := Lib.hid (own_under O2.out hb3 (Nat.le_refl _))
  have B3 := B2.trans (hb3.mono B2.size)
  clear O2 hb3 ho3 B2
  go_wp2_with (at_builtin; refine wpList_app _ rfl (.tmp 4) (.tmp 7) _ rfl w.heap.size 5 i0 _ 1 1 Tryd.underlying32 hi0 hz0 hz1 hz2 rfl (by omega) _ _ _ rfl O3.out w3.heap.size _ _ _ _ rfl L3.out (BC_one _) (by simp only [maxLen]; omega) (by omega) (by omega) ?_; intro v4 w4 ho4 hg4)
  go_ret
  refine RetB.mk (n := n + 4) (own_len ho4 ?_) (below_own B3 O3.out hg4 (Nat.le_refl _) B3.size)
  rw [sealL, BC_append]

set_option maxHeartbeats 400000 in
theorem refPut_any (B n c : Nat) (A : Option Addr) (l : List UInt8) (w : World) (h : Lies w B 1 A n (BC l)) (hB : B ≤ w.heap.size) (hn : n ≤ 90000) :
    Calls Tryd.prog 26 #[.slice A n c] w (RetB w (sealL l)) := by
  obtain ⟨i0, hi0, hz0, hz1, hz2⟩ := info_parts u8_info
  have hl : l.length = n := by have := h.len; rw [BC_length] at this; omega
  have HL := Lib.hid hl
  have HH := Lib.hid h
  have hsb := Crc.regI_lt (Crc.sumN_lt l)
  clear hl h
  go_enter Tryd.func26, Tryd.ntmps26
  go_wp2_with fail
  refine (refSum_any B n c A l w HH.out (by omega)).mono ?_
  rintro e w1 ⟨rfl, rfl⟩
  go_wp2_with (first
    | (at_builtin; refine wpList_app _ rfl (.tmp 7) (.tmp 8) _ rfl w.heap.size 5 i0 _ 1 1 Tryd.underlying32 hi0 hz0 hz1 hz2 rfl (by omega) _ 0 [] rfl (World.ownsRow_nil w _ _ _) w.heap.size _ _ _ _ rfl (HH.out.up hB) (BC_one _) (by simp only [maxLen]; omega) (by omega) (Nat.le_refl _) ?_; intro v1 w1 ho1 hg1; have O1 := Lib.hid ho1; clear ho1; have B1 := below_own (Below.refl w.heap.size w) (World.ownsRow_nil w w.heap.size 5 1) hg1 (Nat.le_refl _) (Nat.le_refl _); have s1 := B1.size; clear hg1)
    | (at_builtin; refine wpList_app _ rfl (.tmp 10) (.tmp 22) _ rfl w.heap.size 5 i0 _ 1 1 Tryd.underlying32 hi0 hz0 hz1 hz2 rfl (by omega) _ _ _ rfl (O1.out.alloc _) _ _ 4 _ _ rfl (lies_cells _ _ _ _) (by intro u hu; simp at hu; rcases hu with rfl | rfl | rfl | rfl <;> rfl) (by simp only [maxLen]; omega) (by omega) (by simp; omega) ?_; intro v2 w2 ho2 hg2))
  go_ret
  refine RetB.mk (n := 0 + n + 4) (own_len ho2 ?_) (below_own (B1.alloc s1 _) (O1.out.alloc _) hg2 (Nat.le_refl _) (by simp; omega))
  rw [sealL, BC_append, List.nil_append]
  congr 1
  have e : ∀ m : Nat, (regI (Crc.sumN l) / 2 ^ m % 256) = ((UInt8.ofNat (Crc.sumN l >>> m)).toNat : Int) := by
    intro m
    rw [UInt8.toNat_ofNat', Nat.shiftRight_eq_div_pow, Int.natCast_emod, Int.natCast_ediv, Int.natCast_pow]
    rfl
  have e0 := e 0
  have e8 : regI (Crc.sumN l) / 256 % 256 = _ := e 8
  have e16 : regI (Crc.sumN l) / 65536 % 256 = _ := e 16
  have e24 : regI (Crc.sumN l) / 16777216 % 256 = _ := e 24
  rw [Int.emod_eq_of_lt (by omega) (by omega)] at e24
  simp only [Nat.shiftRight_zero, Int.pow_zero, Int.ediv_one] at e0
  rw [e0, e8, e16, e24]
  rfl
end Go.Proofs.YtihlmjknhgnjpaaDoor
