/-
  The walks of number, Blank, filled, Where, exists, Of.
  Conditions: none beyond those that each theorem names.
-/
import Derived.Test.YtlanaplnhjdgcaaP
namespace Go.Proofs.Ytlanaplnhjdgcaa
open Go.RowKit

theorem row_sec (w : World) (s : Sect) : RowAt (w.alloc (.cells (secA s) 45)) w.heap.size 45 s.toList := heap_alloc_new w _
set_option maxHeartbeats 400000 in
theorem number_any (s : Sect) (w : World) (hs : Okb s.toList) : Calls Try.prog 22 #[.agg (secA s)] w fun e w' => e = .returned (.int .u64 (markI s)) ∧ Below w.heap.size w w' := by
  have GE : Calls Try.prog 30 #[.slice (some ⟨w.heap.size, 56, none⟩) 8 8] (w.alloc (.cells (secA s) 45)) fun e w' => e = .returned (.int .u64 (markI s)) ∧ w.alloc (.cells (secA s) 45) = w' := by
    have h := (row_sec w s).lz (X := fun _ => False) (fun h => h) 56 8 (by simp)
    rw [List.take_of_length_le (by simp)] at h
    exact get_any _ 8 8 _ _ _ h (hs.drop 56) (by omega)
  have HG := Lib.hid GE
  clear GE
  go_enter Try.func22, Try.ntmps22
  go_wp2_with (go_at_call 30; refine HG.out.mono ?_; rintro e w1 ⟨rfl, rfl⟩)
  go_ret
  exact ⟨rfl, (Below.refl _ _).alloc (Nat.le_refl _) _⟩

set_option maxHeartbeats 400000 in
theorem blank_any (p : Pg) (w : World) : Calls Try.prog 18 #[.agg (pgA p)] w fun e w' => e = .returned (.bool (p == zpg)) ∧ Below w.heap.size w w' := by
  have hzero := (zero_of_info pg_info).1
  have hinfo := Lib.hid (zero_of_info pg_info).2
  have heq := eql_pg p zpg
  have R0 := Lib.hid (row_pg w p)
  go_enter Try.func18, Try.ntmps18
  go_wp2_with (refine wpList_load_pg 3 (.tmp 1) rfl rfl rfl w.heap.size rfl p R0.out ?_)
  go_ret
  exact ⟨rfl, (Below.refl _ _).alloc (Nat.le_refl _) _⟩

set_option maxHeartbeats 400000 in
theorem where_any (base n : Nat) (w : World) (hb : base ≤ 100000) (hn : n ≤ 100000) : Calls Try.prog 19 #[.int .i64 base, .int .i64 n] w fun e w' => e = .returned (.int .i64 ((base + 4 * n : Nat) : Int)) ∧ w = w' := by
  go_enter Try.func19, Try.ntmps19
  go_wp2
  go_ret
  exact ⟨by rw [show ((base + 4 * n : Nat) : Int) = (base : Int) + 4 * (n : Int) by omega]; rfl, rfl⟩

/-- A page of one byte, but the first. -/
def fillL (a b : Int) : List Int := a :: List.replicate 223 b
theorem fillL_length (a b : Int) : (fillL a b).length = 224 := by rw [fillL, List.length_cons, List.length_replicate]
@[irreducible] def fillP (a b : Int) : Pg := Vector.ofFn fun j : Fin 224 => (fillL a b).getD j 0
theorem fillP_toList (a b : Int) : (fillP a b).toList = fillL a b := by
  unfold fillP
  exact ofFn_list 224 _ (fillL_length a b)
def fL (b : Int) (k : Nat) : List Int := List.replicate k b ++ List.replicate (224 - k) 0
theorem fL_length (b : Int) (k : Nat) (h : k ≤ 224) : (fL b k).length = 224 := by rw [fL, List.length_append, List.length_replicate, List.length_replicate]; omega
theorem fill_step (b : Int) (k : Nat) (h : k < 224) : (fL b k).set k b = fL b (k + 1) := by
  rw [fL, fL, List.set_append, if_neg (by rw [List.length_replicate]; omega), List.length_replicate, Nat.sub_self, show 224 - k = (224 - (k + 1)) + 1 from by omega, List.replicate_succ (n := 224 - (k + 1)), List.set_cons_zero, List.replicate_succ', List.append_assoc]
  rfl
theorem fill_last (a b : Int) : (fL b 224).set 0 a = fillL a b := by
  rw [fL, Nat.sub_self, List.replicate_zero, List.append_nil, show (224 : Nat) = 223 + 1 from rfl, List.replicate_succ, List.set_cons_zero, fillL]
theorem zpg_toList : zpg.toList = List.replicate 224 0 := Vector.toList_replicate
theorem fL_zero (b : Int) : fL b 0 = zpg.toList := by rw [fL, zpg_toList]; rfl
set_option maxRecDepth 8000 in
set_option maxHeartbeats 400000 in
theorem filled_any (a b : Int) (w : World) : Calls Try.prog 14 #[.int .u8 a, .int .u8 b] w fun e w' => e = .returned (.agg (pgA (fillP a b))) ∧ Below w.heap.size w w' := by
  have hzero := (zero_of_info pg_info).1
  have hinfo := Lib.hid (zero_of_info pg_info).2
  have R1 := Lib.hid ((row_pg w zpg).alloc (.cells (pgA zpg) 22))
  have R2 := Lib.hid (row_pg (w.alloc (.cells (pgA zpg) 22)) zpg)
  have B1 := Lib.hid (((Below.refl w.heap.size w).alloc (Nat.le_refl _) (.cells (pgA zpg) 22)).alloc (by simp) (.cells (pgA zpg) 22))
  go_enter Try.func14, Try.ntmps14
  go_wp2
  go_loopw [6] (fun i wr => ∃ k : Nat, k ≤ 224 ∧ i = .int .i64 k ∧ Hid (RowAt wr (w.heap.size + 1) 22 (fL b k)) ∧ Hid (RowAt wr w.heap.size 22 zpg.toList) ∧ Hid (Below w.heap.size w wr)) (fun i _ => 224 - (intOf i).toNat)
  case atStart =>
    refine ⟨0, Nat.zero_le _, rfl, ?_, R1, B1⟩
    show RowAt _ _ _ _
    rw [fL_zero]
    have := R2.out
    rwa [show (w.alloc (.cells (pgA zpg) 22)).heap.size = w.heap.size + 1 by simp] at this
  case round =>
    obtain ⟨k, hk, rfl, hr, hz, hb⟩ := hrel
    by_cases hlt : k < 224
    · have hcell := hr.out.cell k (by rw [fL_length b k hk]; exact hlt)
      have hfr := hr.out.frozen k
      generalize (fL b k)[k]'(by rw [fL_length b k hk]; exact hlt) = x at hcell
      go_wp2
      refine ⟨⟨k + 1, by omega, by go_num, ?_, ?_, ?_⟩, by simp [intOf]; omega⟩
      · have := hr.out.set k b
        rw [fill_step b k hlt] at this
        exact this
      · exact hz.out.kept (Mod.setCell (X := fun q => q = w.heap.size + 1) (p := ⟨w.heap.size + 1, k, none⟩) (Mod.refl _ _) (.inl rfl) _) (by show ¬ w.heap.size = w.heap.size + 1; omega)
      · exact hb.out.setCell (by show w.heap.size ≤ w.heap.size + 1; omega) _
    · obtain rfl : k = 224 := by omega
      have hcell := hr.out.cell 0 (by rw [fL_length b 224 hk]; omega)
      have hfr := hr.out.frozen 0
      generalize (fL b 224)[0]'(by rw [fL_length b 224 hk]; omega) = x at hcell
      have hs := hr.out.set 0 a
      rw [fill_last, ← fillP_toList] at hs
      have HS := Lib.hid hs
      have HM := Lib.hid (Mod.setCell (X := fun q => q = w.heap.size + 1) (p := ⟨w.heap.size + 1, 0, none⟩) (Mod.refl _ wr) (.inl rfl) (.int .u8 a))
      clear hs
      go_wp2_with (first
        | refine wpList_load_pg 16 (.tmp 5) rfl rfl rfl (w.heap.size + 1) rfl (fillP a b) HS.out ?_
        | (refine wpList_store_pg (.tmp 4) (.tmp 16) rfl rfl rfl w.heap.size rfl (fillP a b) zpg rfl (hz.out.kept HM.out (by show ¬ w.heap.size = w.heap.size + 1; omega)) ?_; intro w9 h9 m9; have H9 := Lib.hid h9; have M9 := Lib.hid m9; clear h9 m9))
      refine bodyPost_ret (v := .agg (pgA (fillP a b))) (results_pg1 _ _ w.heap.size (fillP a b) rfl H9.out Try.results14) rfl ⟨rfl, ?_⟩
      have h1 := hb.out.setCell (p := ⟨w.heap.size + 1, 0, none⟩) (by show w.heap.size ≤ w.heap.size + 1; omega) (.int .u8 a)
      exact M9.out.below h1 (fun q hq => by omega) h1.size
end Go.Proofs.Ytlanaplnhjdgcaa
