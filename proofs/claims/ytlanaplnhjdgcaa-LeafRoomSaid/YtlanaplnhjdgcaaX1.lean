/-
  The walk of the law LeafRoom.
  Conditions: the arguments are numbers of 64 bits.
-/
import Derived.Test.YtlanaplnhjdgcaaV1
namespace Go.Proofs.Ytlanaplnhjdgcaa
open Go.RowKit

set_option maxRecDepth 20000 in
set_option maxHeartbeats 4000000 in
theorem room_out (size base n : Int) (w : World) (h : size < 1 ∨ 60 < size) : Calls Try.prog 5 #[.int .i64 size, .int .i64 base, .int .i64 n] w fun e w' => e = .returned (.bool true) ∧ Below w.heap.size w w' := by
  by_cases h1 : size < 1
  · go_enter Try.func5, Try.ntmps5
    go_wp2_with fail
    refine (works_any _).mono ?_
    rintro e w1 ⟨rfl, hb⟩
    go_wp2_with fail
    go_ret
    exact ⟨rfl, hb⟩
  · have h2 : 60 < size := by omega
    go_enter Try.func5, Try.ntmps5
    go_wp2_with fail
    refine (works_any _).mono ?_
    rintro e w1 ⟨rfl, hb⟩
    go_wp2_with fail
    go_ret
    exact ⟨rfl, hb⟩

set_option maxRecDepth 20000 in
set_option maxHeartbeats 8000000 in
theorem room_no (s : Nat) (base n : Int) (w : World) (h1 : 1 ≤ s) (h60 : s ≤ 60) (hb1 : -9223372036854775808 ≤ base) (hb2 : base ≤ 9223372036854775807) (hn1 : -9223372036854775808 ≤ n) (hn2 : n ≤ 9223372036854775807) (hf : ¬ (0 ≤ base ∧ 0 ≤ n ∧ base + 4 * n + 4 ≤ s)) :
    Calls Try.prog 5 #[.int .i64 s, .int .i64 base, .int .i64 n] w fun e w' => e = .returned (.bool true) ∧ Below w.heap.size w w' := by
  have hzero := (zero_of_info pg_info).1
  have hinfo := Lib.hid (zero_of_info pg_info).2
  have SL : Hid ((List.replicate s zsec).length = s) := List.length_replicate
  go_enter Try.func5, Try.ntmps5
  go_wp2_with fail
  refine (new_ok (fun _ => False) s _ h1 (by omega)).mono ?_
  rintro e w1 ⟨g, gs, rfl, hg1, hg2, hp1, hb1'⟩
  have P1 := Lib.hid hp1
  have B1 := Lib.hid hb1'
  clear hp1 hb1' hg1 hg2
  have key : base < 0 ∨ (0 ≤ base ∧ n < 0) ∨ (0 ≤ base ∧ 0 ≤ n ∧ (s : Int) < base) ∨ (0 ≤ base ∧ 0 ≤ n ∧ base ≤ s ∧ (s : Int) < n) ∨ (0 ≤ base ∧ 0 ≤ n ∧ base ≤ s ∧ n ≤ s ∧ (s : Int) - 4 < base) ∨ (0 ≤ base ∧ 0 ≤ n ∧ base ≤ s ∧ n ≤ s ∧ base ≤ (s : Int) - 4 ∧ decide (4 * n ≤ (s : Int) - 4 - base) = false) := by
    simp only [decide_eq_false_iff_not]
    omega
  have HF := Lib.hid hf
  clear hf
  rcases key with k1 | ⟨k1, k2⟩ | ⟨k1, k2, k3⟩ | ⟨k1, k2, k3, k4⟩ | ⟨k1, k2, k3, k4, k5⟩ | ⟨k1, k2, k3, k4, k5, k6⟩
  all_goals
    (
      go_wp2_with fail
      refine (filled_any 1 1 _).mono ?_
      rintro e w2 ⟨rfl, hb2⟩
      have P2 := Lib.hid (P1.out.below hb2)
      have B2 : Hid (Below w.heap.size w w2) := B1.out.trans (hb2.mono B1.out.size)
      clear hb2
      go_wp2_with fail
      refine (lwrite_no (fun _ => False) g gs _ _ _ _ _ _ base n 3 (fillP 1 1) P2.out (by rw [SL.out]; omega) hb1 hb2 (by rw [SL.out]; exact HF.out)).mono ?_
      rintro e w3 ⟨rfl, hb3⟩
      have P3 := Lib.hid (P2.out.below hb3)
      have B3 : Hid (Below w.heap.size w w3) := B2.out.trans (hb3.mono B2.out.size)
      clear hb3
      go_wp2_with fail
      refine (lread_no (fun _ => False) g gs _ _ _ _ _ _ base n P3.out (by rw [SL.out]; omega) hb1 hb2 (by rw [SL.out]; exact HF.out)).mono ?_
      rintro e w4 ⟨rfl, hb4⟩
      rw [NoneV]
      have B4 : Hid (Below w.heap.size w w4) := B3.out.trans (hb4.mono B3.out.size)
      clear hb4
      go_wp2_with (refine wpList_store_pg (.tmp 11) (.tmp 79) rfl rfl rfl w4.heap.size rfl zpg zpg rfl (row_pg w4 zpg) ?_; intro w5 h5 m5; have HB5 := Lib.hid (below_new m5); clear h5 m5)
      have B5 : Hid (Below w.heap.size w w5) := B4.out.trans (HB5.out.mono B4.out.size)
      refine (works_any _).mono ?_
      rintro e w6 ⟨rfl, hb6⟩
      have B6 : Hid (Below w.heap.size w w6) := B5.out.trans (hb6.mono B5.out.size)
      clear hb6
      go_wp2_with fail
      go_ret
      exact ⟨rfl, B6.out⟩

    )

set_option maxRecDepth 20000 in
set_option maxHeartbeats 8000000 in
theorem room_yes (s b m : Nat) (w : World) (h60 : s ≤ 60) (hf : b + 4 * m + 4 ≤ s) :
    Calls Try.prog 5 #[.int .i64 s, .int .i64 b, .int .i64 m] w fun e w' => e = .returned (.bool true) ∧ Below w.heap.size w w' := by
  have hzero := (zero_of_info pg_info).1
  have hinfo := Lib.hid (zero_of_info pg_info).2
  have OK1 := Lib.hid (fill_ok 1 1 (by omega) (by omega) (by omega) (by omega))
  have SL : Hid ((List.replicate s zsec).length = s) := List.length_replicate
  have k1 : (0 : Int) ≤ b := by omega
  have k2 : (0 : Int) ≤ m := by omega
  have k3 : (b : Int) ≤ s := by omega
  have k4 : (m : Int) ≤ s := by omega
  have k5 : (b : Int) ≤ (s : Int) - 4 := by omega
  have k6 : 4 * (m : Int) ≤ (s : Int) - 4 - b := by omega
  go_enter Try.func5, Try.ntmps5
  go_wp2_with fail
  refine (new_ok (fun _ => False) s _ (by omega) (by omega)).mono ?_
  rintro e w1 ⟨g, gs, rfl, hg1, hg2, hp1, hb1⟩
  have P1 := Lib.hid hp1
  have B1 := Lib.hid hb1
  have OWN : Hid (∀ k, own g gs k → w.heap.size ≤ k) := fun k hk => by rcases hk with rfl | rfl; exact hg1; exact hg2
  clear hp1 hb1 hg1 hg2
  go_wp2_with fail
  refine (filled_any 1 1 _).mono ?_
  rintro e w2 ⟨rfl, hb2⟩
  have P2 := Lib.hid (P1.out.below hb2)
  have B2 : Hid (Below w.heap.size w w2) := B1.out.trans (hb2.mono B1.out.size)
  clear hb2
  go_wp2_with fail
  refine (lwrite_ok (fun _ => False) g gs (List.replicate s zsec) 0 (-1) [] _ b m 3 (fillP 1 1) P2.out (by rw [SL.out]; omega) (by rw [SL.out]; omega) (fun _ h => h.elim) (by omega) (by omega) (by omega) (by omega) (by omega)).mono ?_
  rintro e w3 ⟨rfl, hp3, hm3⟩
  have P3 := Lib.hid hp3
  have B3 : Hid (Below w.heap.size w w3) := hm3.below B2.out OWN.out B2.out.size
  clear hp3 hm3
  go_wp2_with fail
  refine (lread_ok (fun _ => False) g gs _ (0 + 1) (if (0 : Int) < -1 then -1 - 1 else -1) [] _ b m P3.out (by rw [upd_length, SL.out]; omega) (by rw [upd_length, SL.out]; omega) (puts (fillP 1 1) 3) (upd_here (List.replicate s zsec) (b + 4 * m) (puts (fillP 1 1) 3) (by rw [SL.out]; exact hf)) (oks_puts _ 3 OK1.out)).mono ?_
  rintro e w4 ⟨rfl, hb4⟩
  rw [ReadV_puts (fillP 1 1) 3 (by omega)]
  have P4 := Lib.hid (P3.out.below hb4)
  have B4 : Hid (Below w.heap.size w w4) := B3.out.trans (hb4.mono B3.out.size)
  clear hb4
  obtain ⟨b11, hb11⟩ : ∃ b11, b11 = w4.heap.size := ⟨_, rfl⟩
  have HB11E := Lib.hid hb11
  go_wp2_with (refine wpList_store_pg (.tmp 11) (.tmp 79) rfl rfl rfl w4.heap.size rfl (fillP 1 1) zpg rfl (row_pg w4 zpg) ?_; rw [← hb11]; clear hb11; intro w5 h5 m5; have RA5 := Lib.hid h5; rw [HB11E.out] at m5; have HB5 := Lib.hid (below_new m5); clear h5 m5)
  have P5 := Lib.hid (P4.out.below HB5.out)
  have B5 : Hid (Below w.heap.size w w5) := B4.out.trans (HB5.out.mono B4.out.size)
  have NB : Hid (¬ own g gs b11) := fun hh => by
    obtain ⟨l1, l2, _⟩ := P4.out.lt
    have := HB11E.out
    rcases hh with hh | hh <;> omega
  refine (fuse_any (fun _ => False) g gs _ _ _ _ _ _ 0 none 0 0 [] P5.out Lz.empty (Nat.le_refl _) (by simp [maxLen]) (by rw [upd_length, SL.out]; omega) (fun _ h => h.elim)).mono ?_
  rintro e w6 ⟨rfl, hp6, hm6⟩
  rw [List.take_nil] at hp6
  have P6 := Lib.hid hp6
  have B6 : Hid (Below w.heap.size w w6) := hm6.below B5.out OWN.out B5.out.size
  have RA6 := Lib.hid (RA5.out.kept hm6 NB.out)
  clear hp6 hm6
  go_wp2_with fail
  refine (filled_any 2 1 _).mono ?_
  rintro e w7 ⟨rfl, hb7⟩
  have P7 := Lib.hid (P6.out.below hb7)
  have B7 : Hid (Below w.heap.size w w7) := B6.out.trans (hb7.mono B6.out.size)
  have RA7 := Lib.hid (RA6.out.below hb7)
  clear hb7
  go_wp2_with fail
  refine (lwrite_torn (fun _ => False) g gs _ _ [] _ b m 4 (fillP 2 1) P7.out (by rw [upd_length, SL.out]; omega) (by rw [upd_length, SL.out]; omega) (fun _ h => h.elim) (by simp)).mono ?_
  rintro e w8 ⟨rfl, hp8, hm8⟩
  have P8 := Lib.hid hp8
  have B8 : Hid (Below w.heap.size w w8) := hm8.below B7.out OWN.out B7.out.size
  have RA8 := Lib.hid (RA7.out.kept hm8 NB.out)
  clear hp8 hm8
  go_wp2_with fail
  refine (lread_down (fun _ => False) g gs _ _ _ _ _ b m P8.out (by rw [upd_length, upd_length, SL.out]; omega) (by rw [upd_length, upd_length, SL.out]; omega)).mono ?_
  rintro e w9 ⟨rfl, hb9⟩
  rw [NoneV]
  have B9 : Hid (Below w.heap.size w w9) := B8.out.trans (hb9.mono B8.out.size)
  have RA9 := Lib.hid (RA8.out.below hb9)
  clear hb9
  go_wp2_with (refine wpList_store_pg (.tmp 16) (.tmp 110) rfl rfl rfl w9.heap.size rfl zpg zpg rfl (row_pg w9 zpg) ?_; intro w10 h10 m10; have HB10 := Lib.hid (below_new m10); clear h10 m10)
  have TB : Hid (Below w.heap.size w w10.drew) := below_drew (B9.out.trans (HB10.out.mono B9.out.size))
  have RA := Lib.hid ((RA9.out.below HB10.out).drew)
  obtain ⟨at_, hat⟩ : ∃ at_ : Nat, at_ = b + 4 * m := ⟨_, rfl⟩
  obtain ⟨q4, hq4⟩ : ∃ q4 : Nat, q4 = 4 * m := ⟨_, rfl⟩
  have HAT := Lib.hid hat
  have HQ4 := Lib.hid hq4
  clear hat hq4 P1 P2 P3 P4 P5 P6 P7 P8 RA5 RA6 RA7 RA8 RA9 B1 B2 B3 B4 B5 B6 B7 B8 B9 HB5 HB10 OWN NB SL OK1 HB11E
  refine wp_region_held_drew (S := fun z => Below w10.drew.heap.size w10.drew z) (by kernel_rfl) (Below.refl _ _) (fun hS => ?_)
  generalize w10.drew = wS at *
  refine takeH (i := 0) (d := 114) (v := ?vf0) rfl (by kernel_rfl) (by kernel_rfl) (by kernel_rfl) (fun _ _ _ h => h) rfl (by rfl) ?yf0 hS ?rf0
  case yf0 => (intro wz hz; go_simp <;> with_reducible rfl)
  simp only [List.setIfInBounds_toArray, List.set_cons_zero, List.set_cons_succ]
  refine takeH (i := 1) (d := 115) (v := ?vf1) rfl (by kernel_rfl) (by kernel_rfl) (by kernel_rfl) (fun _ _ _ h => h) rfl (by rfl) ?yf1 hS ?rf1
  case yf1 => (intro wz hz; go_simp <;> with_reducible rfl)
  simp only [List.setIfInBounds_toArray, List.set_cons_zero, List.set_cons_succ]
  refine takeH (i := 3) (d := 117) (v := ?vf3) rfl (by kernel_rfl) (by kernel_rfl) (by kernel_rfl) (fun _ _ _ h => h) rfl (by rfl) ?yf3 hS ?rf3
  case yf3 => (intro wz hz; go_simp <;> with_reducible rfl)
  simp only [List.setIfInBounds_toArray, List.set_cons_zero, List.set_cons_succ]
  refine takeH (i := 4) (d := 118) (v := ?vf4) rfl (by kernel_rfl) (by kernel_rfl) (by kernel_rfl) (fun _ _ _ h => h) rfl (by rfl) ?yf4 hS ?rf4
  case yf4 => (intro wz hz; go_simp <;> with_reducible rfl)
  simp only [List.setIfInBounds_toArray, List.set_cons_zero, List.set_cons_succ]
  refine takeH (i := 5) (d := 119) (v := .int .i64 (q4 : Int)) rfl (by kernel_rfl) (by kernel_rfl) (by kernel_rfl) (fun _ _ _ h => h) rfl (by rfl) ?yf5 hS ?rf5
  case yf5 => (intro wz hz; have e1 := HAT.out; have e2 := HQ4.out; clear HAT HQ4; go_simp <;> (first | done | omega | (rw [IntKind.wrap_i64]; omega)))
  simp only [List.setIfInBounds_toArray, List.set_cons_zero, List.set_cons_succ]
  refine takeH (i := 6) (d := 120) (v := .int .i64 (at_ : Int)) rfl (by kernel_rfl) (by kernel_rfl) (by kernel_rfl) (fun _ _ _ h => h) rfl (by rfl) ?yf6 hS ?rf6
  case yf6 => (intro wz hz; have e1 := HAT.out; have e2 := HQ4.out; clear HAT HQ4; go_simp <;> (first | done | omega | (rw [IntKind.wrap_i64]; omega)))
  simp only [List.setIfInBounds_toArray, List.set_cons_zero, List.set_cons_succ]
  refine wpAnyH_ready (rs := [2]) (by kernel_rfl) (by simp) ?_
  refine AllReadyH.cons rfl (fun K hK => ?_) AllReadyH.nil
  go_simp
  refine (where_any b m _ (by omega) (by omega)).mono ?_
  rintro e w30 ⟨rfl, rfl⟩
  rw [← HAT.out]
  have hb := trivial
  refine hK.out _ _ (hS) (fun hT => ?_)
  clear hK hb hS
  have hS := hT
  clear hT
  refine takeH (i := 7) (d := 121) (v := .bool true) rfl (by kernel_rfl) (by kernel_rfl) (by kernel_rfl) (fun _ _ _ h => h) rfl (by rfl) ?yf7 hS ?rf7
  case yf7 => (intro wz hz; go_simp)
  simp only [List.setIfInBounds_toArray, List.set_cons_zero, List.set_cons_succ]
  refine takeH (i := 8) (d := 122) (v := ?vf8) rfl (by kernel_rfl) (by kernel_rfl) (by kernel_rfl) (fun _ _ _ h => h) rfl (by rfl) ?yf8 hS ?rf8
  case yf8 => (intro wz hz; go_simp <;> with_reducible rfl)
  simp only [List.setIfInBounds_toArray, List.set_cons_zero, List.set_cons_succ]
  refine takeH (i := 9) (d := 123) (v := ?vf9) rfl (by kernel_rfl) (by kernel_rfl) (by kernel_rfl) (fun _ _ _ h => h) rfl (by rfl) ?yf9 hS ?rf9
  case yf9 => (intro wz hz; go_simp <;> with_reducible rfl)
  simp only [List.setIfInBounds_toArray, List.set_cons_zero, List.set_cons_succ]
  refine takeH (i := 10) (d := 124) (v := ?vf10) rfl (by kernel_rfl) (by kernel_rfl) (by kernel_rfl) (fun _ _ _ h => h) rfl (by rfl) ?yf10 hS ?rf10
  case yf10 => (intro wz hz; go_simp <;> with_reducible rfl)
  simp only [List.setIfInBounds_toArray, List.set_cons_zero, List.set_cons_succ]
  refine takeH (i := 11) (d := 125) (v := ?vf11) rfl (by kernel_rfl) (by kernel_rfl) (by kernel_rfl) (fun _ _ _ h => h) rfl (by rfl) ?yf11 hS ?rf11
  case yf11 => (intro wz hz; go_simp <;> with_reducible rfl)
  simp only [List.setIfInBounds_toArray, List.set_cons_zero, List.set_cons_succ]
  refine takeH (i := 12) (d := 126) (v := ?vf12) rfl (by kernel_rfl) (by kernel_rfl) (by kernel_rfl) (fun _ _ _ h => h) rfl (by rfl) ?yf12 hS ?rf12
  case yf12 => (intro wz hz; go_simp <;> with_reducible rfl)
  simp only [List.setIfInBounds_toArray, List.set_cons_zero, List.set_cons_succ]
  refine takeH (i := 13) (d := 127) (v := ?vf13) rfl (by kernel_rfl) (by kernel_rfl) (by kernel_rfl) (fun _ _ _ h => h) rfl (by rfl) ?yf13 hS ?rf13
  case yf13 => (intro wz hz; go_simp <;> with_reducible rfl)
  simp only [List.setIfInBounds_toArray, List.set_cons_zero, List.set_cons_succ]
  refine takeH (i := 14) (d := 128) (v := ?vf14) rfl (by kernel_rfl) (by kernel_rfl) (by kernel_rfl) (fun _ _ _ h => h) rfl (by rfl) ?yf14 hS ?rf14
  case yf14 => (intro wz hz; go_simp <;> with_reducible rfl)
  simp only [List.setIfInBounds_toArray, List.set_cons_zero, List.set_cons_succ]
  refine takeH (i := 15) (d := 129) (v := ?vf15) rfl (by kernel_rfl) (by kernel_rfl) (by kernel_rfl) (fun _ _ _ h => h) rfl (by rfl) ?yf15 hS ?rf15
  case yf15 => (intro wz hz; go_simp <;> with_reducible rfl)
  simp only [List.setIfInBounds_toArray, List.set_cons_zero, List.set_cons_succ]
  refine takeH (i := 16) (d := 130) (v := ?vf16) rfl (by kernel_rfl) (by kernel_rfl) (by kernel_rfl) (fun _ _ _ h => h) rfl (by rfl) ?yf16 hS ?rf16
  case yf16 => (intro wz hz; go_simp <;> with_reducible rfl)
  simp only [List.setIfInBounds_toArray, List.set_cons_zero, List.set_cons_succ]
  refine takeH (i := 17) (d := 131) (v := ?vf17) rfl (by kernel_rfl) (by kernel_rfl) (by kernel_rfl) (fun _ _ _ h => h) rfl (by rfl) ?yf17 hS ?rf17
  case yf17 => (intro wz hz; go_simp <;> with_reducible rfl)
  simp only [List.setIfInBounds_toArray, List.set_cons_zero, List.set_cons_succ]
  refine takeH (i := 18) (d := 132) (v := ?vf18) rfl (by kernel_rfl) (by kernel_rfl) (by kernel_rfl) (fun _ _ _ h => h) rfl (by rfl) ?yf18 hS ?rf18
  case yf18 => (intro wz hz; go_simp <;> with_reducible rfl)
  simp only [List.setIfInBounds_toArray, List.set_cons_zero, List.set_cons_succ]
  refine takeH (i := 19) (d := 133) (v := ?vf19) rfl (by kernel_rfl) (by kernel_rfl) (by kernel_rfl) (fun _ _ _ h => h) rfl (by rfl) ?yf19 hS ?rf19
  case yf19 => (intro wz hz; go_simp <;> with_reducible rfl)
  simp only [List.setIfInBounds_toArray, List.set_cons_zero, List.set_cons_succ]
  refine takeH (i := 20) (d := 134) (v := ?vf20) rfl (by kernel_rfl) (by kernel_rfl) (by kernel_rfl) (fun _ _ _ h => h) rfl (by rfl) ?yf20 hS ?rf20
  case yf20 => (intro wz hz; go_simp <;> with_reducible rfl)
  simp only [List.setIfInBounds_toArray, List.set_cons_zero, List.set_cons_succ]
  refine takeH (i := 21) (d := 135) (v := ?vf21) rfl (by kernel_rfl) (by kernel_rfl) (by kernel_rfl) (fun _ _ _ h => h) rfl (by rfl) ?yf21 hS ?rf21
  case yf21 => (intro wz hz; go_simp <;> with_reducible rfl)
  simp only [List.setIfInBounds_toArray, List.set_cons_zero, List.set_cons_succ]
  refine takeH (i := 22) (d := 136) (v := ?vf22) rfl (by kernel_rfl) (by kernel_rfl) (by kernel_rfl) (fun _ _ _ h => h) rfl (by rfl) ?yf22 hS ?rf22
  case yf22 => (intro wz hz; go_simp <;> with_reducible rfl)
  simp only [List.setIfInBounds_toArray, List.set_cons_zero, List.set_cons_succ]
  refine takeH (i := 23) (d := 137) (v := ?vf23) rfl (by kernel_rfl) (by kernel_rfl) (by kernel_rfl) (fun _ _ _ h => h) rfl (by rfl) ?yf23 hS ?rf23
  case yf23 => (intro wz hz; go_simp <;> with_reducible rfl)
  simp only [List.setIfInBounds_toArray, List.set_cons_zero, List.set_cons_succ]
  refine takeH (i := 24) (d := 138) (v := .agg (pgA (fillP 1 1))) rfl (by kernel_rfl) (by kernel_rfl) (by kernel_rfl) (fun _ _ _ h => h) rfl (by rfl) ?yf24 hS ?rf24
  case yf24 => (intro wz hz; exact exec_load_pg (.tmp 11) rfl b11 rfl (fillP 1 1) (RA.out.under hz RA.out.lt))
  simp only [List.setIfInBounds_toArray, List.set_cons_zero, List.set_cons_succ]
  refine wpAnyH_ready (rs := [25]) (by kernel_rfl) (by simp) ?_
  refine AllReadyH.cons rfl (fun K hK => ?_) AllReadyH.nil
  go_simp
  refine (filled_any 1 1 _).mono ?_
  rintro e w30 ⟨rfl, hb⟩
  refine hK.out _ _ (hS.trans (hb.mono hS.size)) (fun hT => ?_)
  clear hK hb hS
  have hS := hT
  clear hT
  refine takeH (i := 26) (d := 140) (v := .bool true) rfl (by kernel_rfl) (by kernel_rfl) (by kernel_rfl) (fun _ _ _ h => h) rfl (by rfl) ?yf26 hS ?rf26
  case yf26 => (intro wz hz; exact exec_eql_same (.tmp 138) (.tmp 139) rfl (fillP 1 1) _ rfl rfl)
  simp only [List.setIfInBounds_toArray, List.set_cons_zero, List.set_cons_succ]
  refine takeH (i := 27) (d := 141) (v := ?vf27) rfl (by kernel_rfl) (by kernel_rfl) (by kernel_rfl) (fun _ _ _ h => h) rfl (by rfl) ?yf27 hS ?rf27
  case yf27 => (intro wz hz; go_simp <;> with_reducible rfl)
  simp only [List.setIfInBounds_toArray, List.set_cons_zero, List.set_cons_succ]
  refine takeH (i := 28) (d := 142) (v := ?vf28) rfl (by kernel_rfl) (by kernel_rfl) (by kernel_rfl) (fun _ _ _ h => h) rfl (by rfl) ?yf28 hS ?rf28
  case yf28 => (intro wz hz; go_simp <;> with_reducible rfl)
  simp only [List.setIfInBounds_toArray, List.set_cons_zero, List.set_cons_succ]
  refine takeH (i := 29) (d := 143) (v := ?vf29) rfl (by kernel_rfl) (by kernel_rfl) (by kernel_rfl) (fun _ _ _ h => h) rfl (by rfl) ?yf29 hS ?rf29
  case yf29 => (intro wz hz; go_simp <;> with_reducible rfl)
  simp only [List.setIfInBounds_toArray, List.set_cons_zero, List.set_cons_succ]
  refine takeH (i := 30) (d := 144) (v := ?vf30) rfl (by kernel_rfl) (by kernel_rfl) (by kernel_rfl) (fun _ _ _ h => h) rfl (by rfl) ?yf30 hS ?rf30
  case yf30 => (intro wz hz; go_simp <;> with_reducible rfl)
  simp only [List.setIfInBounds_toArray, List.set_cons_zero, List.set_cons_succ]
  refine takeH (i := 31) (d := 145) (v := ?vf31) rfl (by kernel_rfl) (by kernel_rfl) (by kernel_rfl) (fun _ _ _ h => h) rfl (by rfl) ?yf31 hS ?rf31
  case yf31 => (intro wz hz; go_simp <;> with_reducible rfl)
  simp only [List.setIfInBounds_toArray, List.set_cons_zero, List.set_cons_succ]
  refine takeH (i := 32) (d := 146) (v := ?vf32) rfl (by kernel_rfl) (by kernel_rfl) (by kernel_rfl) (fun _ _ _ h => h) rfl (by rfl) ?yf32 hS ?rf32
  case yf32 => (intro wz hz; go_simp <;> with_reducible rfl)
  simp only [List.setIfInBounds_toArray, List.set_cons_zero, List.set_cons_succ]
  refine takeH (i := 33) (d := 147) (v := ?vf33) rfl (by kernel_rfl) (by kernel_rfl) (by kernel_rfl) (fun _ _ _ h => h) rfl (by rfl) ?yf33 hS ?rf33
  case yf33 => (intro wz hz; go_simp <;> with_reducible rfl)
  simp only [List.setIfInBounds_toArray, List.set_cons_zero, List.set_cons_succ]
  refine takeH (i := 34) (d := 148) (v := ?vf34) rfl (by kernel_rfl) (by kernel_rfl) (by kernel_rfl) (fun _ _ _ h => h) rfl (by rfl) ?yf34 hS ?rf34
  case yf34 => (intro wz hz; go_simp <;> with_reducible rfl)
  simp only [List.setIfInBounds_toArray, List.set_cons_zero, List.set_cons_succ]
  refine takeH (i := 35) (d := 149) (v := ?vf35) rfl (by kernel_rfl) (by kernel_rfl) (by kernel_rfl) (fun _ _ _ h => h) rfl (by rfl) ?yf35 hS ?rf35
  case yf35 => (intro wz hz; go_simp <;> with_reducible rfl)
  simp only [List.setIfInBounds_toArray, List.set_cons_zero, List.set_cons_succ]
  refine takeH (i := 36) (d := 150) (v := ?vf36) rfl (by kernel_rfl) (by kernel_rfl) (by kernel_rfl) (fun _ _ _ h => h) rfl (by rfl) ?yf36 hS ?rf36
  case yf36 => (intro wz hz; go_simp <;> with_reducible rfl)
  simp only [List.setIfInBounds_toArray, List.set_cons_zero, List.set_cons_succ]
  refine wpAnyH_ready (rs := [37]) (by kernel_rfl) (by simp) ?_
  refine AllReadyH.cons rfl (fun K hK => ?_) AllReadyH.nil
  go_simp
  refine (works_any _).mono ?_
  rintro e w30 ⟨rfl, hb⟩
  refine hK.out _ _ (hS.trans (hb.mono hS.size)) (fun hT => ?_)
  clear hK hb hS
  have hS := hT
  clear hT
  refine takeH (i := 38) (d := 152) (v := ?vf38) rfl (by kernel_rfl) (by kernel_rfl) (by kernel_rfl) (fun _ _ _ h => h) rfl (by rfl) ?yf38 hS ?rf38
  case yf38 => (intro wz hz; go_simp <;> with_reducible rfl)
  simp only [List.setIfInBounds_toArray, List.set_cons_zero, List.set_cons_succ]
  refine takeH (i := 39) (d := 6) (v := ?vf39) rfl (by kernel_rfl) (by kernel_rfl) (by kernel_rfl) (fun _ _ _ h => h) rfl (by rfl) ?yf39 hS ?rf39
  case yf39 => (intro wz hz; go_simp <;> with_reducible rfl)
  simp only [List.setIfInBounds_toArray, List.set_cons_zero, List.set_cons_succ]
  refine wpAnyH_done (by kernel_rfl) ?_ _
  have HS := Lib.hid hS
  clear hS
  go_wp2_with fail
  go_ret
  exact ⟨rfl, TB.out.trans (HS.out.mono TB.out.size)⟩
theorem room_any (size base n : Int) (w : World) (hb1 : -9223372036854775808 ≤ base) (hb2 : base ≤ 9223372036854775807) (hn1 : -9223372036854775808 ≤ n) (hn2 : n ≤ 9223372036854775807) :
    Calls Try.prog 5 #[.int .i64 size, .int .i64 base, .int .i64 n] w fun e w' => e = .returned (.bool true) ∧ Below w.heap.size w w' := by
  by_cases h : size < 1 ∨ 60 < size
  · exact room_out size base n w h
  · obtain ⟨s, rfl⟩ : ∃ s : Nat, size = s := ⟨size.toNat, by omega⟩
    by_cases hf : 0 ≤ base ∧ 0 ≤ n ∧ base + 4 * n + 4 ≤ s
    · obtain ⟨b, rfl⟩ : ∃ b : Nat, base = b := ⟨base.toNat, by omega⟩
      obtain ⟨m, rfl⟩ : ∃ m : Nat, n = m := ⟨n.toNat, by omega⟩
      exact room_yes s b m w (by omega) (by omega)
    · exact room_no s base n w (by omega) (by omega) hb1 hb2 hn1 hn2 hf
end Go.Proofs.Ytlanaplnhjdgcaa
