/-
  slices.partitionOrdered of numbers.
  Conditions: fewer than 2^60 numbers.
-/
import Derived.Test.YtjbohnnknfcjeaaO5
import Derived.Sort.WalkC4
namespace Go.Proofs.Ytjbohnnknfcjeaa
open Go.RowKit Go.Shelf Go.Sort
attribute [local go_sem] Oper.semAt_some
set_option maxRecDepth 20000

set_option maxHeartbeats 25600000 in
theorem partO_any (g n cap a b p : Nat) (pad : List Value) (d : Array Nat) (w : World) (h : Nr w g pad d) (hn : d.size = n) (hap : a ≤ p) (hpb : p < b) (hb : b ≤ n) (hs : n < 1152921504606846976) :
    Calls Try.prog 42 #[.slice (some ⟨g, 0, none⟩) n cap, .int .i64 (a : Int), .int .i64 (b : Int), .int .i64 (p : Int)] w (fun e w' => e = .returned (.tuple #[.int .i64 ((partition ltN d a b p).1 : Int), .bool (partition ltN d a b p).2.1]) ∧ Nq w g pad (partition ltN d a b p).2.2 w') := by
  have HK := Lib.hid (Nq.refl h)
  have HSK := Lib.hid hn
  clear h hn
  have hx : a < n ∧ p < n := by omega
  obtain ⟨hx1, hx2⟩ := hx
  obtain ⟨a1, ha1⟩ : ∃ a1, a + 1 = a1 := ⟨_, rfl⟩
  have ea1 : (a : Int) + 1 = (a1 : Int) := by omega
  have wa1 := wrapN (k := a1) (by omega)
  have xa1 : a < a1 ∧ a1 ≤ a + 1 := by omega
  have HEa1 := Lib.hid ha1
  clear ha1
  obtain ⟨b1, hb1⟩ : ∃ b1, b - 1 = b1 := ⟨_, rfl⟩
  have eb1 : (b : Int) - 1 = (b1 : Int) := by omega
  have wb1 := wrapN (k := b1) (by omega)
  have xb1 : b1 < b ∧ b ≤ b1 + 1 := by omega
  have HEb1 := Lib.hid hb1
  clear hb1
  obtain ⟨q1, q2⟩ := xa1
  obtain ⟨q3, q4⟩ := xb1
  have hbd : a < a1 ∧ a1 ≤ b1 + 1 ∧ b1 < b := by omega
  obtain ⟨hbd1, hbd2, hbd3⟩ := hbd
  clear q1 q2 q3 q4
  go_enter Try.func42, Try.ntmps42
  go_upto_region 1 with fail
  go_cut [8, 9] from 12 to 25 (fun s8 s9 wx => s8 = .int .i64 0 ∧ s9 = .bool false ∧ Hid (Nq w g pad (swp d a p) wx))
  case first =>
    obtain ⟨x, hx⟩ : ∃ x, d[a]! = x := ⟨_, rfl⟩
    have PA : Hid (∀ wz, Nr wz g pad d → wz.cell? ⟨g, a, none⟩ = some (.int .u32 (x : Int))) := fun wz hz => by rw [← hx]; exact hz.cell (by rw [HSK.out]; omega)
    have HA := Lib.hid hx
    clear hx
    obtain ⟨y, hy⟩ : ∃ x, d[p]! = x := ⟨_, rfl⟩
    have PB : Hid (∀ wz, Nr wz g pad d → wz.cell? ⟨g, p, none⟩ = some (.int .u32 (y : Int))) := fun wz hz => by rw [← hy]; exact hz.cell (by rw [HSK.out]; omega)
    have HB := Lib.hid hy
    clear hy
    by_cases hne : a = p
    · subst hne
      obtain rfl : x = y := HA.out.symm.trans HB.out
      have q1 : w.cell? ⟨g, a, none⟩ = some (.int .u32 (x : Int)) := PA.out w HK.out.nr
      have q2 : w.cell? ⟨g, a, none⟩ = some (.int .u32 (x : Int)) := PB.out w HK.out.nr
      have f1 : w.frozen? ⟨g, a, none⟩ = false := HK.out.nr.frozen a
      have f2 : w.frozen? ⟨g, a, none⟩ = false := HK.out.nr.frozen a
      have q3 : (w.setCell ⟨g, a, none⟩ (.int .u32 (x : Int))).cell? ⟨g, a, none⟩ = some (.int .u32 (x : Int)) := by
        have h := HK.out.nr.swp_cell (i := a) (j := a) (by rw [HSK.out]; omega) (by rw [HSK.out]; omega)
        rw [HB.out] at h
        exact h
      have SW := Lib.hid (HK.out.swp (i := a) (j := a) (by rw [HSK.out]; omega) (by rw [HSK.out]; omega))
      rw [HA.out] at SW
      try rw [HB.out] at SW
      go_region
      all_goals go_wp2_with fail
      all_goals go_meet
      all_goals exact ⟨rfl, rfl, Lib.hid SW.out.drew⟩
    · have q1 : w.cell? ⟨g, a, none⟩ = some (.int .u32 (x : Int)) := PA.out w HK.out.nr
      have q2 : w.cell? ⟨g, p, none⟩ = some (.int .u32 (y : Int)) := PB.out w HK.out.nr
      have f1 : w.frozen? ⟨g, a, none⟩ = false := HK.out.nr.frozen a
      have f2 : w.frozen? ⟨g, p, none⟩ = false := HK.out.nr.frozen p
      have q3 : (w.setCell ⟨g, a, none⟩ (.int .u32 (y : Int))).cell? ⟨g, p, none⟩ = some (.int .u32 (y : Int)) := by
        have h := HK.out.nr.swp_cell (i := a) (j := p) (by rw [HSK.out]; omega) (by rw [HSK.out]; omega)
        rw [HB.out] at h
        exact h
      have SW := Lib.hid (HK.out.swp (i := a) (j := p) (by rw [HSK.out]; omega) (by rw [HSK.out]; omega))
      rw [HA.out] at SW
      try rw [HB.out] at SW
      go_region
      all_goals go_wp2_with fail
      all_goals go_meet
      all_goals exact ⟨rfl, rfl, Lib.hid SW.out.drew⟩
  case rest =>
  obtain ⟨rfl, rfl, hk2⟩ := hcut
  have HSK2 : Hid ((swp d a p).size = n) := by show _ = _; rw [size_swp]; exact HSK.out
  clear HK HSK
  obtain ⟨dk, hdk⟩ : ∃ dk, swp d a p = dk := ⟨_, rfl⟩
  rw [hdk] at hk2 HSK2
  have HDK := Lib.hid hdk.symm
  clear hdk
  have HK := hk2
  have HSK := HSK2
  clear hk2 HSK2
  go_upto_block 0 with fail
  go_cut [10] from 30 to 45 (fun v wx => ∃ k : Nat, v = .int .i64 (k : Int) ∧ a1 ≤ k ∧ k ≤ b1 + 1 ∧ Hid (Nq w g pad dk wx) ∧ Hid (k = scanUp (fun x => ltN x dk[a]!) dk b1 a1))
  case first =>
    go_wp2_with fail
    go_loopw [10] (fun v wx => ∃ k : Nat, v = .int .i64 (k : Int) ∧ a1 ≤ k ∧ k ≤ b1 + 1 ∧ Hid (Nq w g pad dk wx) ∧ Hid (scanUp (fun x => ltN x dk[a]!) dk b1 k = scanUp (fun x => ltN x dk[a]!) dk b1 a1)) (fun v _ => (b1 + 1 - (intOf v).toNat))
    case atStart => exact ⟨a1, rfl, by omega, by omega, HK, Lib.hid rfl⟩
    case round =>
      clear HK
      obtain ⟨k, rfl, hk1, hk2, HK, HSC⟩ := hrel
      by_cases hc : k ≤ b1
      · have hkn : k < n := by omega
        obtain ⟨k1, hk1⟩ : ∃ k1, k + 1 = k1 := ⟨_, rfl⟩
        have ek1 : (k : Int) + 1 = (k1 : Int) := by omega
        have wk1 := wrapN (k := k1) (by omega)
        have xk1 : k < k1 ∧ k1 ≤ k + 1 := by omega
        have HEk1 := Lib.hid hk1
        clear hk1
        obtain ⟨z1, z2⟩ := xk1
        obtain ⟨x, hx⟩ : ∃ x, dk[a]! = x := ⟨_, rfl⟩
        have PA : Hid (∀ wz, Nr wz g pad dk → wz.cell? ⟨g, a, none⟩ = some (.int .u32 (x : Int))) := fun wz hz => by rw [← hx]; exact hz.cell (by rw [HSK.out]; omega)
        have HA := Lib.hid hx
        clear hx
        obtain ⟨y, hy⟩ : ∃ x, dk[k]! = x := ⟨_, rfl⟩
        have PB : Hid (∀ wz, Nr wz g pad dk → wz.cell? ⟨g, k, none⟩ = some (.int .u32 (y : Int))) := fun wz hz => by rw [← hy]; exact hz.cell (by rw [HSK.out]; omega)
        have HB := Lib.hid hy
        clear hy
        obtain ⟨bl, hbl⟩ : ∃ bl, ltN y x = bl := ⟨_, rfl⟩
        have HBL := Lib.hid hbl
        have HP : Hid ((fun x => ltN x dk[a]!) dk[k]! = bl) := by show ((fun x => ltN x dk[a]!) dk[k]!) = bl; simp only []; rw [HA.out, HB.out, hbl]
        clear hbl
        go_upto_region 3 with fail
        refine wp_region_held_drew (S := fun wz => Nr wz g pad dk) (by kernel_rfl) HK.out.nr.drew (fun hS => ?_)
        refine tk 0 hS ?_
        refine tk 1 hS ?_
        refine tk 2 hS ?_
        refine tk 3 hS ?_
        refine tk 4 hS ?_
        refine tk 5 hS ?_
        refine tk 6 hS ?_
        refine tk 7 hS ?_ (hy := by intro wz hz; have qA := PA.out wz hz; have qB := PB.out wz hz; go_simp <;> with_reducible rfl)
        refine tk 8 hS ?_
        refine tk 9 hS ?_
        refine tk 10 hS ?_
        refine tk 11 hS ?_ (hy := by intro wz hz; have qA := PA.out wz hz; have qB := PB.out wz hz; go_simp <;> with_reducible rfl)
        refine wpAnyH_ready (rs := [12]) (by kernel_rfl) (by simp) ?_
        refine AllReadyH.cons rfl (fun K hK => ?_) AllReadyH.nil
        go_simp
        refine (less_any y x _).mono ?_
        rintro e y9 ⟨rfl, hy9⟩
        subst hy9
        have hb : True := trivial
        rw [HBL.out]
        refine hK.out _ _ (hS) (fun hT => ?_)
        clear hK hb hS
        have hS := hT
        clear hT
        refine tk 13 hS ?_
        refine wpAnyH_done (by kernel_rfl) ?_ _
        have HS := Lib.hid hS
        clear hS
        cases bl
        · go_wp2_with fail
          go_meet
          exact ⟨k, rfl, by omega, by omega, Lib.hid HK.out.drew, Lib.hid (by rw [← HSC.out, scanUp_end (fun x => ltN x dk[a]!) dk b1 k (Or.inr HP.out)])⟩
        · go_wp2_with fail
          exact ⟨⟨k1, by go_num, by omega, by omega, Lib.hid HK.out.drew, Lib.hid (by rw [← HSC.out, scanUp_go (fun x => ltN x dk[a]!) dk b1 k hc HP.out, HEk1.out])⟩, by simp [intOf]; omega⟩
      · go_upto_region 3 with fail
        refine wp_region_held_drew (S := fun wz => Nr wz g pad dk) (by kernel_rfl) HK.out.nr.drew (fun hS => ?_)
        refine tk 0 hS ?_
        refine tk 1 hS ?_
        refine tk 2 hS ?_
        refine tk 3 hS ?_
        refine sk 4 hS ?_
        refine sk 5 hS ?_
        refine sk 6 hS ?_
        refine sk 7 hS ?_
        refine sk 8 hS ?_
        refine sk 9 hS ?_
        refine sk 10 hS ?_
        refine sk 11 hS ?_
        refine sk 12 hS ?_
        refine tk 13 hS ?_
        refine wpAnyH_done (by kernel_rfl) ?_ _
        clear hS
        go_wp2_with fail
        go_meet
        exact ⟨k, rfl, by omega, by omega, Lib.hid HK.out.drew, Lib.hid (by rw [← HSC.out, scanUp_end (fun x => ltN x dk[a]!) dk b1 k (Or.inl (by omega))])⟩
  case rest =>
  clear HK
  obtain ⟨i2, rfl, hi21, hi22, HK, HI2⟩ := hcut
  go_upto_block 2 with fail
  go_cut [11] from 46 to 62 (fun v wx => ∃ k : Nat, v = .int .i64 (k : Int) ∧ k ≤ b1 ∧ i2 ≤ k + 1 ∧ Hid (Nq w g pad dk wx) ∧ Hid (k = scanDown (fun x => !ltN x dk[a]!) dk i2 b1))
  case first =>
    go_wp2_with fail
    go_loopw [11] (fun v wx => ∃ k : Nat, v = .int .i64 (k : Int) ∧ k ≤ b1 ∧ i2 ≤ k + 1 ∧ Hid (Nq w g pad dk wx) ∧ Hid (scanDown (fun x => !ltN x dk[a]!) dk i2 k = scanDown (fun x => !ltN x dk[a]!) dk i2 b1)) (fun v _ => ((intOf v).toNat))
    case atStart => exact ⟨b1, rfl, by omega, by omega, HK, Lib.hid rfl⟩
    case round =>
      clear HK
      obtain ⟨k, rfl, hk1, hk2, HK, HSC⟩ := hrel
      by_cases hc : i2 ≤ k
      · have hkn : k < n := by omega
        obtain ⟨k1, hk1⟩ : ∃ k1, k - 1 = k1 := ⟨_, rfl⟩
        have ek1 : (k : Int) - 1 = (k1 : Int) := by omega
        have wk1 := wrapN (k := k1) (by omega)
        have xk1 : k1 < k ∧ k ≤ k1 + 1 := by omega
        have HEk1 := Lib.hid hk1
        clear hk1
        obtain ⟨z1, z2⟩ := xk1
        obtain ⟨x, hx⟩ : ∃ x, dk[a]! = x := ⟨_, rfl⟩
        have PA : Hid (∀ wz, Nr wz g pad dk → wz.cell? ⟨g, a, none⟩ = some (.int .u32 (x : Int))) := fun wz hz => by rw [← hx]; exact hz.cell (by rw [HSK.out]; omega)
        have HA := Lib.hid hx
        clear hx
        obtain ⟨y, hy⟩ : ∃ x, dk[k]! = x := ⟨_, rfl⟩
        have PB : Hid (∀ wz, Nr wz g pad dk → wz.cell? ⟨g, k, none⟩ = some (.int .u32 (y : Int))) := fun wz hz => by rw [← hy]; exact hz.cell (by rw [HSK.out]; omega)
        have HB := Lib.hid hy
        clear hy
        obtain ⟨bl, hbl⟩ : ∃ bl, ltN y x = bl := ⟨_, rfl⟩
        have HBL := Lib.hid hbl
        obtain ⟨nb, hnb⟩ : ∃ nb, (!bl) = nb := ⟨_, rfl⟩
        have HP : Hid ((fun x => !ltN x dk[a]!) dk[k]! = nb) := by show ((fun x => !ltN x dk[a]!) dk[k]!) = nb; simp only []; rw [HA.out, HB.out, hbl, hnb]
        clear hbl
        go_upto_region 5 with fail
        refine wp_region_held_drew (S := fun wz => Nr wz g pad dk) (by kernel_rfl) HK.out.nr.drew (fun hS => ?_)
        refine tk 0 hS ?_
        refine tk 1 hS ?_
        refine tk 2 hS ?_
        refine tk 3 hS ?_
        refine tk 4 hS ?_
        refine tk 5 hS ?_
        refine tk 6 hS ?_
        refine tk 7 hS ?_ (hy := by intro wz hz; have qA := PA.out wz hz; have qB := PB.out wz hz; go_simp <;> with_reducible rfl)
        refine tk 8 hS ?_
        refine tk 9 hS ?_
        refine tk 10 hS ?_
        refine tk 11 hS ?_ (hy := by intro wz hz; have qA := PA.out wz hz; have qB := PB.out wz hz; go_simp <;> with_reducible rfl)
        refine wpAnyH_ready (rs := [12]) (by kernel_rfl) (by simp) ?_
        refine AllReadyH.cons rfl (fun K hK => ?_) AllReadyH.nil
        go_simp
        refine (less_any y x _).mono ?_
        rintro e y9 ⟨rfl, hy9⟩
        subst hy9
        have hb : True := trivial
        rw [HBL.out]
        refine hK.out _ _ (hS) (fun hT => ?_)
        clear hK hb hS
        have hS := hT
        clear hT
        refine tk 13 hS ?_
        refine tk 14 hS ?_
        refine wpAnyH_done (by kernel_rfl) ?_ _
        have HS := Lib.hid hS
        clear hS
        cases nb
        · clear hnb
          go_wp2_with fail
          go_meet
          exact ⟨k, rfl, by omega, by omega, Lib.hid HK.out.drew, Lib.hid (by rw [← HSC.out, scanDown_end (fun x => !ltN x dk[a]!) dk i2 k (Or.inr HP.out)])⟩
        · clear hnb
          go_wp2_with fail
          exact ⟨⟨k1, by go_num, by omega, by omega, Lib.hid HK.out.drew, Lib.hid (by rw [← HSC.out, scanDown_go (fun x => !ltN x dk[a]!) dk i2 k hc (by omega) HP.out, HEk1.out])⟩, by simp [intOf]; omega⟩
      · go_upto_region 5 with fail
        refine wp_region_held_drew (S := fun wz => Nr wz g pad dk) (by kernel_rfl) HK.out.nr.drew (fun hS => ?_)
        refine tk 0 hS ?_
        refine tk 1 hS ?_
        refine tk 2 hS ?_
        refine tk 3 hS ?_
        refine sk 4 hS ?_
        refine sk 5 hS ?_
        refine sk 6 hS ?_
        refine sk 7 hS ?_
        refine sk 8 hS ?_
        refine sk 9 hS ?_
        refine sk 10 hS ?_
        refine sk 11 hS ?_
        refine sk 12 hS ?_
        refine sk 13 hS ?_
        refine tk 14 hS ?_
        refine wpAnyH_done (by kernel_rfl) ?_ _
        clear hS
        go_wp2_with fail
        go_meet
        exact ⟨k, rfl, by omega, by omega, Lib.hid HK.out.drew, Lib.hid (by rw [← HSC.out, scanDown_end (fun x => !ltN x dk[a]!) dk i2 k (Or.inl (by omega))])⟩
  case rest =>
  clear HK
  obtain ⟨j2, rfl, hj21, hj22, HK, HJ2⟩ := hcut
  by_cases hgt : j2 < i2
  · have hja : j2 < n ∧ a ≤ j2 := by omega
    obtain ⟨hja1, hja2⟩ := hja
    have HFB := Lib.hid (part_first_break ltN d a b p HEa1.out.symm HEb1.out.symm HDK.out HI2.out HJ2.out hgt)
    obtain ⟨x, hx⟩ : ∃ x, dk[j2]! = x := ⟨_, rfl⟩
    have PA : Hid (∀ wz, Nr wz g pad dk → wz.cell? ⟨g, j2, none⟩ = some (.int .u32 (x : Int))) := fun wz hz => by rw [← hx]; exact hz.cell (by rw [HSK.out]; omega)
    have HA := Lib.hid hx
    clear hx
    obtain ⟨y, hy⟩ : ∃ x, dk[a]! = x := ⟨_, rfl⟩
    have PB : Hid (∀ wz, Nr wz g pad dk → wz.cell? ⟨g, a, none⟩ = some (.int .u32 (y : Int))) := fun wz hz => by rw [← hy]; exact hz.cell (by rw [HSK.out]; omega)
    have HB := Lib.hid hy
    clear hy
    go_upto_region 8 with fail
    go_cut [8] from 66 to 79 (fun _ wx => Hid (Nq w g pad (swp dk j2 a) wx))
    case first =>
      by_cases hne : j2 = a
      · subst hne
        obtain rfl : x = y := HA.out.symm.trans HB.out
        have q1 : wc.cell? ⟨g, j2, none⟩ = some (.int .u32 (x : Int)) := PA.out wc HK.out.nr
        have q2 : wc.cell? ⟨g, j2, none⟩ = some (.int .u32 (x : Int)) := PB.out wc HK.out.nr
        have f1 : wc.frozen? ⟨g, j2, none⟩ = false := HK.out.nr.frozen j2
        have f2 : wc.frozen? ⟨g, j2, none⟩ = false := HK.out.nr.frozen j2
        have q3 : (wc.setCell ⟨g, j2, none⟩ (.int .u32 (x : Int))).cell? ⟨g, j2, none⟩ = some (.int .u32 (x : Int)) := by
          have h := HK.out.nr.swp_cell (i := j2) (j := j2) (by rw [HSK.out]; omega) (by rw [HSK.out]; omega)
          rw [HB.out] at h
          exact h
        have SW := Lib.hid (HK.out.swp (i := j2) (j := j2) (by rw [HSK.out]; omega) (by rw [HSK.out]; omega))
        rw [HA.out] at SW
        try rw [HB.out] at SW
        go_region
        all_goals go_wp2_with fail
        all_goals go_meet
        all_goals exact Lib.hid SW.out.drew
      · have q1 : wc.cell? ⟨g, j2, none⟩ = some (.int .u32 (x : Int)) := PA.out wc HK.out.nr
        have q2 : wc.cell? ⟨g, a, none⟩ = some (.int .u32 (y : Int)) := PB.out wc HK.out.nr
        have f1 : wc.frozen? ⟨g, j2, none⟩ = false := HK.out.nr.frozen j2
        have f2 : wc.frozen? ⟨g, a, none⟩ = false := HK.out.nr.frozen a
        have q3 : (wc.setCell ⟨g, j2, none⟩ (.int .u32 (y : Int))).cell? ⟨g, a, none⟩ = some (.int .u32 (y : Int)) := by
          have h := HK.out.nr.swp_cell (i := j2) (j := a) (by rw [HSK.out]; omega) (by rw [HSK.out]; omega)
          rw [HB.out] at h
          exact h
        have SW := Lib.hid (HK.out.swp (i := j2) (j := a) (by rw [HSK.out]; omega) (by rw [HSK.out]; omega))
        rw [HA.out] at SW
        try rw [HB.out] at SW
        go_region
        all_goals go_wp2_with fail
        all_goals go_meet
        all_goals exact Lib.hid SW.out.drew
    case rest =>
    have HQ := hcut
    go_wp2_with fail
    go_ret2
    rw [HFB.out]
    exact ⟨rfl, HQ.out⟩
  · have hlt : i2 < j2 := by
      have := part_scans_lt ltN a a1 b1 dk (by omega) HI2.out HJ2.out (by omega)
      exact this
    have hne : i2 ≠ j2 := by omega
    have HFG := Lib.hid (part_first_go ltN d a b p HEa1.out.symm HEb1.out.symm HDK.out HI2.out HJ2.out hgt)
    have hxx : i2 < n ∧ j2 < n ∧ a < i2 ∧ j2 < b := by omega
    obtain ⟨hxx1, hxx2, hxx3, hxx4⟩ := hxx
    obtain ⟨i3, hi3⟩ : ∃ i3, i2 + 1 = i3 := ⟨_, rfl⟩
    have ei3 : (i2 : Int) + 1 = (i3 : Int) := by omega
    have wi3 := wrapN (k := i3) (by omega)
    have xi3 : i2 < i3 ∧ i3 ≤ i2 + 1 := by omega
    have HEi3 := Lib.hid hi3
    clear hi3
    obtain ⟨j3, hj3⟩ : ∃ j3, j2 - 1 = j3 := ⟨_, rfl⟩
    have ej3 : (j2 : Int) - 1 = (j3 : Int) := by omega
    have wj3 := wrapN (k := j3) (by omega)
    have xj3 : j3 < j2 ∧ j2 ≤ j3 + 1 := by omega
    have HEj3 := Lib.hid hj3
    clear hj3
    obtain ⟨t1, t2⟩ := xi3
    obtain ⟨t3, t4⟩ := xj3
    rw [HEi3.out, HEj3.out] at HFG
    obtain ⟨u, hu⟩ : ∃ x, dk[i2]! = x := ⟨_, rfl⟩
    have PC : Hid (∀ wz, Nr wz g pad dk → wz.cell? ⟨g, i2, none⟩ = some (.int .u32 (u : Int))) := fun wz hz => by rw [← hu]; exact hz.cell (by rw [HSK.out]; omega)
    have HC := Lib.hid hu
    clear hu
    obtain ⟨v, hv⟩ : ∃ x, dk[j2]! = x := ⟨_, rfl⟩
    have PD : Hid (∀ wz, Nr wz g pad dk → wz.cell? ⟨g, j2, none⟩ = some (.int .u32 (v : Int))) := fun wz hz => by rw [← hv]; exact hz.cell (by rw [HSK.out]; omega)
    have HD := Lib.hid hv
    clear hv
    have q1 : wc.cell? ⟨g, i2, none⟩ = some (.int .u32 (u : Int)) := PC.out wc HK.out.nr
    have q2 : wc.cell? ⟨g, j2, none⟩ = some (.int .u32 (v : Int)) := PD.out wc HK.out.nr
    have f1 : wc.frozen? ⟨g, i2, none⟩ = false := HK.out.nr.frozen i2
    have f2 : wc.frozen? ⟨g, j2, none⟩ = false := HK.out.nr.frozen j2
    have q3 : (wc.setCell ⟨g, i2, none⟩ (.int .u32 (v : Int))).cell? ⟨g, j2, none⟩ = some (.int .u32 (v : Int)) := by
      have h := HK.out.nr.swp_cell (i := i2) (j := j2) (by rw [HSK.out]; omega) (by rw [HSK.out]; omega)
      rw [HD.out] at h
      exact h
    have SW := Lib.hid (HK.out.swp (i := i2) (j := j2) (by rw [HSK.out]; omega) (by rw [HSK.out]; omega))
    rw [HC.out] at SW
    try rw [HD.out] at SW
    go_wp2_with fail
    go_region
    have HK2 := Lib.hid SW.out.drew
    have HSK2 : Hid ((swp dk i2 j2).size = n) := by show _ = _; rw [size_swp]; exact HSK.out
    clear HK HSK SW q1 q2 q3 f1 f2 HC HD PC PD
    obtain ⟨d0, hd0⟩ : ∃ d0, swp dk i2 j2 = d0 := ⟨_, rfl⟩
    rw [hd0] at HK2 HSK2 HFG
    clear hd0 HI2 HJ2 HDK
    generalize ((wc.setCell { block := g, off := i2 } (Value.int IntKind.u32 ↑v)).setCell { block := g, off := j2 } (Value.int IntKind.u32 ↑u)).drew = w3 at HK2 ⊢
    have hst : a < i3 ∧ i3 ≤ j3 + 1 ∧ j3 < b := by omega
    obtain ⟨hst1, hst2, hst3⟩ := hst
    go_wp2_with fail
    go_loopw [10, 11] (fun vi vj wr => ∃ (i j : Nat) (dl : Array Nat), vi = .int .i64 (i : Int) ∧ vj = .int .i64 (j : Int) ∧ a < i ∧ i ≤ j + 1 ∧ j < b ∧ Hid (dl.size = n) ∧ Hid (Nq w g pad dl wr) ∧ Hid (partLoop ltN a i j dl = partLoop ltN a i3 j3 d0)) (fun vi vj _ => (intOf vj + 1 - intOf vi).toNat)
    case atStart => exact ⟨i3, j3, d0, by go_num, by go_num, hst1, hst2, hst3, HSK2, HK2, Lib.hid rfl⟩
    case round =>
      clear HK2 HSK2
      obtain ⟨i, j, dk, rfl, rfl, hai, hij, hjb, HSK, HK, HO⟩ := hrel
      go_upto_block 6 with fail
      go_cut [10] from 99 to 114 (fun v wx => ∃ k : Nat, v = .int .i64 (k : Int) ∧ i ≤ k ∧ k ≤ j + 1 ∧ Hid (Nq w g pad dk wx) ∧ Hid (k = scanUp (fun x => ltN x dk[a]!) dk j i))
      case first =>
        go_wp2_with fail
        go_loopw [10] (fun v wx => ∃ k : Nat, v = .int .i64 (k : Int) ∧ i ≤ k ∧ k ≤ j + 1 ∧ Hid (Nq w g pad dk wx) ∧ Hid (scanUp (fun x => ltN x dk[a]!) dk j k = scanUp (fun x => ltN x dk[a]!) dk j i)) (fun v _ => (j + 1 - (intOf v).toNat))
        case atStart => exact ⟨i, rfl, by omega, by omega, HK, Lib.hid rfl⟩
        case round =>
          clear HK
          obtain ⟨k, rfl, hk1, hk2, HK, HSC⟩ := hrel
          by_cases hc : k ≤ j
          · have hkn : k < n := by omega
            obtain ⟨k1, hk1⟩ : ∃ k1, k + 1 = k1 := ⟨_, rfl⟩
            have ek1 : (k : Int) + 1 = (k1 : Int) := by omega
            have wk1 := wrapN (k := k1) (by omega)
            have xk1 : k < k1 ∧ k1 ≤ k + 1 := by omega
            have HEk1 := Lib.hid hk1
            clear hk1
            obtain ⟨z1, z2⟩ := xk1
            obtain ⟨x, hx⟩ : ∃ x, dk[a]! = x := ⟨_, rfl⟩
            have PA : Hid (∀ wz, Nr wz g pad dk → wz.cell? ⟨g, a, none⟩ = some (.int .u32 (x : Int))) := fun wz hz => by rw [← hx]; exact hz.cell (by rw [HSK.out]; omega)
            have HA := Lib.hid hx
            clear hx
            obtain ⟨y, hy⟩ : ∃ x, dk[k]! = x := ⟨_, rfl⟩
            have PB : Hid (∀ wz, Nr wz g pad dk → wz.cell? ⟨g, k, none⟩ = some (.int .u32 (y : Int))) := fun wz hz => by rw [← hy]; exact hz.cell (by rw [HSK.out]; omega)
            have HB := Lib.hid hy
            clear hy
            obtain ⟨bl, hbl⟩ : ∃ bl, ltN y x = bl := ⟨_, rfl⟩
            have HBL := Lib.hid hbl
            have HP : Hid ((fun x => ltN x dk[a]!) dk[k]! = bl) := by show ((fun x => ltN x dk[a]!) dk[k]!) = bl; simp only []; rw [HA.out, HB.out, hbl]
            clear hbl
            go_upto_region 13 with fail
            refine wp_region_held_drew (S := fun wz => Nr wz g pad dk) (by kernel_rfl) HK.out.nr.drew (fun hS => ?_)
            refine tk 0 hS ?_
            refine tk 1 hS ?_
            refine tk 2 hS ?_
            refine tk 3 hS ?_
            refine tk 4 hS ?_
            refine tk 5 hS ?_
            refine tk 6 hS ?_
            refine tk 7 hS ?_ (hy := by intro wz hz; have qA := PA.out wz hz; have qB := PB.out wz hz; go_simp <;> with_reducible rfl)
            refine tk 8 hS ?_
            refine tk 9 hS ?_
            refine tk 10 hS ?_
            refine tk 11 hS ?_ (hy := by intro wz hz; have qA := PA.out wz hz; have qB := PB.out wz hz; go_simp <;> with_reducible rfl)
            refine wpAnyH_ready (rs := [12]) (by kernel_rfl) (by simp) ?_
            refine AllReadyH.cons rfl (fun K hK => ?_) AllReadyH.nil
            go_simp
            refine (less_any y x _).mono ?_
            rintro e y9 ⟨rfl, hy9⟩
            subst hy9
            have hb : True := trivial
            rw [HBL.out]
            refine hK.out _ _ (hS) (fun hT => ?_)
            clear hK hb hS
            have hS := hT
            clear hT
            refine tk 13 hS ?_
            refine wpAnyH_done (by kernel_rfl) ?_ _
            have HS := Lib.hid hS
            clear hS
            cases bl
            · go_wp2_with fail
              go_meet
              exact ⟨k, rfl, by omega, by omega, Lib.hid HK.out.drew, Lib.hid (by rw [← HSC.out, scanUp_end (fun x => ltN x dk[a]!) dk j k (Or.inr HP.out)])⟩
            · go_wp2_with fail
              exact ⟨⟨k1, by go_num, by omega, by omega, Lib.hid HK.out.drew, Lib.hid (by rw [← HSC.out, scanUp_go (fun x => ltN x dk[a]!) dk j k hc HP.out, HEk1.out])⟩, by simp [intOf]; omega⟩
          · go_upto_region 13 with fail
            refine wp_region_held_drew (S := fun wz => Nr wz g pad dk) (by kernel_rfl) HK.out.nr.drew (fun hS => ?_)
            refine tk 0 hS ?_
            refine tk 1 hS ?_
            refine tk 2 hS ?_
            refine tk 3 hS ?_
            refine sk 4 hS ?_
            refine sk 5 hS ?_
            refine sk 6 hS ?_
            refine sk 7 hS ?_
            refine sk 8 hS ?_
            refine sk 9 hS ?_
            refine sk 10 hS ?_
            refine sk 11 hS ?_
            refine sk 12 hS ?_
            refine tk 13 hS ?_
            refine wpAnyH_done (by kernel_rfl) ?_ _
            clear hS
            go_wp2_with fail
            go_meet
            exact ⟨k, rfl, by omega, by omega, Lib.hid HK.out.drew, Lib.hid (by rw [← HSC.out, scanUp_end (fun x => ltN x dk[a]!) dk j k (Or.inl (by omega))])⟩
      case rest =>
      clear HK
      obtain ⟨i4, rfl, hi41, hi42, HK, HI4⟩ := hcut
      go_upto_block 8 with fail
      go_cut [11] from 115 to 131 (fun v wx => ∃ k : Nat, v = .int .i64 (k : Int) ∧ k ≤ j ∧ i4 ≤ k + 1 ∧ Hid (Nq w g pad dk wx) ∧ Hid (k = scanDown (fun x => !ltN x dk[a]!) dk i4 j))
      case first =>
        go_wp2_with fail
        go_loopw [11] (fun v wx => ∃ k : Nat, v = .int .i64 (k : Int) ∧ k ≤ j ∧ i4 ≤ k + 1 ∧ Hid (Nq w g pad dk wx) ∧ Hid (scanDown (fun x => !ltN x dk[a]!) dk i4 k = scanDown (fun x => !ltN x dk[a]!) dk i4 j)) (fun v _ => ((intOf v).toNat))
        case atStart => exact ⟨j, rfl, by omega, by omega, HK, Lib.hid rfl⟩
        case round =>
          clear HK
          obtain ⟨k, rfl, hk1, hk2, HK, HSC⟩ := hrel
          by_cases hc : i4 ≤ k
          · have hkn : k < n := by omega
            obtain ⟨k1, hk1⟩ : ∃ k1, k - 1 = k1 := ⟨_, rfl⟩
            have ek1 : (k : Int) - 1 = (k1 : Int) := by omega
            have wk1 := wrapN (k := k1) (by omega)
            have xk1 : k1 < k ∧ k ≤ k1 + 1 := by omega
            have HEk1 := Lib.hid hk1
            clear hk1
            obtain ⟨z1, z2⟩ := xk1
            obtain ⟨x, hx⟩ : ∃ x, dk[a]! = x := ⟨_, rfl⟩
            have PA : Hid (∀ wz, Nr wz g pad dk → wz.cell? ⟨g, a, none⟩ = some (.int .u32 (x : Int))) := fun wz hz => by rw [← hx]; exact hz.cell (by rw [HSK.out]; omega)
            have HA := Lib.hid hx
            clear hx
            obtain ⟨y, hy⟩ : ∃ x, dk[k]! = x := ⟨_, rfl⟩
            have PB : Hid (∀ wz, Nr wz g pad dk → wz.cell? ⟨g, k, none⟩ = some (.int .u32 (y : Int))) := fun wz hz => by rw [← hy]; exact hz.cell (by rw [HSK.out]; omega)
            have HB := Lib.hid hy
            clear hy
            obtain ⟨bl, hbl⟩ : ∃ bl, ltN y x = bl := ⟨_, rfl⟩
            have HBL := Lib.hid hbl
            obtain ⟨nb, hnb⟩ : ∃ nb, (!bl) = nb := ⟨_, rfl⟩
            have HP : Hid ((fun x => !ltN x dk[a]!) dk[k]! = nb) := by show ((fun x => !ltN x dk[a]!) dk[k]!) = nb; simp only []; rw [HA.out, HB.out, hbl, hnb]
            clear hbl
            go_upto_region 15 with fail
            refine wp_region_held_drew (S := fun wz => Nr wz g pad dk) (by kernel_rfl) HK.out.nr.drew (fun hS => ?_)
            refine tk 0 hS ?_
            refine tk 1 hS ?_
            refine tk 2 hS ?_
            refine tk 3 hS ?_
            refine tk 4 hS ?_
            refine tk 5 hS ?_
            refine tk 6 hS ?_
            refine tk 7 hS ?_ (hy := by intro wz hz; have qA := PA.out wz hz; have qB := PB.out wz hz; go_simp <;> with_reducible rfl)
            refine tk 8 hS ?_
            refine tk 9 hS ?_
            refine tk 10 hS ?_
            refine tk 11 hS ?_ (hy := by intro wz hz; have qA := PA.out wz hz; have qB := PB.out wz hz; go_simp <;> with_reducible rfl)
            refine wpAnyH_ready (rs := [12]) (by kernel_rfl) (by simp) ?_
            refine AllReadyH.cons rfl (fun K hK => ?_) AllReadyH.nil
            go_simp
            refine (less_any y x _).mono ?_
            rintro e y9 ⟨rfl, hy9⟩
            subst hy9
            have hb : True := trivial
            rw [HBL.out]
            refine hK.out _ _ (hS) (fun hT => ?_)
            clear hK hb hS
            have hS := hT
            clear hT
            refine tk 13 hS ?_
            refine tk 14 hS ?_
            refine wpAnyH_done (by kernel_rfl) ?_ _
            have HS := Lib.hid hS
            clear hS
            cases nb
            · clear hnb
              go_wp2_with fail
              go_meet
              exact ⟨k, rfl, by omega, by omega, Lib.hid HK.out.drew, Lib.hid (by rw [← HSC.out, scanDown_end (fun x => !ltN x dk[a]!) dk i4 k (Or.inr HP.out)])⟩
            · clear hnb
              go_wp2_with fail
              exact ⟨⟨k1, by go_num, by omega, by omega, Lib.hid HK.out.drew, Lib.hid (by rw [← HSC.out, scanDown_go (fun x => !ltN x dk[a]!) dk i4 k hc (by omega) HP.out, HEk1.out])⟩, by simp [intOf]; omega⟩
          · go_upto_region 15 with fail
            refine wp_region_held_drew (S := fun wz => Nr wz g pad dk) (by kernel_rfl) HK.out.nr.drew (fun hS => ?_)
            refine tk 0 hS ?_
            refine tk 1 hS ?_
            refine tk 2 hS ?_
            refine tk 3 hS ?_
            refine sk 4 hS ?_
            refine sk 5 hS ?_
            refine sk 6 hS ?_
            refine sk 7 hS ?_
            refine sk 8 hS ?_
            refine sk 9 hS ?_
            refine sk 10 hS ?_
            refine sk 11 hS ?_
            refine sk 12 hS ?_
            refine sk 13 hS ?_
            refine tk 14 hS ?_
            refine wpAnyH_done (by kernel_rfl) ?_ _
            clear hS
            go_wp2_with fail
            go_meet
            exact ⟨k, rfl, by omega, by omega, Lib.hid HK.out.drew, Lib.hid (by rw [← HSC.out, scanDown_end (fun x => !ltN x dk[a]!) dk i4 k (Or.inl (by omega))])⟩
      case rest =>
      clear HK
      obtain ⟨j4, rfl, hj41, hj42, HK, HJ4⟩ := hcut
      by_cases hgt2 : j4 < i4
      · have hja : j4 < n ∧ a ≤ j4 := by omega
        obtain ⟨hja1, hja2⟩ := hja
        have HBR := Lib.hid (HO.out.symm.trans (part_break ltN a i j dk HI4.out HJ4.out hgt2))
        obtain ⟨x, hx⟩ : ∃ x, dk[j4]! = x := ⟨_, rfl⟩
        have PA : Hid (∀ wz, Nr wz g pad dk → wz.cell? ⟨g, j4, none⟩ = some (.int .u32 (x : Int))) := fun wz hz => by rw [← hx]; exact hz.cell (by rw [HSK.out]; omega)
        have HA := Lib.hid hx
        clear hx
        obtain ⟨y, hy⟩ : ∃ x, dk[a]! = x := ⟨_, rfl⟩
        have PB : Hid (∀ wz, Nr wz g pad dk → wz.cell? ⟨g, a, none⟩ = some (.int .u32 (y : Int))) := fun wz hz => by rw [← hy]; exact hz.cell (by rw [HSK.out]; omega)
        have HB := Lib.hid hy
        clear hy
        go_upto_region 21 with fail
        go_cut [8] from 153 to 166 (fun _ wx => Hid (Nq w g pad (swp dk j4 a) wx))
        case first =>
          by_cases hne : j4 = a
          · subst hne
            obtain rfl : x = y := HA.out.symm.trans HB.out
            have q1 : wc.cell? ⟨g, j4, none⟩ = some (.int .u32 (x : Int)) := PA.out wc HK.out.nr
            have q2 : wc.cell? ⟨g, j4, none⟩ = some (.int .u32 (x : Int)) := PB.out wc HK.out.nr
            have f1 : wc.frozen? ⟨g, j4, none⟩ = false := HK.out.nr.frozen j4
            have f2 : wc.frozen? ⟨g, j4, none⟩ = false := HK.out.nr.frozen j4
            have q3 : (wc.setCell ⟨g, j4, none⟩ (.int .u32 (x : Int))).cell? ⟨g, j4, none⟩ = some (.int .u32 (x : Int)) := by
              have h := HK.out.nr.swp_cell (i := j4) (j := j4) (by rw [HSK.out]; omega) (by rw [HSK.out]; omega)
              rw [HB.out] at h
              exact h
            have SW := Lib.hid (HK.out.swp (i := j4) (j := j4) (by rw [HSK.out]; omega) (by rw [HSK.out]; omega))
            rw [HA.out] at SW
            try rw [HB.out] at SW
            go_region
            all_goals go_wp2_with fail
            all_goals go_meet
            all_goals exact Lib.hid SW.out.drew
          · have q1 : wc.cell? ⟨g, j4, none⟩ = some (.int .u32 (x : Int)) := PA.out wc HK.out.nr
            have q2 : wc.cell? ⟨g, a, none⟩ = some (.int .u32 (y : Int)) := PB.out wc HK.out.nr
            have f1 : wc.frozen? ⟨g, j4, none⟩ = false := HK.out.nr.frozen j4
            have f2 : wc.frozen? ⟨g, a, none⟩ = false := HK.out.nr.frozen a
            have q3 : (wc.setCell ⟨g, j4, none⟩ (.int .u32 (y : Int))).cell? ⟨g, a, none⟩ = some (.int .u32 (y : Int)) := by
              have h := HK.out.nr.swp_cell (i := j4) (j := a) (by rw [HSK.out]; omega) (by rw [HSK.out]; omega)
              rw [HB.out] at h
              exact h
            have SW := Lib.hid (HK.out.swp (i := j4) (j := a) (by rw [HSK.out]; omega) (by rw [HSK.out]; omega))
            rw [HA.out] at SW
            try rw [HB.out] at SW
            go_region
            all_goals go_wp2_with fail
            all_goals go_meet
            all_goals exact Lib.hid SW.out.drew
        case rest =>
        have HQ := hcut
        go_wp2_with fail
        go_ret2
        rw [HFG.out, HBR.out]
        exact ⟨rfl, HQ.out⟩
      · have hlt : i4 < j4 := by
          have := part_scans_lt ltN a i j dk (by omega) HI4.out HJ4.out (by omega)
          exact this
        have hne4 : i4 ≠ j4 := by omega
        have HGO := Lib.hid (part_go ltN a i j dk HI4.out HJ4.out hgt2)
        have hxx : i4 < n ∧ j4 < n := by omega
        obtain ⟨hxy1, hxy2⟩ := hxx
        obtain ⟨i5, hi5⟩ : ∃ i5, i4 + 1 = i5 := ⟨_, rfl⟩
        have ei5 : (i4 : Int) + 1 = (i5 : Int) := by omega
        have wi5 := wrapN (k := i5) (by omega)
        have xi5 : i4 < i5 ∧ i5 ≤ i4 + 1 := by omega
        have HEi5 := Lib.hid hi5
        clear hi5
        obtain ⟨j5, hj5⟩ : ∃ j5, j4 - 1 = j5 := ⟨_, rfl⟩
        have ej5 : (j4 : Int) - 1 = (j5 : Int) := by omega
        have wj5 := wrapN (k := j5) (by omega)
        have xj5 : j5 < j4 ∧ j4 ≤ j5 + 1 := by omega
        have HEj5 := Lib.hid hj5
        clear hj5
        obtain ⟨t5, t6⟩ := xi5
        obtain ⟨t7, t8⟩ := xj5
        obtain ⟨u, hu⟩ : ∃ x, dk[i4]! = x := ⟨_, rfl⟩
        have PC : Hid (∀ wz, Nr wz g pad dk → wz.cell? ⟨g, i4, none⟩ = some (.int .u32 (u : Int))) := fun wz hz => by rw [← hu]; exact hz.cell (by rw [HSK.out]; omega)
        have HC := Lib.hid hu
        clear hu
        obtain ⟨v, hv⟩ : ∃ x, dk[j4]! = x := ⟨_, rfl⟩
        have PD : Hid (∀ wz, Nr wz g pad dk → wz.cell? ⟨g, j4, none⟩ = some (.int .u32 (v : Int))) := fun wz hz => by rw [← hv]; exact hz.cell (by rw [HSK.out]; omega)
        have HD := Lib.hid hv
        clear hv
        have q1 : wc.cell? ⟨g, i4, none⟩ = some (.int .u32 (u : Int)) := PC.out wc HK.out.nr
        have q2 : wc.cell? ⟨g, j4, none⟩ = some (.int .u32 (v : Int)) := PD.out wc HK.out.nr
        have f1 : wc.frozen? ⟨g, i4, none⟩ = false := HK.out.nr.frozen i4
        have f2 : wc.frozen? ⟨g, j4, none⟩ = false := HK.out.nr.frozen j4
        have q3 : (wc.setCell ⟨g, i4, none⟩ (.int .u32 (v : Int))).cell? ⟨g, j4, none⟩ = some (.int .u32 (v : Int)) := by
          have h := HK.out.nr.swp_cell (i := i4) (j := j4) (by rw [HSK.out]; omega) (by rw [HSK.out]; omega)
          rw [HD.out] at h
          exact h
        have SW := Lib.hid (HK.out.swp (i := i4) (j := j4) (by rw [HSK.out]; omega) (by rw [HSK.out]; omega))
        rw [HC.out] at SW
        try rw [HD.out] at SW
        go_wp2_with fail
        go_region
        all_goals go_wp2_with fail
        all_goals exact ⟨⟨i5, j5, swp dk i4 j4, by go_num, by go_num, by omega, by omega, by omega, Lib.hid (by rw [size_swp]; exact HSK.out), Lib.hid SW.out.drew, Lib.hid (by rw [← HO.out, HGO.out, HEi5.out, HEj5.out])⟩, by simp [intOf]; omega⟩
end Go.Proofs.Ytjbohnnknfcjeaa
