/-
  slices.breakPatternsOrdered of numbers; the random numbers, the power of two and the number of bits by the library's contracts.
  Conditions: fewer than 2^60 numbers, at least eight of them.
-/
import Derived.Test.YtjbohnnknfcjeaaO7
import Derived.Test.YtjbohnnknfcjeaaSA
import Derived.Sort.Walk7
namespace Go.Proofs.Ytjbohnnknfcjeaa
open Go.RowKit Go.Shelf Go.Sort
attribute [local go_sem] Oper.semAt_some
set_option maxRecDepth 20000

theorem next_any (rb X : Nat) (hX : X < 18446744073709551616) (w : World) (hc : w.cell? ⟨rb, 0, none⟩ = some (.int .u64 (X : Int))) (hf : w.frozen? ⟨rb, 0, none⟩ = false) :
    Calls Try.prog 47 #[.pointer (some ⟨rb, 0, none⟩)] w fun e w' => e = .returned (.int .u64 (xorNextN X : Nat)) ∧ w' = (w.setCell ⟨rb, 0, none⟩ (.int .u64 (xorNextN X : Nat))).drewN 3 :=
  AnyF.xorshift_Next (P := Try.prog) (ρ := laySort_ren) layNext rb 0 X hX w hc hf
theorem npow_any (n : Nat) (hn : n < 4611686018427387904) (w : World) : Calls Try.prog 46 #[.int .i64 (n : Int)] w fun e w' => e = .returned (.int .u64 ((1 <<< bitsLen n : Nat) : Int)) ∧ w' = w :=
  AnyF.nextPowerOfTwo (P := Try.prog) (ρ := laySort_ren) { laySort with } n hn w
theorem blen_any (n : Nat) (hn : n < 4611686018427387904) (w : World) : Calls Try.prog 33 #[.int .u64 (n : Int)] w fun e w' => e = .returned (.int .i64 (Lib.bitLen n : Nat)) ∧ w' = w := by
  have h := Any.bits_Len (SlLaysF0.n15.bits (P := Try.prog) (ρ := laySort_ren) { laySort with }) (n : Int) w (by omega) (by omega)
  rwa [Int.toNat_natCast] at h
theorem wrapU {k : Nat} (h : k < 18446744073709551616) : IntKind.u64.wrap (k : Int) = (k : Int) := by
  rw [IntKind.wrap_u64]
  omega
/-- The row and the box of the random number; nothing else has turned but the row's block. -/
structure Sr (w0 : World) (g : Nat) (pad : List Value) (d : Array Nat) (sb X : Nat) (w : World) : Prop where
  nr : Nr w g pad d
  bx : At w sb 73 #[.int .u64 (X : Int)]
  gr : w0.grownBy w (some g)
  ne : g ≠ sb
  lo : w0.heap.size ≤ sb
section
variable {w0 w w' : World} {g sb X : Nat} {pad : List Value} {d : Array Nat}
theorem Sr.drewN (h : Sr w0 g pad d sb X w) (n : Nat) : Sr w0 g pad d sb X (w.drewN n) := ⟨h.nr, h.bx, ⟨h.gr.os, h.gr.tape, h.gr.output, h.gr.size, h.gr.block⟩, h.ne, h.lo⟩
theorem Sr.drew (h : Sr w0 g pad d sb X w) : Sr w0 g pad d sb X w.drew := h.drewN 1
theorem Sr.set (h : Sr w0 g pad d sb X w) (Y : Nat) : Sr w0 g pad d sb Y (w.setCell ⟨sb, 0, none⟩ (.int .u64 (Y : Int))) := by
  refine ⟨At.other h.nr h.ne _, At.set h.bx 0 _, ⟨h.gr.os, h.gr.tape, h.gr.output, by simpa using h.gr.size, fun k hk hne => ?_⟩, h.ne, h.lo⟩
  have hk2 : k ≠ sb := fun e => by have := h.lo; omega
  exact (Below.heap_setCell w ⟨sb, 0, none⟩ _ k hk2).trans (h.gr.block k hk hne)
theorem Sr.swp (h : Sr w0 g pad d sb X w) {i j : Nat} (hi : i < d.size) (hj : j < d.size) : Sr w0 g pad (swp d i j) sb X ((w.setCell ⟨g, i, none⟩ (.int .u32 (d[j]! : Int))).setCell ⟨g, j, none⟩ (.int .u32 (d[i]! : Int))) :=
  ⟨h.nr.swp hi hj, (At.other (At.other h.bx (Ne.symm h.ne) _) (Ne.symm h.ne) _), grown_set (grown_set h.gr rfl _) rfl _, h.ne, h.lo⟩
end
set_option maxHeartbeats 12800000 in
theorem breakO_any (g n cap a b : Nat) (pad : List Value) (d : Array Nat) (w : World) (h : Nr w g pad d) (hn : d.size = n) (hab : a + 8 ≤ b) (hb : b ≤ n) (hs : n < 1152921504606846976) :
    Calls Try.prog 36 #[.slice (some ⟨g, 0, none⟩) n cap, .int .i64 (a : Int), .int .i64 (b : Int)] w (fun e w' => e = .returned (.tuple #[]) ∧ Nq w g pad (breakPatterns d a b) w') := by
  have HSD := Lib.hid hn
  obtain ⟨L, hL⟩ : ∃ L, b - a = L := ⟨_, rfl⟩
  obtain ⟨q, hq⟩ : ∃ q, L / 4 = q := ⟨_, rfl⟩
  obtain ⟨q2, hq2⟩ : ∃ q2, q * 2 = q2 := ⟨_, rfl⟩
  obtain ⟨m, hm⟩ : ∃ m, a + q2 = m := ⟨_, rfl⟩
  obtain ⟨i0, hi0⟩ : ∃ i0, m - 1 = i0 := ⟨_, rfl⟩
  obtain ⟨m1, hm1⟩ : ∃ m1, m + 1 = m1 := ⟨_, rfl⟩
  have eL : (b : Int) - (a : Int) = (L : Int) := by omega
  have eq1 : (L : Int) / 4 = (q : Int) := by omega
  have eq1' : (L : Int).tdiv 4 = (q : Int) := by rw [Int.tdiv_eq_ediv_of_nonneg (by omega)]; exact eq1
  have eq2 : (q : Int) * 2 = (q2 : Int) := by omega
  have em : (a : Int) + (q2 : Int) = (m : Int) := by omega
  have ei0 : (m : Int) - 1 = (i0 : Int) := by omega
  have em1 : (m : Int) + 1 = (m1 : Int) := by omega
  have wL := wrapN (k := L) (by omega)
  have wLu := wrapU (k := L) (by omega)
  have wq := wrapN (k := q) (by omega)
  have wq2 := wrapN (k := q2) (by omega)
  have wm := wrapN (k := m) (by omega)
  have wi0 := wrapN (k := i0) (by omega)
  have wm1 := wrapN (k := m1) (by omega)
  have hbd : 8 ≤ L ∧ a + L = b ∧ i0 + 2 ≤ m1 ∧ m1 ≤ i0 + 2 ∧ m1 < b ∧ a ≤ i0 ∧ i0 < n ∧ L ≤ n := by omega
  obtain ⟨bd1, bd2, bd3, bd4, bd5, bd6, bd7, bd8⟩ := hbd
  obtain ⟨M, hM⟩ : ∃ M : Nat, 1 <<< bitsLen L = M := ⟨_, rfl⟩
  have hMb : 1 ≤ M ∧ M ≤ 2 * L := by
    rw [← hM, Nat.one_shiftLeft]
    exact ⟨Nat.two_pow_pos _, two_pow_bitsLen_le (by omega)⟩
  obtain ⟨hM1, hM2⟩ := hMb
  obtain ⟨M1, hMM⟩ : ∃ M1, M - 1 = M1 := ⟨_, rfl⟩
  have eM : (M : Int) - 1 = (M1 : Int) := by omega
  have wM1 := wrapU (k := M1) (by omega)
  have HBP : Hid (breakPatterns d a b = bpRest a L M i0 3 0 (UInt64.ofNat L, d)) := by
    show breakPatterns d a b = _
    rw [← bd2, breakPatterns_eq d a L bd1, hM]
    congr 1
    omega
  have hNP := npow_any L (by omega)
  rw [hM] at hNP
  have HNP := Lib.hid hNP
  have HMM : Hid (M - 1 = M1) := hMM
  have hM3 : M1 < 2 * L := by omega
  have d8 : decide ((8 : Int) ≤ (L : Int)) = true := by simp; omega
  have hgl := h.lt
  have S0 : Hid (Sr w g pad d w.heap.size L (w.alloc (.cells #[.int .u64 (L : Int)] 73))) := ⟨At.alloc h _, At.new w _ _, World.grownBy_alloc w _ _, by omega, Nat.le_refl _⟩
  clear hL hq hq2 hm hi0 hm1 hM hMM hNP h hn bd2
  go_enter Try.func36, Try.ntmps36
  go_upto_region 3 with fail
  generalize w.alloc (.cells #[.int .u64 (L : Int)] 73) = z at S0 ⊢
  generalize w.heap.size = sb at S0 ⊢
  go_wp2_with fail
  refine (HNP.out _).mono ?_
  rintro e z1 ⟨rfl, rfl⟩
  go_wp2_with fail
  go_loopw [9, 10] (fun vi _ wr => ∃ (t : Nat) (r : UInt64) (dk : Array Nat), vi = .int .i64 ((i0 + t : Nat) : Int) ∧ t ≤ 3 ∧ Hid (dk.size = n) ∧ Hid (Sr w g pad dk sb r.toNat wr) ∧ Hid (bpRest a L M i0 (3 - t) t (r, dk) = bpRest a L M i0 3 0 (UInt64.ofNat L, d))) (fun vi _ _ => i0 + 3 - (intOf vi).toNat)
  case atStart =>
    refine ⟨0, UInt64.ofNat L, d, by go_num, by omega, HSD, Lib.hid ?_, Lib.hid rfl⟩
    rw [show (UInt64.ofNat L).toNat = L from by simp; omega]
    exact S0.out
  case round =>
    clear S0
    obtain ⟨t, r, dk, rfl, ht, HSK, HS, HR⟩ := hrel
    obtain ⟨it, hit⟩ : ∃ it, i0 + t = it := ⟨_, rfl⟩
    rw [hit]
    have HIT := Lib.hid hit
    by_cases ht3 : t < 3
    · have hitn : it < n ∧ it ≤ m1 ∧ i0 ≤ it ∧ it ≤ i0 + 2 := by omega
      obtain ⟨hit1, hit2, hit3, hit4⟩ := hitn
      obtain ⟨t1, ht1⟩ : ∃ t1, t + 1 = t1 := ⟨_, rfl⟩
      have ht1b : t < t1 ∧ t1 ≤ t + 1 ∧ i0 + t1 = it + 1 := by omega
      obtain ⟨hta, htb, htc⟩ := ht1b
      have HTC := Lib.hid htc
      have HTT := Lib.hid ht1
      have eit : (it : Int) + 1 = ((i0 + t1 : Nat) : Int) := by omega
      obtain ⟨itn, hitn⟩ : ∃ itn, i0 + t1 = itn := ⟨_, rfl⟩
      rw [hitn] at eit
      have HITN := Lib.hid hitn
      have witn := wrapN (k := itn) (by omega)
      clear hit ht1 htc hitn
      obtain ⟨R0, hRr⟩ : ∃ R0 : Nat, r.toNat = R0 := ⟨_, rfl⟩
      have lR : R0 < 18446744073709551616 := by rw [← hRr]; exact r.toNat_lt
      obtain ⟨R1, hR1⟩ : ∃ R1 : Nat, xorNextN R0 = R1 := ⟨_, rfl⟩
      have lR1 : R1 < 18446744073709551616 := by rw [← hR1]; exact xorNextN_lt R0 lR
      obtain ⟨o1, ho1⟩ : ∃ o1 : Nat, R1 &&& M1 = o1 := ⟨_, rfl⟩
      have lo1 : o1 ≤ M1 := by rw [← ho1]; exact Nat.and_le_right
      have eAnd := bits_and_u64_nat R1 M1 lR1 (by omega)
      rw [ho1] at eAnd
      have HS' := HS.out
      rw [hRr] at HS'
      have c0 : wr.cell? ⟨sb, 0, none⟩ = some (.int .u64 (R0 : Int)) := HS'.bx.cell 0
      have f0 : wr.frozen? ⟨sb, 0, none⟩ = false := HS'.bx.frozen 0
      have hNX := next_any sb R0 lR wr c0 f0
      rw [hR1] at hNX
      have HNX := Lib.hid hNX
      have HRX : Hid ((xorNext r).toNat = R1) := by show _ = _; rw [xorNext_toNat, hRr, hR1]
      have HO1 : Hid ((xorNext r).toNat &&& (M - 1) = o1) := by show _ = _; rw [HRX.out, HMM.out, ho1]
      have S2 := Lib.hid ((HS'.set R1).drewN 3)
      generalize hw2 : (wr.setCell ⟨sb, 0, none⟩ (.int .u64 (R1 : Int))).drewN 3 = w2 at S2
      have HW2 := Lib.hid hw2
      have wo1 := wrapN (k := o1) (by omega)
      have wo1u := wrapU (k := o1) (by omega)
      clear hRr hR1 ho1 HS' c0 f0 hNX HS hw2
      go_wp2_with fail
      refine HNX.out.mono ?_
      rintro e w' ⟨rfl, hw'⟩
      obtain rfl : w2 = w' := by rw [hw', HW2.out]
      clear hw' HNX HW2
      by_cases hLO : L ≤ o1
      · obtain ⟨o, ho⟩ : ∃ o, o1 - L = o := ⟨_, rfl⟩
        have eo : (o1 : Int) - (L : Int) = (o : Int) := by omega
        have wo := wrapN (k := o) (by omega)
        have hoL : o < L := by omega
        have HOO : Hid ((if (xorNext r).toNat &&& (M - 1) ≥ L then ((xorNext r).toNat &&& (M - 1)) - L else (xorNext r).toNat &&& (M - 1)) = o) := by show (if _ then _ else _) = _; rw [HO1.out, if_pos hLO, ho]
        clear ho
        obtain ⟨ao, hao⟩ : ∃ ao, a + o = ao := ⟨_, rfl⟩
        have hoo : ao < n ∧ it < n := by omega
        obtain ⟨ho1, ho2⟩ := hoo
        have eao : (a : Int) + (o : Int) = (ao : Int) := by omega
        have wao := wrapN (k := ao) (by omega)
        have HAO := Lib.hid hao
        clear hao
        have HST := Lib.hid (bp_step a L M i0 t r dk o ht3 HOO.out)
        rw [HIT.out, HAO.out, HTT.out] at HST
        obtain ⟨x, hx⟩ : ∃ x, dk[it]! = x := ⟨_, rfl⟩
        have PA : Hid (∀ wz, Nr wz g pad dk → wz.cell? ⟨g, it, none⟩ = some (.int .u32 (x : Int))) := fun wz hz => by rw [← hx]; exact hz.cell (by rw [HSK.out]; omega)
        have HA := Lib.hid hx
        clear hx
        obtain ⟨y, hy⟩ : ∃ x, dk[ao]! = x := ⟨_, rfl⟩
        have PB : Hid (∀ wz, Nr wz g pad dk → wz.cell? ⟨g, ao, none⟩ = some (.int .u32 (y : Int))) := fun wz hz => by rw [← hy]; exact hz.cell (by rw [HSK.out]; omega)
        have HB := Lib.hid hy
        clear hy
        by_cases hne : it = ao
        · subst hne
          obtain rfl : x = y := HA.out.symm.trans HB.out
          have q1 : w2.cell? ⟨g, it, none⟩ = some (.int .u32 (x : Int)) := PA.out w2 S2.out.nr
          have q2 : w2.cell? ⟨g, it, none⟩ = some (.int .u32 (x : Int)) := PB.out w2 S2.out.nr
          have f1 : w2.frozen? ⟨g, it, none⟩ = false := S2.out.nr.frozen it
          have f2 : w2.frozen? ⟨g, it, none⟩ = false := S2.out.nr.frozen it
          have q3 : (w2.setCell ⟨g, it, none⟩ (.int .u32 (x : Int))).cell? ⟨g, it, none⟩ = some (.int .u32 (x : Int)) := by
            have h := S2.out.nr.swp_cell (i := it) (j := it) (by rw [HSK.out]; omega) (by rw [HSK.out]; omega)
            rw [HB.out] at h
            exact h
          have SW := Lib.hid (S2.out.swp (i := it) (j := it) (by rw [HSK.out]; omega) (by rw [HSK.out]; omega))
          rw [HA.out] at SW
          try rw [HB.out] at SW
          go_wp2_with fail
          go_region
          all_goals go_wp2_with fail
          all_goals exact ⟨⟨t1, xorNext r, swp dk it it, by rw [HITN.out], by omega, Lib.hid (by rw [size_swp]; exact HSK.out), Lib.hid (by rw [HRX.out]; exact SW.out.drew), Lib.hid (by rw [← HR.out, HST.out])⟩, by simp [intOf]; omega⟩
        · have q1 : w2.cell? ⟨g, it, none⟩ = some (.int .u32 (x : Int)) := PA.out w2 S2.out.nr
          have q2 : w2.cell? ⟨g, ao, none⟩ = some (.int .u32 (y : Int)) := PB.out w2 S2.out.nr
          have f1 : w2.frozen? ⟨g, it, none⟩ = false := S2.out.nr.frozen it
          have f2 : w2.frozen? ⟨g, ao, none⟩ = false := S2.out.nr.frozen ao
          have q3 : (w2.setCell ⟨g, it, none⟩ (.int .u32 (y : Int))).cell? ⟨g, ao, none⟩ = some (.int .u32 (y : Int)) := by
            have h := S2.out.nr.swp_cell (i := it) (j := ao) (by rw [HSK.out]; omega) (by rw [HSK.out]; omega)
            rw [HB.out] at h
            exact h
          have SW := Lib.hid (S2.out.swp (i := it) (j := ao) (by rw [HSK.out]; omega) (by rw [HSK.out]; omega))
          rw [HA.out] at SW
          try rw [HB.out] at SW
          go_wp2_with fail
          go_region
          all_goals go_wp2_with fail
          all_goals exact ⟨⟨t1, xorNext r, swp dk it ao, by rw [HITN.out], by omega, Lib.hid (by rw [size_swp]; exact HSK.out), Lib.hid (by rw [HRX.out]; exact SW.out.drew), Lib.hid (by rw [← HR.out, HST.out])⟩, by simp [intOf]; omega⟩
      · obtain ⟨o, ho⟩ : ∃ o, o1 = o := ⟨_, rfl⟩
        have HOO : Hid ((if (xorNext r).toNat &&& (M - 1) ≥ L then ((xorNext r).toNat &&& (M - 1)) - L else (xorNext r).toNat &&& (M - 1)) = o) := by show (if _ then _ else _) = _; rw [HO1.out, if_neg hLO, ho]
        subst ho
        obtain ⟨o, ho⟩ : ∃ o, o = o1 := ⟨_, rfl⟩
        subst ho
        obtain ⟨ao, hao⟩ : ∃ ao, a + o = ao := ⟨_, rfl⟩
        have hoo : ao < n ∧ it < n := by omega
        obtain ⟨ho1, ho2⟩ := hoo
        have eao : (a : Int) + (o : Int) = (ao : Int) := by omega
        have wao := wrapN (k := ao) (by omega)
        have HAO := Lib.hid hao
        clear hao
        have HST := Lib.hid (bp_step a L M i0 t r dk o ht3 HOO.out)
        rw [HIT.out, HAO.out, HTT.out] at HST
        obtain ⟨x, hx⟩ : ∃ x, dk[it]! = x := ⟨_, rfl⟩
        have PA : Hid (∀ wz, Nr wz g pad dk → wz.cell? ⟨g, it, none⟩ = some (.int .u32 (x : Int))) := fun wz hz => by rw [← hx]; exact hz.cell (by rw [HSK.out]; omega)
        have HA := Lib.hid hx
        clear hx
        obtain ⟨y, hy⟩ : ∃ x, dk[ao]! = x := ⟨_, rfl⟩
        have PB : Hid (∀ wz, Nr wz g pad dk → wz.cell? ⟨g, ao, none⟩ = some (.int .u32 (y : Int))) := fun wz hz => by rw [← hy]; exact hz.cell (by rw [HSK.out]; omega)
        have HB := Lib.hid hy
        clear hy
        by_cases hne : it = ao
        · subst hne
          obtain rfl : x = y := HA.out.symm.trans HB.out
          have q1 : w2.cell? ⟨g, it, none⟩ = some (.int .u32 (x : Int)) := PA.out w2 S2.out.nr
          have q2 : w2.cell? ⟨g, it, none⟩ = some (.int .u32 (x : Int)) := PB.out w2 S2.out.nr
          have f1 : w2.frozen? ⟨g, it, none⟩ = false := S2.out.nr.frozen it
          have f2 : w2.frozen? ⟨g, it, none⟩ = false := S2.out.nr.frozen it
          have q3 : (w2.setCell ⟨g, it, none⟩ (.int .u32 (x : Int))).cell? ⟨g, it, none⟩ = some (.int .u32 (x : Int)) := by
            have h := S2.out.nr.swp_cell (i := it) (j := it) (by rw [HSK.out]; omega) (by rw [HSK.out]; omega)
            rw [HB.out] at h
            exact h
          have SW := Lib.hid (S2.out.swp (i := it) (j := it) (by rw [HSK.out]; omega) (by rw [HSK.out]; omega))
          rw [HA.out] at SW
          try rw [HB.out] at SW
          go_wp2_with fail
          go_region
          all_goals go_wp2_with fail
          all_goals exact ⟨⟨t1, xorNext r, swp dk it it, by rw [HITN.out], by omega, Lib.hid (by rw [size_swp]; exact HSK.out), Lib.hid (by rw [HRX.out]; exact SW.out.drew), Lib.hid (by rw [← HR.out, HST.out])⟩, by simp [intOf]; omega⟩
        · have q1 : w2.cell? ⟨g, it, none⟩ = some (.int .u32 (x : Int)) := PA.out w2 S2.out.nr
          have q2 : w2.cell? ⟨g, ao, none⟩ = some (.int .u32 (y : Int)) := PB.out w2 S2.out.nr
          have f1 : w2.frozen? ⟨g, it, none⟩ = false := S2.out.nr.frozen it
          have f2 : w2.frozen? ⟨g, ao, none⟩ = false := S2.out.nr.frozen ao
          have q3 : (w2.setCell ⟨g, it, none⟩ (.int .u32 (y : Int))).cell? ⟨g, ao, none⟩ = some (.int .u32 (y : Int)) := by
            have h := S2.out.nr.swp_cell (i := it) (j := ao) (by rw [HSK.out]; omega) (by rw [HSK.out]; omega)
            rw [HB.out] at h
            exact h
          have SW := Lib.hid (S2.out.swp (i := it) (j := ao) (by rw [HSK.out]; omega) (by rw [HSK.out]; omega))
          rw [HA.out] at SW
          try rw [HB.out] at SW
          go_wp2_with fail
          go_region
          all_goals go_wp2_with fail
          all_goals exact ⟨⟨t1, xorNext r, swp dk it ao, by rw [HITN.out], by omega, Lib.hid (by rw [size_swp]; exact HSK.out), Lib.hid (by rw [HRX.out]; exact SW.out.drew), Lib.hid (by rw [← HR.out, HST.out])⟩, by simp [intOf]; omega⟩
    · obtain rfl : t = 3 := by omega
      have HB : Hid (breakPatterns d a b = dk) := by show _ = _; rw [HBP.out, ← HR.out]; rfl
      have hitn : m1 < it := by omega
      clear hit
      go_wp2_with fail
      go_end0
      exact ⟨rfl, by rw [HB.out]; exact ⟨HS.out.nr, HS.out.gr⟩⟩
end Go.Proofs.Ytjbohnnknfcjeaa
