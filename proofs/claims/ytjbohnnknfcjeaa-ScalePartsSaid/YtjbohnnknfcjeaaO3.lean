/-
  slices.heapSortOrdered, reverseRangeOrdered of numbers.
  Conditions: fewer than 2^60 numbers, at least one.
-/
import Derived.Test.YtjbohnnknfcjeaaO2
namespace Go.Proofs.Ytjbohnnknfcjeaa
open Go.RowKit Go.Shelf Go.Sort
attribute [local go_sem] Oper.semAt_some
set_option maxRecDepth 20000

set_option maxHeartbeats 6400000 in
theorem heapO_any (g n cap a b : Nat) (pad : List Value) (d : Array Nat) (w : World) (h : Nr w g pad d) (hn : d.size = n) (hab : a < b) (hb : b ≤ n) (hs : n < 1152921504606846976) :
    Calls Try.prog 35 #[.slice (some ⟨g, 0, none⟩) n cap, .int .i64 (a : Int), .int .i64 (b : Int)] w (fun e w' => e = .returned (.tuple #[]) ∧ Nq w g pad (heapSort ltN d a b) w') := by
  have H0 := Lib.hid (Nq.refl h)
  have HN := Lib.hid hn
  clear h hn
  obtain ⟨L, hL⟩ : ∃ L, b - a = L := ⟨_, rfl⟩
  obtain ⟨L1, hL1⟩ : ∃ L1, L - 1 = L1 := ⟨_, rfl⟩
  obtain ⟨K1, hK1⟩ : ∃ K1, L1 / 2 = K1 := ⟨_, rfl⟩
  have eL : (b : Int) - (a : Int) = (L : Int) := by omega
  have eL1 : (L : Int) - 1 = (L1 : Int) := by omega
  have eK : (L1 : Int) / 2 = (K1 : Int) := by omega
  have eK2 : (L1 : Int).tdiv 2 = (K1 : Int) := by rw [Int.tdiv_eq_ediv_of_nonneg (by omega)]; exact eK
  have wL := wrapN (k := L) (by omega)
  have wL1 := wrapN (k := L1) (by omega)
  have wK := wrapN (k := K1) (by omega)
  have hLn : L ≤ n ∧ a + L ≤ n ∧ K1 ≤ L ∧ L1 + 1 = L := by omega
  have HL := Lib.hid hL
  have HK1 : Hid ((L - 1) / 2 + 1 = K1 + 1) := by show _ = _; rw [hL1, hK1]
  have HL1 : Hid (b - a = L1 + 1) := by show _ = _; omega
  obtain ⟨l1, l2, l3, l4⟩ := hLn
  clear hL hL1 hK1
  go_enter Try.func35, Try.ntmps35
  go_wp2_with fail
  go_loopw [9] (fun vi wr => ∃ (k : Nat) (dk : Array Nat), vi = .int .i64 ((k : Int) - 1) ∧ k ≤ K1 + 1 ∧ Hid (dk.size = n) ∧ Hid (Nq w g pad dk wr) ∧ Hid (heapBuild ltN L a k dk = heapBuild ltN L a (K1 + 1) d)) (fun vi _ => (intOf vi + 1).toNat)
  case atStart => exact ⟨K1 + 1, d, by go_num, Nat.le_refl _, HN, H0, Lib.hid rfl⟩
  case round =>
    obtain ⟨k, dk, rfl, hk, HSK, HK, HO⟩ := hrel
    cases k with
    | succ k =>
      have ek : ((k + 1 : Nat) : Int) - 1 = (k : Int) := by omega
      obtain ⟨q, hq⟩ : ∃ q : Int, ((k + 1 : Nat) : Int) - 1 = q := ⟨_, rfl⟩
      rw [hq]
      have hqk : q = (k : Int) := by rw [← hq, ek]
      subst hqk
      clear ek hq
      have HC := Lib.hid (siftO_any g n cap k L a pad dk wr HK.out.nr HSK.out (by omega) (by omega) hs)
      go_wp2_with fail
      refine HC.out.mono ?_
      rintro e y ⟨rfl, hy⟩
      have HY := Lib.hid (HK.out.then hy)
      clear hy HC
      go_wp2_with fail
      exact ⟨⟨k, siftDown ltN L a k dk, rfl, by omega, Lib.hid (by rw [size_siftDown ltN L a _ _ _ (Nat.le_refl _)]; exact HSK.out), HY, Lib.hid (by rw [← HO.out]; rfl)⟩, by simp [intOf]⟩
    | zero =>
      have HBD : Hid (dk = heapBuild ltN L a (K1 + 1) d) := HO.out
      have hz : (((0 : Nat) : Int) - 1) = -1 := rfl
      rw [hz]
      go_wp2_with fail
      go_loopw [10] (fun vi wr2 => ∃ (k : Nat) (dj : Array Nat), vi = .int .i64 ((k : Int) - 1) ∧ k ≤ L ∧ Hid (dj.size = n) ∧ Hid (Nq w g pad dj wr2) ∧ Hid (heapPop ltN a k dj = heapPop ltN a L dk)) (fun vi _ => (intOf vi + 1).toNat)
      case atStart => exact ⟨L, dk, by go_num, Nat.le_refl _, HSK, HK, Lib.hid rfl⟩
      case round =>
        clear HO HK HSK
        obtain ⟨k, dj, rfl, hkL, HSK, HK, HO⟩ := hrel
        cases k with
        | succ k =>
          have ek : ((k + 1 : Nat) : Int) - 1 = (k : Int) := by omega
          obtain ⟨q, hq⟩ : ∃ q : Int, ((k + 1 : Nat) : Int) - 1 = q := ⟨_, rfl⟩
          rw [hq]
          have hqk : q = (k : Int) := by rw [← hq, ek]
          subst hqk
          obtain ⟨ak, hak⟩ : ∃ ak, a + k = ak := ⟨_, rfl⟩
          have eak : (a : Int) + (k : Int) = (ak : Int) := by omega
          have wak := wrapN (k := ak) (by omega)
          have hakn : ak < n ∧ a < n := by omega
          obtain ⟨m1, m2⟩ := hakn
          have HAK := Lib.hid hak
          clear ek hq hak
          have HSZ : Hid ((swp dj a ak).size = n) := by show _ = _; rw [size_swp]; exact HSK.out
          obtain ⟨x, hx⟩ : ∃ x, dj[a]! = x := ⟨_, rfl⟩
          have PA : Hid (∀ wz, Nr wz g pad dj → wz.cell? ⟨g, a, none⟩ = some (.int .u32 (x : Int))) := fun wz hz => by rw [← hx]; exact hz.cell (by rw [HSK.out]; omega)
          have HA := Lib.hid hx
          clear hx
          obtain ⟨y, hy⟩ : ∃ x, dj[ak]! = x := ⟨_, rfl⟩
          have PB : Hid (∀ wz, Nr wz g pad dj → wz.cell? ⟨g, ak, none⟩ = some (.int .u32 (y : Int))) := fun wz hz => by rw [← hy]; exact hz.cell (by rw [HSK.out]; omega)
          have HB := Lib.hid hy
          clear hy
          by_cases hne : a = ak
          · subst hne
            obtain rfl : x = y := HA.out.symm.trans HB.out
            have q1 : wr.cell? ⟨g, a, none⟩ = some (.int .u32 (x : Int)) := PA.out wr HK.out.nr
            have q2 : wr.cell? ⟨g, a, none⟩ = some (.int .u32 (x : Int)) := PB.out wr HK.out.nr
            have f1 : wr.frozen? ⟨g, a, none⟩ = false := HK.out.nr.frozen a
            have f2 : wr.frozen? ⟨g, a, none⟩ = false := HK.out.nr.frozen a
            have q3 : (wr.setCell ⟨g, a, none⟩ (.int .u32 (x : Int))).cell? ⟨g, a, none⟩ = some (.int .u32 (x : Int)) := by
              have h := HK.out.nr.swp_cell (i := a) (j := a) (by rw [HSK.out]; omega) (by rw [HSK.out]; omega)
              rw [HB.out] at h
              exact h
            have SW := Lib.hid (HK.out.swp (i := a) (j := a) (by rw [HSK.out]; omega) (by rw [HSK.out]; omega))
            rw [HA.out] at SW
            try rw [HB.out] at SW
            go_wp2_with fail
            go_region
            all_goals
              have SW2 := Lib.hid SW.out.drew
              have HC := Lib.hid (siftO_any g n cap 0 k a pad _ _ SW2.out.nr HSZ.out (by omega) (by omega) hs)
              go_wp2_with fail
              refine HC.out.mono ?_
              rintro e zw ⟨rfl, hy⟩
              have HY := Lib.hid (SW2.out.then hy)
              clear hy HC
              go_wp2_with fail
              exact ⟨⟨k, siftDown ltN k a 0 (swp dj a (a + k)), rfl, by omega, Lib.hid (by rw [HAK.out, size_siftDown ltN k a _ _ _ (Nat.le_refl _)]; exact HSZ.out), Lib.hid (by rw [HAK.out]; exact HY.out), Lib.hid (by rw [← HO.out]; rfl)⟩, by simp [intOf]⟩
          · have q1 : wr.cell? ⟨g, a, none⟩ = some (.int .u32 (x : Int)) := PA.out wr HK.out.nr
            have q2 : wr.cell? ⟨g, ak, none⟩ = some (.int .u32 (y : Int)) := PB.out wr HK.out.nr
            have f1 : wr.frozen? ⟨g, a, none⟩ = false := HK.out.nr.frozen a
            have f2 : wr.frozen? ⟨g, ak, none⟩ = false := HK.out.nr.frozen ak
            have q3 : (wr.setCell ⟨g, a, none⟩ (.int .u32 (y : Int))).cell? ⟨g, ak, none⟩ = some (.int .u32 (y : Int)) := by
              have h := HK.out.nr.swp_cell (i := a) (j := ak) (by rw [HSK.out]; omega) (by rw [HSK.out]; omega)
              rw [HB.out] at h
              exact h
            have SW := Lib.hid (HK.out.swp (i := a) (j := ak) (by rw [HSK.out]; omega) (by rw [HSK.out]; omega))
            rw [HA.out] at SW
            try rw [HB.out] at SW
            go_wp2_with fail
            go_region
            all_goals
              have SW2 := Lib.hid SW.out.drew
              have HC := Lib.hid (siftO_any g n cap 0 k a pad _ _ SW2.out.nr HSZ.out (by omega) (by omega) hs)
              go_wp2_with fail
              refine HC.out.mono ?_
              rintro e zw ⟨rfl, hy⟩
              have HY := Lib.hid (SW2.out.then hy)
              clear hy HC
              go_wp2_with fail
              exact ⟨⟨k, siftDown ltN k a 0 (swp dj a (a + k)), rfl, by omega, Lib.hid (by rw [HAK.out, size_siftDown ltN k a _ _ _ (Nat.le_refl _)]; exact HSZ.out), Lib.hid (by rw [HAK.out]; exact HY.out), Lib.hid (by rw [← HO.out]; rfl)⟩, by simp [intOf]⟩
        | zero =>
          have hz : (((0 : Nat) : Int) - 1) = -1 := rfl
          rw [hz]
          have HZ : Hid (dj = heapPop ltN a L dk) := HO.out
          go_wp2_with fail
          go_end0
          exact ⟨rfl, by unfold heapSort; rw [HL.out, HK1.out, ← HBD.out, ← HZ.out]; exact HK.out⟩
set_option maxHeartbeats 6400000 in
theorem revO_any (g n cap a b : Nat) (pad : List Value) (d : Array Nat) (w : World) (h : Nr w g pad d) (hn : d.size = n) (hab : a < b) (hb : b ≤ n) (hs : n < 1152921504606846976) :
    Calls Try.prog 38 #[.slice (some ⟨g, 0, none⟩) n cap, .int .i64 (a : Int), .int .i64 (b : Int)] w (fun e w' => e = .returned (.tuple #[]) ∧ Nq w g pad (reverseRange d a b) w') := by
  have H0 := Lib.hid (Nq.refl h)
  have HN := Lib.hid hn
  clear h hn
  obtain ⟨b1, hb1⟩ : ∃ b1, b - 1 = b1 := ⟨_, rfl⟩
  have eb : (b : Int) - 1 = (b1 : Int) := by omega
  have wb := wrapN (k := b1) (by omega)
  have hb1n : b1 < n ∧ a ≤ b1 := by omega
  have HB1 := Lib.hid hb1
  obtain ⟨m1, m2⟩ := hb1n
  clear hb1
  go_enter Try.func38, Try.ntmps38
  go_wp2_with fail
  go_loopw [6, 7] (fun vi vj wr => ∃ (i j : Nat) (dk : Array Nat), vi = .int .i64 (i : Int) ∧ vj = .int .i64 (j : Int) ∧ j < n ∧ i ≤ n ∧ Hid (dk.size = n) ∧ Hid (Nq w g pad dk wr) ∧ Hid (reverseLoop i j dk = reverseLoop a b1 d)) (fun vi vj _ => (intOf vj - intOf vi).toNat)
  case atStart => exact ⟨a, b1, d, rfl, rfl, m1, by omega, HN, H0, Lib.hid rfl⟩
  case round =>
    obtain ⟨i, j, dk, rfl, rfl, hj, hi, HSK, HK, HO⟩ := hrel
    by_cases hij : i < j
    · obtain ⟨j1, hj1⟩ : ∃ j1, j - 1 = j1 := ⟨_, rfl⟩
      obtain ⟨i1, hi1⟩ : ∃ i1, i + 1 = i1 := ⟨_, rfl⟩
      have ej : (j : Int) - 1 = (j1 : Int) := by omega
      have ei : (i : Int) + 1 = (i1 : Int) := by omega
      have wj := wrapN (k := j1) (by omega)
      have wi := wrapN (k := i1) (by omega)
      have hx : j1 < n ∧ i1 ≤ n ∧ i < n ∧ j1 + i1 = j + i ∧ i < i1 := by omega
      obtain ⟨x1, x2, x3, x4, x5⟩ := hx
      have HJ1 := Lib.hid hj1
      have HI1 := Lib.hid hi1
      clear hj1 hi1
      obtain ⟨x, hx⟩ : ∃ x, dk[i]! = x := ⟨_, rfl⟩
      have PA : Hid (∀ wz, Nr wz g pad dk → wz.cell? ⟨g, i, none⟩ = some (.int .u32 (x : Int))) := fun wz hz => by rw [← hx]; exact hz.cell (by rw [HSK.out]; omega)
      have HA := Lib.hid hx
      clear hx
      obtain ⟨y, hy⟩ : ∃ x, dk[j]! = x := ⟨_, rfl⟩
      have PB : Hid (∀ wz, Nr wz g pad dk → wz.cell? ⟨g, j, none⟩ = some (.int .u32 (y : Int))) := fun wz hz => by rw [← hy]; exact hz.cell (by rw [HSK.out]; omega)
      have HB := Lib.hid hy
      clear hy
      have q1 : wr.cell? ⟨g, i, none⟩ = some (.int .u32 (x : Int)) := PA.out wr HK.out.nr
      have q2 : wr.cell? ⟨g, j, none⟩ = some (.int .u32 (y : Int)) := PB.out wr HK.out.nr
      have f1 : wr.frozen? ⟨g, i, none⟩ = false := HK.out.nr.frozen i
      have f2 : wr.frozen? ⟨g, j, none⟩ = false := HK.out.nr.frozen j
      have q3 : (wr.setCell ⟨g, i, none⟩ (.int .u32 (y : Int))).cell? ⟨g, j, none⟩ = some (.int .u32 (y : Int)) := by
        have h := HK.out.nr.swp_cell (i := i) (j := j) (by rw [HSK.out]; omega) (by rw [HSK.out]; omega)
        rw [HB.out] at h
        exact h
      have SW := Lib.hid (HK.out.swp (i := i) (j := j) (by rw [HSK.out]; omega) (by rw [HSK.out]; omega))
      rw [HA.out] at SW
      try rw [HB.out] at SW
      go_wp2_with fail
      go_region
      all_goals go_wp2_with fail
      all_goals exact ⟨⟨i1, j1, swp dk i j, by go_num, by go_num, x1, x2, Lib.hid (by rw [size_swp]; exact HSK.out), Lib.hid SW.out.drew, Lib.hid (by rw [← HO.out]; conv => rhs; rw [reverseLoop, if_pos hij, HJ1.out, HI1.out])⟩, by simp [intOf]; omega⟩
    · go_wp2_with fail
      go_end0
      exact ⟨rfl, by
        have h1 : reverseLoop i j dk = dk := by rw [reverseLoop, if_neg hij]
        unfold reverseRange
        rw [HB1.out, ← HO.out, h1]
        exact HK.out⟩
end Go.Proofs.Ytjbohnnknfcjeaa
