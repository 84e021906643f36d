/-
  slices.partialInsertionSortOrdered of numbers.
  Conditions: fewer than 2^60 numbers, at least one.
-/
import Derived.Test.YtjbohnnknfcjeaaO3
import Derived.Sort.WalkA6
namespace Go.Proofs.Ytjbohnnknfcjeaa
open Go.RowKit Go.Shelf Go.Sort
attribute [local go_sem] Oper.semAt_some
set_option maxRecDepth 20000

set_option maxHeartbeats 25600000 in
theorem pinsO_any (g n cap a b : Nat) (pad : List Value) (d : Array Nat) (w : World) (h : Nr w g pad d) (hn : d.size = n) (hab : a < b) (hb : b ≤ n) (hs : n < 1152921504606846976) :
    Calls Try.prog 39 #[.slice (some ⟨g, 0, none⟩) n cap, .int .i64 (a : Int), .int .i64 (b : Int)] w (fun e w' => e = .returned (.bool (partialInsertionSort ltN d a b).2) ∧ Nq w g pad (partialInsertionSort ltN d a b).1 w') := by
  have H0 := Lib.hid (Nq.refl h)
  have HN := Lib.hid hn
  clear h hn
  obtain ⟨a1, ha1⟩ : ∃ a1, a + 1 = a1 := ⟨_, rfl⟩
  have ea : (a : Int) + 1 = (a1 : Int) := by omega
  have wa := wrapN (k := a1) (by omega)
  have ha2 : a < a1 ∧ a1 ≤ b := by omega
  obtain ⟨L, hL⟩ : ∃ L, b - a = L := ⟨_, rfl⟩
  have eL : (b : Int) - (a : Int) = (L : Int) := by omega
  have wL := wrapN (k := L) (by omega)
  have HA1 := Lib.hid ha1
  have HL := Lib.hid hL
  obtain ⟨ha3, ha4⟩ := ha2
  clear ha1 hL
  go_enter Try.func39, Try.ntmps39
  go_wp2_with fail
  go_loopw [7, 8] (fun vi vs wr => ∃ (s i : Nat) (dk : Array Nat), vi = .int .i64 (i : Int) ∧ vs = .int .i64 (s : Int) ∧ s ≤ 5 ∧ a < i ∧ i ≤ b ∧ Hid (dk.size = n) ∧ Hid (Nq w g pad dk wr) ∧ Hid (partialIns ltN a b (5 - s) i dk = partialIns ltN a b 5 a1 d)) (fun _ vs _ => 5 - (intOf vs).toNat)
  case atStart => exact ⟨0, a1, d, rfl, rfl, by omega, ha3, ha4, HN, H0, Lib.hid rfl⟩
  case round =>
    obtain ⟨s, i0, dk, rfl, rfl, hs5, hai0, hib0, HSK, HK, HO⟩ := hrel
    by_cases hs5l : s < 5
    · obtain ⟨s1, hs1⟩ : ∃ s1, s + 1 = s1 := ⟨_, rfl⟩
      have es1 : (s : Int) + 1 = (s1 : Int) := by omega
      have ws1 := wrapN (k := s1) (by omega)
      have hs1b : s1 ≤ 5 ∧ s < s1 := by omega
      have HS1 := Lib.hid hs1
      obtain ⟨sb1, sb2⟩ := hs1b
      have ds5 : decide ((s : Int) < 5) = true := by simp; omega
      clear hs1
      go_wp2_with fail
      go_loopw [7] (fun vi wr2 => ∃ (i : Nat), vi = .int .i64 (i : Int) ∧ a < i ∧ i ≤ b ∧ Hid (Nq w g pad dk wr2) ∧ Hid (scanSorted ltN dk b i = scanSorted ltN dk b i0)) (fun vi _ => b - (intOf vi).toNat)
      case atStart => exact ⟨i0, rfl, hai0, hib0, HK, Lib.hid rfl⟩
      case round =>
        clear HK
        obtain ⟨i, rfl, hai, hib, HK, HSC⟩ := hrel
        by_cases hilt : i < b
        · 
          obtain ⟨i1, hi1⟩ : ∃ i1, i - 1 = i1 := ⟨_, rfl⟩
          have ei1 : (i : Int) - 1 = (i1 : Int) := by omega
          have wi1 := wrapN (k := i1) (by omega)
          have xi1 : i1 < i ∧ i ≤ i1 + 1 := by omega
          have HEi1 := Lib.hid hi1
          clear hi1
          obtain ⟨i2, hi2⟩ : ∃ i2, i + 1 = i2 := ⟨_, rfl⟩
          have ei2 : (i : Int) + 1 = (i2 : Int) := by omega
          have wi2 := wrapN (k := i2) (by omega)
          have xi2 : i < i2 ∧ i2 ≤ i + 1 := by omega
          have HEi2 := Lib.hid hi2
          clear hi2
          obtain ⟨xp1, xp2⟩ := xi1
          obtain ⟨xs1, xs2⟩ := xi2
          have hin : i < n ∧ i1 < n := by omega
          obtain ⟨hin1, hin2⟩ := hin
          obtain ⟨x, hx⟩ : ∃ x, dk[i]! = x := ⟨_, rfl⟩
          have PA : Hid (∀ wz, Nr wz g pad dk → wz.cell? ⟨g, i, none⟩ = some (.int .u32 (x : Int))) := fun wz hz => by rw [← hx]; exact hz.cell (by rw [HSK.out]; omega)
          have HA := Lib.hid hx
          clear hx
          obtain ⟨y, hy⟩ : ∃ x, dk[i1]! = x := ⟨_, rfl⟩
          have PB : Hid (∀ wz, Nr wz g pad dk → wz.cell? ⟨g, i1, none⟩ = some (.int .u32 (y : Int))) := fun wz hz => by rw [← hy]; exact hz.cell (by rw [HSK.out]; omega)
          have HB := Lib.hid hy
          clear hy
          obtain ⟨bl, hbl⟩ : ∃ bl, ltN x y = bl := ⟨_, rfl⟩
          have HBL := Lib.hid hbl
          have HLT : Hid (ltN dk[i]! dk[i - 1]! = bl) := by show _ = _; rw [HEi1.out, HA.out, HB.out, hbl]
          obtain ⟨nb, hnb⟩ : ∃ nb, (!bl) = nb := ⟨_, rfl⟩
          clear hbl
          go_upto_region 5 with fail
          refine wp_region_held_drew (S := fun wz => Nr wz g pad dk) (by kernel_rfl) HK.out.nr.drew (fun hS => ?_)
          refine tk 0 hS ?_
          refine tk 1 hS ?_
          refine tk 2 hS ?_
          refine tk 3 hS ?_
          refine tk 4 hS ?_
          refine tk 5 hS ?_
          refine tk 6 hS ?_
          refine tk 7 hS ?_ (hy := by intro wz hz; have qA := PA.out wz hz; have qB := PB.out wz hz; go_simp <;> with_reducible rfl)
          refine tk 8 hS ?_
          refine tk 9 hS ?_
          refine tk 10 hS ?_
          refine tk 11 hS ?_
          refine tk 12 hS ?_ (hy := by intro wz hz; have qA := PA.out wz hz; have qB := PB.out wz hz; go_simp <;> with_reducible rfl)
          refine wpAnyH_ready (rs := [13]) (by kernel_rfl) (by simp) ?_
          refine AllReadyH.cons rfl (fun K hK => ?_) AllReadyH.nil
          go_simp
          refine (less_any x y _).mono ?_
          rintro e y9 ⟨rfl, hy9⟩
          subst hy9
          have hb : True := trivial
          rw [HBL.out]
          refine hK.out _ _ (hS) (fun hT => ?_)
          clear hK hb hS
          have hS := hT
          clear hT
          refine tk 14 hS ?_
          refine tk 15 hS ?_
          refine wpAnyH_done (by kernel_rfl) ?_ _
          have HS := Lib.hid hS
          clear hS
          cases nb
          rotate_left
          · obtain rfl : bl = false := by simpa using hnb
            clear hnb
            go_wp2_with fail
            exact ⟨⟨i2, by go_num, by omega, by omega, Lib.hid HK.out.drew, Lib.hid (by rw [← HSC.out, scanSorted_go ltN dk b i hilt HLT.out, HEi2.out])⟩, by simp [intOf]; omega⟩
          · obtain rfl : bl = true := by simpa using hnb
            clear hnb
            have HKK : Hid (scanSorted ltN dk b i0 = i) := by show _ = _; rw [← HSC.out, scanSorted_stop ltN dk b i (Or.inr HLT.out)]
            have eib : ((i : Int) == (b : Int)) = false := by rw [nat_beq]; simp; omega
            have hib2 : i ≠ b := by omega
            by_cases h50 : L < 50
            · go_wp2_with fail
              go_ret
              have hq := pi_short ltN a b s i0 dk hs5l (by rw [HKK.out]; exact hib2) (by rw [HL.out]; exact h50)
              rw [HO.out] at hq
              unfold partialInsertionSort
              rw [HA1.out, hq]
              exact ⟨rfl, HK.out.drew⟩
            · have dh50 : decide ((L : Int) < 50) = false := by simp; omega
              have H50 : Hid (¬ b - a < 50) := by show ¬ _; rw [HL.out]; exact h50
              have hne : i ≠ i1 := by omega
              obtain ⟨ia, hia⟩ : ∃ ia, i - a = ia := ⟨_, rfl⟩
              have eia : (i : Int) - (a : Int) = (ia : Int) := by omega
              have wia := wrapN (k := ia) (by omega)
              obtain ⟨bi, hbi⟩ : ∃ bi, b - i = bi := ⟨_, rfl⟩
              have ebi : (b : Int) - (i : Int) = (bi : Int) := by omega
              have wbi := wrapN (k := bi) (by omega)
              obtain ⟨cg, hcg⟩ : ∃ cg, decide ((2 : Int) ≤ (ia : Int)) = cg := ⟨_, rfl⟩
              have HIA := Lib.hid hia
              have HBI := Lib.hid hbi
              clear hia hbi h50
              have q1 : wr.cell? ⟨g, i, none⟩ = some (.int .u32 (x : Int)) := PA.out wr HK.out.nr
              have q2 : wr.cell? ⟨g, i1, none⟩ = some (.int .u32 (y : Int)) := PB.out wr HK.out.nr
              have f1 : wr.frozen? ⟨g, i, none⟩ = false := HK.out.nr.frozen i
              have f2 : wr.frozen? ⟨g, i1, none⟩ = false := HK.out.nr.frozen i1
              have q3 : (wr.setCell ⟨g, i, none⟩ (.int .u32 (y : Int))).cell? ⟨g, i1, none⟩ = some (.int .u32 (y : Int)) := by
                have h := HK.out.nr.swp_cell (i := i) (j := i1) (by rw [HSK.out]; omega) (by rw [HSK.out]; omega)
                rw [HB.out] at h
                exact h
              have SW := Lib.hid (HK.out.swp (i := i) (j := i1) (by rw [HSK.out]; omega) (by rw [HSK.out]; omega))
              rw [HA.out] at SW
              try rw [HB.out] at SW
              have HSZ : Hid ((swp dk i i1).size = n) := by show _ = _; rw [size_swp]; exact HSK.out
              have HKD := HSK
              go_wp2_with fail
              go_region
              clear HK HSK HS q1 q2 q3 f1 f2
              have HK := Lib.hid SW.out.drew.drew
              have HSK := HSZ
              clear SW HSZ
              obtain ⟨d1, hd1⟩ : ∃ d1, swp dk i i1 = d1 := ⟨_, rfl⟩
              rw [hd1] at HK HSK
              have HD1 := Lib.hid hd1
              clear hd1
              generalize ((wr.setCell { block := g, off := i } (Value.int IntKind.u32 ↑y)).setCell { block := g, off := i1 } (Value.int IntKind.u32 ↑x)).drew.drew = w3 at HK ⊢
              go_upto_if 61 with fail
              go_cut [9] from 62 to 94 (fun _ wx => ∃ d2 : Array Nat, Hid (d2.size = n) ∧ Hid (Nq w g pad d2 wx) ∧ Hid (d2 = fixDown ltN a i d1))
              case first =>
                cases cg
                · have hg : ¬ 2 ≤ ia := by have := of_decide_eq_false hcg; omega
                  have HG : Hid (¬ i - a ≥ 2) := by show ¬ _; rw [HIA.out]; exact hg
                  go_wp2_with fail
                  go_meet
                  exact ⟨d1, HSK, HK, Lib.hid (by show _ = fixDown ltN a i d1; unfold fixDown; rw [if_neg HG.out])⟩
                · have hg : 2 ≤ ia := by have := of_decide_eq_true hcg; omega
                  have HG : Hid (i - a ≥ 2) := by show _ ≥ _; rw [HIA.out]; exact hg
                  go_wp2_with fail
                  go_loopw [9] (fun vj wr3 => ∃ (j : Nat) (dj : Array Nat), vj = .int .i64 (j : Int) ∧ j ≤ i1 ∧ Hid (dj.size = n) ∧ Hid (Nq w g pad dj wr3) ∧ Hid (shiftDown ltN j dj = shiftDown ltN i1 d1)) (fun vj _ => (intOf vj).toNat)
                  case atStart => exact ⟨i1, d1, rfl, by omega, HSK, HK, Lib.hid rfl⟩
                  case round =>
                    clear HK HSK
                    obtain ⟨j, dj, rfl, hjb, HSK, HK, HO3⟩ := hrel
                    by_cases hjg : 1 ≤ j
                    · obtain ⟨j1, hj1⟩ : ∃ j1, j - 1 = j1 := ⟨_, rfl⟩
                      have ej1 : (j : Int) - 1 = (j1 : Int) := by omega
                      have wj1 := wrapN (k := j1) (by omega)
                      have xj1 : j1 < j ∧ j ≤ j1 + 1 := by omega
                      have HEj1 := Lib.hid hj1
                      clear hj1
                      obtain ⟨yp1, yp2⟩ := xj1
                      have hjn : j < n ∧ j1 < n := by omega
                      obtain ⟨hjn1, hjn2⟩ := hjn
                      obtain ⟨u, hu⟩ : ∃ x, dj[j]! = x := ⟨_, rfl⟩
                      have PC : Hid (∀ wz, Nr wz g pad dj → wz.cell? ⟨g, j, none⟩ = some (.int .u32 (u : Int))) := fun wz hz => by rw [← hu]; exact hz.cell (by rw [HSK.out]; omega)
                      have HC := Lib.hid hu
                      clear hu
                      obtain ⟨v, hv⟩ : ∃ x, dj[j1]! = x := ⟨_, rfl⟩
                      have PD : Hid (∀ wz, Nr wz g pad dj → wz.cell? ⟨g, j1, none⟩ = some (.int .u32 (v : Int))) := fun wz hz => by rw [← hv]; exact hz.cell (by rw [HSK.out]; omega)
                      have HD := Lib.hid hv
                      clear hv
                      obtain ⟨bl3, hbl3⟩ : ∃ bl, ltN u v = bl := ⟨_, rfl⟩
                      have HBL3 := Lib.hid hbl3
                      have HLT3 : Hid (ltN dj[j]! dj[j - 1]! = bl3) := by show _ = _; rw [HEj1.out, HC.out, HD.out, hbl3]
                      clear hbl3
                      go_upto_region 16 with fail
                      refine wp_region_held_drew (S := fun wz => Nr wz g pad dj) (by kernel_rfl) HK.out.nr.drew (fun hS => ?_)
                      refine tk 0 hS ?_
                      refine tk 1 hS ?_
                      refine tk 2 hS ?_
                      refine tk 3 hS ?_ (hy := by intro wz hz; have qC := PC.out wz hz; have qD := PD.out wz hz; go_simp <;> with_reducible rfl)
                      refine tk 4 hS ?_
                      refine tk 5 hS ?_
                      refine tk 6 hS ?_
                      refine tk 7 hS ?_
                      refine tk 8 hS ?_ (hy := by intro wz hz; have qC := PC.out wz hz; have qD := PD.out wz hz; go_simp <;> with_reducible rfl)
                      refine wpAnyH_ready (rs := [9]) (by kernel_rfl) (by simp) ?_
                      refine AllReadyH.cons rfl (fun K hK => ?_) AllReadyH.nil
                      go_simp
                      refine (less_any u v _).mono ?_
                      rintro e y9 ⟨rfl, hy9⟩
                      subst hy9
                      have hb : True := trivial
                      rw [HBL3.out]
                      refine hK.out _ _ (hS) (fun hT => ?_)
                      clear hK hb hS
                      have hS := hT
                      clear hT
                      refine tk 10 hS ?_
                      refine wpAnyH_done (by kernel_rfl) ?_ _
                      have HS3 := Lib.hid hS
                      clear hS
                      cases bl3
                      · go_wp2_with fail
                        go_meet
                        exact ⟨dj, HSK, Lib.hid HK.out.drew, Lib.hid (by show _ = fixDown ltN a i d1; unfold fixDown; rw [if_pos HG.out, HEi1.out, ← HO3.out, shiftDown_stop ltN j dj (Or.inr HLT3.out)])⟩
                      · have q1 : wr.cell? ⟨g, j, none⟩ = some (.int .u32 (u : Int)) := PC.out wr HK.out.nr
                        have q2 : wr.cell? ⟨g, j1, none⟩ = some (.int .u32 (v : Int)) := PD.out wr HK.out.nr
                        have f1 : wr.frozen? ⟨g, j, none⟩ = false := HK.out.nr.frozen j
                        have f2 : wr.frozen? ⟨g, j1, none⟩ = false := HK.out.nr.frozen j1
                        have q3 : (wr.setCell ⟨g, j, none⟩ (.int .u32 (v : Int))).cell? ⟨g, j1, none⟩ = some (.int .u32 (v : Int)) := by
                          have h := HK.out.nr.swp_cell (i := j) (j := j1) (by rw [HSK.out]; omega) (by rw [HSK.out]; omega)
                          rw [HD.out] at h
                          exact h
                        have SW := Lib.hid (HK.out.swp (i := j) (j := j1) (by rw [HSK.out]; omega) (by rw [HSK.out]; omega))
                        rw [HC.out] at SW
                        try rw [HD.out] at SW
                        have hne : j ≠ j1 := by omega
                        go_wp2_with fail
                        go_region
                        all_goals go_wp2_with fail
                        all_goals exact ⟨⟨j1, swp dj j j1, by go_num, by omega, Lib.hid (by rw [size_swp]; exact HSK.out), Lib.hid SW.out.drew.drew, Lib.hid (by rw [← HO3.out, shiftDown_go ltN j dj hjg (by rw [HLT3.out]), HEj1.out])⟩, by simp [intOf]; omega⟩
                    · go_wp2_with fail
                      go_meet
                      exact ⟨dj, HSK, HK, Lib.hid (by show _ = fixDown ltN a i d1; unfold fixDown; rw [if_pos HG.out, HEi1.out, ← HO3.out, shiftDown_stop ltN j dj (Or.inl (by omega))])⟩
              case rest =>
                clear HK HSK
                obtain ⟨d2, HSK, HK, HD2⟩ := hcut
                by_cases hg : 2 ≤ bi
                · have dg : decide ((2 : Int) ≤ (bi : Int)) = true := by simp; omega
                  have HG : Hid (b - i ≥ 2) := by show _ ≥ _; rw [HBI.out]; exact hg
                  go_wp2_with fail
                  go_loopw [10] (fun vj wr3 => ∃ (j : Nat) (dj : Array Nat), vj = .int .i64 (j : Int) ∧ (1 ≤ j ∧ j ≤ b) ∧ Hid (dj.size = n) ∧ Hid (Nq w g pad dj wr3) ∧ Hid (shiftUp ltN b j dj = shiftUp ltN b i2 d2)) (fun vj _ => b - (intOf vj).toNat)
                  case atStart => exact ⟨i2, d2, rfl, by omega, HSK, HK, Lib.hid rfl⟩
                  case round =>
                    clear HK HSK
                    obtain ⟨j, dj, rfl, hjb, HSK, HK, HO3⟩ := hrel
                    by_cases hjg : j < b
                    · obtain ⟨j1, hj1⟩ : ∃ j1, j - 1 = j1 := ⟨_, rfl⟩
                      have ej1 : (j : Int) - 1 = (j1 : Int) := by omega
                      have wj1 := wrapN (k := j1) (by omega)
                      have xj1 : j1 < j ∧ j ≤ j1 + 1 := by omega
                      have HEj1 := Lib.hid hj1
                      clear hj1
                      obtain ⟨yp1, yp2⟩ := xj1
                      obtain ⟨j2, hj2⟩ : ∃ j2, j + 1 = j2 := ⟨_, rfl⟩
                      have ej2 : (j : Int) + 1 = (j2 : Int) := by omega
                      have wj2 := wrapN (k := j2) (by omega)
                      have xj2 : j < j2 ∧ j2 ≤ j + 1 := by omega
                      have HEj2 := Lib.hid hj2
                      clear hj2
                      obtain ⟨zp1, zp2⟩ := xj2
                      obtain ⟨hjb1, hjb2⟩ := hjb
                      have hjn : j < n ∧ j1 < n := by omega
                      obtain ⟨hjn1, hjn2⟩ := hjn
                      obtain ⟨u, hu⟩ : ∃ x, dj[j]! = x := ⟨_, rfl⟩
                      have PC : Hid (∀ wz, Nr wz g pad dj → wz.cell? ⟨g, j, none⟩ = some (.int .u32 (u : Int))) := fun wz hz => by rw [← hu]; exact hz.cell (by rw [HSK.out]; omega)
                      have HC := Lib.hid hu
                      clear hu
                      obtain ⟨v, hv⟩ : ∃ x, dj[j1]! = x := ⟨_, rfl⟩
                      have PD : Hid (∀ wz, Nr wz g pad dj → wz.cell? ⟨g, j1, none⟩ = some (.int .u32 (v : Int))) := fun wz hz => by rw [← hv]; exact hz.cell (by rw [HSK.out]; omega)
                      have HD := Lib.hid hv
                      clear hv
                      obtain ⟨bl3, hbl3⟩ : ∃ bl, ltN u v = bl := ⟨_, rfl⟩
                      have HBL3 := Lib.hid hbl3
                      have HLT3 : Hid (ltN dj[j]! dj[j - 1]! = bl3) := by show _ = _; rw [HEj1.out, HC.out, HD.out, hbl3]
                      clear hbl3
                      go_upto_region 22 with fail
                      refine wp_region_held_drew (S := fun wz => Nr wz g pad dj) (by kernel_rfl) HK.out.nr.drew (fun hS => ?_)
                      refine tk 0 hS ?_
                      refine tk 1 hS ?_
                      refine tk 2 hS ?_
                      refine tk 3 hS ?_ (hy := by intro wz hz; have qC := PC.out wz hz; have qD := PD.out wz hz; go_simp <;> with_reducible rfl)
                      refine tk 4 hS ?_
                      refine tk 5 hS ?_
                      refine tk 6 hS ?_
                      refine tk 7 hS ?_
                      refine tk 8 hS ?_ (hy := by intro wz hz; have qC := PC.out wz hz; have qD := PD.out wz hz; go_simp <;> with_reducible rfl)
                      refine wpAnyH_ready (rs := [9]) (by kernel_rfl) (by simp) ?_
                      refine AllReadyH.cons rfl (fun K hK => ?_) AllReadyH.nil
                      go_simp
                      refine (less_any u v _).mono ?_
                      rintro e y9 ⟨rfl, hy9⟩
                      subst hy9
                      have hb : True := trivial
                      rw [HBL3.out]
                      refine hK.out _ _ (hS) (fun hT => ?_)
                      clear hK hb hS
                      have hS := hT
                      clear hT
                      refine tk 10 hS ?_
                      refine wpAnyH_done (by kernel_rfl) ?_ _
                      have HS3 := Lib.hid hS
                      clear hS
                      cases bl3
                      · go_wp2_with fail
                        have HD3 : Hid (dj = fixUp ltN b i d2) := by show _ = fixUp ltN b i d2; unfold fixUp; rw [if_pos HG.out, HEi2.out, ← HO3.out, shiftUp_stop ltN b j dj (Or.inr HLT3.out)]
                        have hq := pi_go ltN a b s i0 i dk hs5l HKK.out hib2 H50.out
                        rw [HEi1.out, HD1.out, ← HD2.out, ← HD3.out, HS1.out, HO.out] at hq
                        exact ⟨⟨s1, i, dj, by go_num, by go_num, by omega, hai, hib, HSK, (Lib.hid HK.out.drew), Lib.hid hq.symm⟩, by simp [intOf]; omega⟩
                      · have q1 : wr.cell? ⟨g, j, none⟩ = some (.int .u32 (u : Int)) := PC.out wr HK.out.nr
                        have q2 : wr.cell? ⟨g, j1, none⟩ = some (.int .u32 (v : Int)) := PD.out wr HK.out.nr
                        have f1 : wr.frozen? ⟨g, j, none⟩ = false := HK.out.nr.frozen j
                        have f2 : wr.frozen? ⟨g, j1, none⟩ = false := HK.out.nr.frozen j1
                        have q3 : (wr.setCell ⟨g, j, none⟩ (.int .u32 (v : Int))).cell? ⟨g, j1, none⟩ = some (.int .u32 (v : Int)) := by
                          have h := HK.out.nr.swp_cell (i := j) (j := j1) (by rw [HSK.out]; omega) (by rw [HSK.out]; omega)
                          rw [HD.out] at h
                          exact h
                        have SW := Lib.hid (HK.out.swp (i := j) (j := j1) (by rw [HSK.out]; omega) (by rw [HSK.out]; omega))
                        rw [HC.out] at SW
                        try rw [HD.out] at SW
                        have hne : j ≠ j1 := by omega
                        go_wp2_with fail
                        go_region
                        all_goals go_wp2_with fail
                        all_goals exact ⟨⟨j2, swp dj j j1, by go_num, by omega, Lib.hid (by rw [size_swp]; exact HSK.out), Lib.hid SW.out.drew.drew, Lib.hid (by rw [← HO3.out, shiftUp_go ltN b j dj hjg (by rw [HLT3.out]), HEj1.out, HEj2.out])⟩, by simp [intOf]; omega⟩
                    · go_wp2_with fail
                      have HD3 : Hid (dj = fixUp ltN b i d2) := by show _ = fixUp ltN b i d2; unfold fixUp; rw [if_pos HG.out, HEi2.out, ← HO3.out, shiftUp_stop ltN b j dj (Or.inl (by omega))]
                      have hq := pi_go ltN a b s i0 i dk hs5l HKK.out hib2 H50.out
                      rw [HEi1.out, HD1.out, ← HD2.out, ← HD3.out, HS1.out, HO.out] at hq
                      exact ⟨⟨s1, i, dj, by go_num, by go_num, by omega, hai, hib, HSK, HK, Lib.hid hq.symm⟩, by simp [intOf]; omega⟩
                · have dg : decide ((2 : Int) ≤ (bi : Int)) = false := by simp; omega
                  have HG : Hid (¬ b - i ≥ 2) := by show ¬ _; rw [HBI.out]; exact hg
                  go_wp2_with fail
                  have HD3 : Hid (d2 = fixUp ltN b i d2) := by show _ = fixUp ltN b i d2; unfold fixUp; rw [if_neg HG.out]
                  have hq := pi_go ltN a b s i0 i dk hs5l HKK.out hib2 H50.out
                  rw [HEi1.out, HD1.out, ← HD2.out, ← HD3.out, HS1.out, HO.out] at hq
                  exact ⟨⟨s1, i, d2, by go_num, by go_num, by omega, hai, hib, HSK, HK, Lib.hid hq.symm⟩, by simp [intOf]; omega⟩
        · obtain rfl : i = b := by omega
          have HKK : Hid (scanSorted ltN dk i i0 = i) := by show _ = _; rw [← HSC.out, scanSorted_stop ltN dk i i (Or.inl (by omega))]
          go_upto_region 5 with fail
          refine wp_region_held_drew (S := fun wz => Nr wz g pad dk) (by kernel_rfl) HK.out.nr.drew (fun hS => ?_)
          refine tk 0 hS ?_
          refine tk 1 hS ?_
          refine tk 2 hS ?_
          refine tk 3 hS ?_
          refine sk 4 hS ?_
          refine sk 5 hS ?_
          refine sk 6 hS ?_
          refine sk 7 hS ?_
          refine sk 8 hS ?_
          refine sk 9 hS ?_
          refine sk 10 hS ?_
          refine sk 11 hS ?_
          refine sk 12 hS ?_
          refine sk 13 hS ?_
          refine sk 14 hS ?_
          refine tk 15 hS ?_
          refine wpAnyH_done (by kernel_rfl) ?_ _
          clear hS
          go_wp2_with fail
          go_ret
          have hq := pi_true ltN a i s i0 dk hs5l HKK.out
          rw [HO.out] at hq
          unfold partialInsertionSort
          rw [HA1.out, hq]
          exact ⟨rfl, HK.out.drew⟩
    · obtain rfl : s = 5 := by omega
      go_wp2_with fail
      go_ret
      have hq := pi_end ltN a b i0 dk
      rw [HO.out] at hq
      unfold partialInsertionSort
      rw [HA1.out, hq]
      exact ⟨rfl, HK.out⟩
end Go.Proofs.Ytjbohnnknfcjeaa
