/-
  slices.pdqsortOrdered, slices.Sort of numbers: the row holds a rearrangement that rises.
  Conditions: fewer than 2^60 numbers.
-/
import Derived.Test.YtjbohnnknfcjeaaO8
import Derived.Sort.Walk13a
import Derived.Sort.WalkA14
namespace Go.Proofs.Ytjbohnnknfcjeaa
open Go.RowKit Go.Shelf Go.Sort
attribute [local go_sem] Oper.semAt_some
set_option maxRecDepth 20000

/-- What the sort makes of numbers between two places: the same ones, rising; what lies elsewhere stays. -/
theorem pdq_ok (d : Array Nat) (a b limit : Nat) (wb wp : Bool) (hab : a ≤ b) (hb : b ≤ d.size) (hB : Sort.Below ltN a b d) : PermIn a b d (pdq ltN d a b limit wb wp) ∧ SortedIn ltN a b (pdq ltN d a b limit wb wp) :=
  pdq_holds insertionSort_holds heapSort_holds partialInsertionSort_holds (partition_holds _) (partitionEqual_holds _) reverseRange_holds swo_ltN d a b limit wb wp hab hb hB
theorem hint_two {h : Hint} (e : hintCode h = 2) : h = .decreasing := by cases h <;> simp [hintCode] at e ⊢
theorem hint_one {h : Hint} : (hintCode h == 1) = decide (h = .increasing) := by cases h <;> decide
/-- The state of pdqsort's loop. -/
structure Ps (w0 : World) (g : Nat) (pad : List Value) (d : Array Nat) (n a0 b0 lim0 a b lim : Nat) (wb wp : Bool) (dk : Array Nat) (w : World) : Prop where
  sz : dk.size = n
  nq : Nq w0 g pad dk w
  bel : Sort.Below ltN a b dk
  eq : pdq ltN dk a b lim wb wp = pdq ltN d a0 b0 lim0 true true
def PdqC (g n cap : Nat) (pad : List Value) (N : Nat) : Prop := ∀ (a b lim : Nat) (d : Array Nat) (w : World), b - a < N → Nr w g pad d → d.size = n → a ≤ b → b ≤ n → lim < 1152921504606846976 → Sort.Below ltN a b d →
  Calls Try.prog 32 #[.slice (some ⟨g, 0, none⟩) n cap, .int .i64 (a : Int), .int .i64 (b : Int), .int .i64 (lim : Int)] w (fun e w' => e = .returned (.tuple #[]) ∧ Nq w g pad (pdq ltN d a b lim true true) w')
set_option maxHeartbeats 25600000 in
theorem pdqO_step (g n cap : Nat) (pad : List Value) (hs : n < 1152921504606846976) (N : Nat) (IH : PdqC g n cap pad N) : PdqC g n cap pad (N + 1) := by
  intro a0 b0 lim0 d w hN h hn hab0 hb0 hlim0 hbel0
  have S0 : Hid (Ps w g pad d n a0 b0 lim0 a0 b0 lim0 true true d w) := ⟨hn, Nq.refl h, hbel0, rfl⟩
  have HIH := Lib.hid IH
  clear h hn hbel0 IH
  go_enter Try.func32, Try.ntmps32
  go_wp2_with fail
  go_loopw [1, 2, 3, 8, 9] (fun va vb vl vwb vwp wr => ∃ (a b lim : Nat) (wb wp : Bool) (dk : Array Nat), va = .int .i64 (a : Int) ∧ vb = .int .i64 (b : Int) ∧ vl = .int .i64 (lim : Int) ∧ vwb = .bool wb ∧ vwp = .bool wp ∧ a ≤ b ∧ b ≤ n ∧ b - a < N + 1 ∧ lim < 1152921504606846976 ∧ Hid (Ps w g pad d n a0 b0 lim0 a b lim wb wp dk wr)) (fun va vb _ _ _ _ => (intOf vb - intOf va).toNat)
  case atStart => exact ⟨a0, b0, lim0, true, true, d, rfl, rfl, rfl, rfl, rfl, hab0, hb0, hN, hlim0, S0⟩
  case round =>
    clear S0
    obtain ⟨a, b, lim, wb, wp, dk, rfl, rfl, rfl, rfl, rfl, hab, hb, hNb, hlim, HS⟩ := hrel
    obtain ⟨L, hL⟩ : ∃ L, b - a = L := ⟨_, rfl⟩
    have eL : (b : Int) - (a : Int) = (L : Int) := by omega
    have wL := wrapN (k := L) (by omega)
    have HL := Lib.hid hL
    by_cases h12 : L ≤ 12
    · have HC := Lib.hid (insO_any g n cap a b pad dk wr HS.out.nq.nr HS.out.sz hab hb (by omega))
      have HE : Hid (insertionSort ltN dk a b = pdq ltN d a0 b0 lim0 true true) := by show _ = _; rw [← HS.out.eq, pdq_small (by omega)]
      clear hL
      go_wp2_with fail
      refine HC.out.mono ?_
      rintro e y ⟨rfl, hy⟩
      rw [HE.out] at hy
      have HY := Lib.hid (HS.out.nq.then hy)
      clear hy HC
      go_wp2_with fail
      exact bodyPost_ret (v := .tuple #[]) (results_none rfl _ _ _) rfl ⟨rfl, HY.out⟩
    by_cases h0 : lim = 0
    · subst h0
      have HC := Lib.hid (heapO_any g n cap a b pad dk wr HS.out.nq.nr HS.out.sz (by omega) hb hs)
      have HE : Hid (heapSort ltN dk a b = pdq ltN d a0 b0 lim0 true true) := by show _ = _; rw [← HS.out.eq, pdq_heap (by omega) rfl]
      clear hL
      go_wp2_with fail
      refine HC.out.mono ?_
      rintro e y ⟨rfl, hy⟩
      rw [HE.out] at hy
      have HY := Lib.hid (HS.out.nq.then hy)
      clear hy HC
      go_wp2_with fail
      exact bodyPost_ret (v := .tuple #[]) (results_none rfl _ _ _) rfl ⟨rfl, HY.out⟩
    obtain ⟨R, hR⟩ : ∃ R, rd ltN dk a b lim wb wp = R := ⟨_, rfl⟩
    have hf := rd_facts (limit := lim) (wb := wb) (wp := wp) swo_ltN partialInsertionSort_holds reverseRange_holds (show a < b by omega) (show b ≤ dk.size by have := HS.out.sz; omega) HS.out.bel
    have hll := rd_lim_le (lt := ltN) (d := dk) (a := a) (b := b) (limit := lim) (wb := wb) (wp := wp)
    rw [hR] at hf hll
    have HF := Lib.hid hf
    obtain ⟨_, _, ⟨hc1, hc2⟩, _, _, ⟨hp1, hp2⟩, _, _⟩ := hf
    have HR := Lib.hid hR
    have e0 : ((lim : Int) == 0) = false := by simp; omega
    have d12 : decide ((L : Int) ≤ 12) = false := by simp; omega
    have H12 : Hid (¬ b - a ≤ 12) := by show ¬ _; omega
    have H0 := Lib.hid h0
    clear h12 hL hR
    -- the ways of 'if !wasBalanced' meet
    obtain ⟨nwb, hnwb⟩ : ∃ x, (!wb) = x := ⟨_, rfl⟩
    obtain ⟨lm, hlm⟩ : ∃ x, R.lim = x := ⟨_, rfl⟩
    obtain ⟨d1, hd1⟩ : ∃ x, R.d1 = x := ⟨_, rfl⟩
    rw [hlm] at hll
    have HLM := Lib.hid hlm
    have HD1 := Lib.hid hd1
    clear hlm hd1
    go_upto_if 35 with fail
    go_cut [3] from 36 to 41 (fun s3 wx => s3 = .int .i64 (lm : Int) ∧ Hid (Nq w g pad d1 wx))
    case first =>
      cases nwb
      · have hw : wb = true := by simpa using hnwb
        have hq : R.d1 = dk ∧ R.lim = lim := by rw [← HR.out, hw]; exact rd_true
        have HQ := Lib.hid hq
        clear hw hnwb hq
        go_wp2_with fail
        go_meet
        exact ⟨by rw [← HLM.out, HQ.out.2], Lib.hid (by rw [← HD1.out, HQ.out.1]; exact HS.out.nq)⟩
      · have hw : wb = false := by simpa using hnwb
        have hq : R.d1 = breakPatterns dk a b ∧ R.lim = lim - 1 := by rw [← HR.out, hw]; exact rd_false
        have HQ := Lib.hid hq.1
        have elm : (lim : Int) - 1 = (lm : Int) := by have := hq.2; rw [HLM.out] at this; omega
        have wlm := wrapN (k := lm) (by omega)
        have HC := Lib.hid (breakO_any g n cap a b pad dk wr HS.out.nq.nr HS.out.sz (by have := H12.out; omega) hb hs)
        clear hq hw hnwb
        go_wp2_with fail
        refine HC.out.mono ?_
        rintro e y ⟨rfl, hy⟩
        have HY := Lib.hid (HS.out.nq.then hy)
        clear hy HC
        go_wp2_with fail
        go_meet
        exact ⟨rfl, Lib.hid (by rw [← HD1.out, HQ.out]; exact HY.out)⟩
    case rest =>
    obtain ⟨rfl, HN⟩ := hcut
    clear hnwb
    have HF1 : Hid (d1.size = n) := by have h1 := HF.out.1; rw [HD1.out] at h1; show _ = _; rw [h1, HS.out.sz]
    have hcp := pivO_any g n cap a b pad d1 wc HN.out.nr HF1.out (by have := H12.out; omega) hb hs
    have hrc : choosePivot ltN d1 a b = R.c := by rw [← HD1.out, ← HR.out]; rfl
    rw [hrc] at hcp
    obtain ⟨cv, hcv⟩ : ∃ x, R.c.1 = x := ⟨_, rfl⟩
    obtain ⟨ch, hch⟩ : ∃ x, hintCode R.c.2 = x := ⟨_, rfl⟩
    rw [hcv, hch] at hcp
    rw [hcv] at hc1 hc2
    have HCV := Lib.hid hcv
    have HCH := Lib.hid hch
    have HC := Lib.hid hcp
    clear hcp hrc hcv hch
    obtain ⟨dh, hdh⟩ : ∃ x, (ch == 2) = x := ⟨_, rfl⟩
    go_upto_region 10 with fail
    go_wp2_with fail
    refine HC.out.mono ?_
    rintro e y ⟨rfl, hy⟩
    have HN2 := Lib.hid (HN.out.then hy)
    clear hy HC HN
    obtain ⟨pv, hpv⟩ : ∃ x, R.pivot = x := ⟨_, rfl⟩
    obtain ⟨hh, hhh⟩ : ∃ x, hintCode R.hint = x := ⟨_, rfl⟩
    obtain ⟨d2, hd2⟩ : ∃ x, R.d2 = x := ⟨_, rfl⟩
    rw [hpv] at hp1 hp2
    have HPV := Lib.hid hpv
    have HHH := Lib.hid hhh
    have HD2 := Lib.hid hd2
    clear hpv hhh hd2
    go_upto_if 50 with fail
    go_cut [11, 12] from 51 to 60 (fun s11 s12 wx => s11 = .int .i64 (pv : Int) ∧ s12 = .int .i64 hh ∧ Hid (Nq w g pad d2 wx))
    case first =>
      cases dh
      · have hne : ch ≠ 2 := by simpa using hdh
        have hq := rd_not (lt := ltN) (d := dk) (a := a) (b := b) (limit := lim) (wb := wb) (wp := wp) (by rw [HR.out]; intro e; exact hne (by rw [← HCH.out, e]; rfl))
        rw [HR.out] at hq
        obtain ⟨q1, q2, q3⟩ := hq
        have HQ1 := Lib.hid q1
        have HQ2 := Lib.hid q2
        have HQ3 := Lib.hid q3
        clear q1 q2 q3 hdh
        go_wp2_with fail
        go_meet
        exact ⟨by rw [← HPV.out, HQ2.out, HCV.out], by rw [← HHH.out, HQ3.out, HCH.out], Lib.hid (by rw [← HD2.out, HQ1.out, HD1.out]; exact HN2.out)⟩
      · have heq : ch = 2 := by simpa using hdh
        have hq := rd_dec (lt := ltN) (d := dk) (a := a) (b := b) (limit := lim) (wb := wb) (wp := wp) (by rw [HR.out]; exact hint_two (by rw [HCH.out, heq]))
        rw [HR.out] at hq
        obtain ⟨q1, q2, q3⟩ := hq
        rw [HCV.out, HPV.out] at q2
        obtain ⟨b1, hb1⟩ : ∃ b1, b - 1 = b1 := ⟨_, rfl⟩
        obtain ⟨ca, hca⟩ : ∃ ca, cv - a = ca := ⟨_, rfl⟩
        have eb1 : (b : Int) - 1 = (b1 : Int) := by omega
        have eca : (cv : Int) - (a : Int) = (ca : Int) := by omega
        have epv : (b1 : Int) - (ca : Int) = (pv : Int) := by omega
        have wb1 := wrapN (k := b1) (by omega)
        have wca := wrapN (k := ca) (by omega)
        have wpv := wrapN (k := pv) (by omega)
        have HQ1 := Lib.hid q1
        have HQ3 : Hid (hh = 1) := by show _ = _; rw [← HHH.out, q3]; rfl
        have HC := Lib.hid (revO_any g n cap a b pad d1 y HN2.out.nr HF1.out (by omega) hb hs)
        subst heq
        clear q1 q2 q3 hdh hb1 hca
        go_wp2_with fail
        refine HC.out.mono ?_
        rintro e y3 ⟨rfl, hy⟩
        have HY := Lib.hid (HN2.out.then hy)
        clear hy HC
        go_wp2_with fail
        go_meet
        exact ⟨rfl, by rw [HQ3.out], Lib.hid (by rw [← HD2.out, HQ1.out, HD1.out]; exact HY.out)⟩
    case rest =>
    obtain ⟨rfl, rfl, HN3⟩ := hcut
    clear hdh HN2
    have HF2 : Hid (d2.size = n) := by have h1 := HF.out.2.2.2.1; rw [HD2.out] at h1; show _ = _; rw [h1, HS.out.sz]
    obtain ⟨di, hdi⟩ : ∃ x, (hh == 1) = x := ⟨_, rfl⟩
    have HDI : Hid (decide (R.hint = .increasing) = di) := by show _ = _; rw [← hint_one, HHH.out, hdi]
    obtain ⟨pq, hpq⟩ : ∃ x, (wb && wp && di) = x := ⟨_, rfl⟩
    have HPQ := Lib.hid hpq
    clear hpq
    go_upto_region 15 with fail
    go_cut [68] from 61 to 67 (fun s68 wx => s68 = .bool pq ∧ wx = wc)
    case first =>
      cases wb <;> cases wp <;> cases di <;> (go_wp2_with fail; go_meet; exact ⟨by rw [← HPQ.out]; rfl, rfl⟩)
    case rest =>
    obtain ⟨rfl, hwc⟩ := hcut
    subst hwc
    clear hdi
    obtain ⟨d3, hd3⟩ : ∃ x, R.pi.1 = x := ⟨_, rfl⟩
    have HD3 := Lib.hid hd3
    clear hd3
    go_upto_if 68 with fail
    go_cut [] from 69 to 72 (fun wx => R.pi.2 = false ∧ Hid (Nq w g pad d3 wx))
    case first =>
      cases pq
      · have hq := rd_pi_no (lt := ltN) (d := dk) (a := a) (b := b) (limit := lim) (wb := wb) (wp := wp) (by rw [HR.out, HDI.out]; exact HPQ.out)
        rw [HR.out] at hq
        have HQ := Lib.hid hq
        clear hq
        go_wp2_with fail
        go_meet
        exact ⟨by rw [HQ.out], Lib.hid (by rw [← HD3.out, HQ.out, HD2.out]; exact HN3.out)⟩
      · have hq := rd_pi_yes (lt := ltN) (d := dk) (a := a) (b := b) (limit := lim) (wb := wb) (wp := wp) (by rw [HR.out, HDI.out]; exact HPQ.out)
        rw [HR.out, HD2.out] at hq
        have hcp := pinsO_any g n cap a b pad d2 wc HN3.out.nr HF2.out (by omega) hb hs
        rw [← hq, HD3.out] at hcp
        obtain ⟨p2, hp2e⟩ : ∃ x, R.pi.2 = x := ⟨_, rfl⟩
        rw [hp2e] at hcp
        have HP2 := Lib.hid hp2e
        have HC := Lib.hid hcp
        clear hcp hq hp2e
        go_wp2_with fail
        refine HC.out.mono ?_
        rintro e y3 ⟨rfl, hy⟩
        have HY := Lib.hid (HN3.out.then hy)
        clear hy HC
        cases p2
        · go_wp2_with fail
          go_meet
          exact ⟨HP2.out, HY⟩
        · have hq := pdq_done (lt := ltN) (d := dk) (a := a) (b := b) (limit := lim) (wb := wb) (wp := wp) H12.out H0.out (by rw [HR.out]; exact HP2.out)
          rw [HR.out, HD3.out, HS.out.eq] at hq
          have HQ := Lib.hid hq
          clear hq
          go_wp2_with fail
          exact bodyPost_ret (v := .tuple #[]) (results_none rfl _ _ _) rfl ⟨rfl, by rw [HQ.out]; exact HY.out⟩
    case rest =>
    obtain ⟨hp2e, HN4⟩ := hcut
    have HP2 := Lib.hid hp2e
    clear hp2e HN3 HPQ HDI
    have HF3 : Hid (d3.size = n) := by have h1 := HF.out.2.2.2.2.2.2.1; rw [HD3.out] at h1; show _ = _; rw [h1, HS.out.sz]
    have HB3 : Hid (Sort.Below ltN a b d3) := by have h1 := HF.out.2.2.2.2.2.2.2; rw [HD3.out] at h1; exact h1
    obtain ⟨cm, hcm⟩ : ∃ x, (decide (a > 0) && !ltN d3[a - 1]! d3[pv]!) = x := ⟨_, rfl⟩
    have HCM := Lib.hid hcm
    clear hcm
    go_upto_region 17 with fail
    go_cut [87] from 73 to 86 (fun s87 wx => s87 = .bool cm ∧ Hid (Nq w g pad d3 wx))
    case first =>
      by_cases ha0 : a = 0
      · have d0 : decide ((0 : Int) < (a : Int)) = false := by simp; omega
        have d0n : decide (0 < a) = false := by simp; omega
        have hcm : cm = false := by rw [← HCM.out, ha0]; rfl
        refine wp_region_held_drew (S := fun wz => Nr wz g pad d3) (by kernel_rfl) HN4.out.nr.drew (fun hS => ?_)
        refine tk 0 hS ?_
        refine tk 1 hS ?_
        refine tk 2 hS ?_
        refine sk 3 hS ?_
        refine sk 4 hS ?_
        refine sk 5 hS ?_
        refine sk 6 hS ?_
        refine sk 7 hS ?_
        refine sk 8 hS ?_
        refine sk 9 hS ?_
        refine sk 10 hS ?_
        refine sk 11 hS ?_
        refine sk 12 hS ?_
        refine sk 13 hS ?_
        refine tk 14 hS ?_
        refine wpAnyH_done (by kernel_rfl) ?_ _
        clear hS
        go_wp2_with fail
        go_meet
        exact ⟨by rw [hcm], Lib.hid HN4.out.drew⟩
      · have d0 : decide ((0 : Int) < (a : Int)) = true := by simp; omega
        have d0n : decide (0 < a) = true := by simp; omega
        have HSK := HF3
        obtain ⟨a1, ha1⟩ : ∃ a1, a - 1 = a1 := ⟨_, rfl⟩
        have ea1 : (a : Int) - 1 = (a1 : Int) := by omega
        have wa1 := wrapN (k := a1) (by omega)
        have xa1 : a1 < a ∧ a ≤ a1 + 1 := by omega
        have HEa1 := Lib.hid ha1
        clear ha1
        obtain ⟨z1, z2⟩ := xa1
        obtain ⟨x, hx⟩ : ∃ x, d3[a1]! = x := ⟨_, rfl⟩
        have PA : Hid (∀ wz, Nr wz g pad d3 → wz.cell? ⟨g, a1, none⟩ = some (.int .u32 (x : Int))) := fun wz hz => by rw [← hx]; exact hz.cell (by rw [HSK.out]; omega)
        have HA := Lib.hid hx
        clear hx
        obtain ⟨y, hy⟩ : ∃ x, d3[pv]! = x := ⟨_, rfl⟩
        have PB : Hid (∀ wz, Nr wz g pad d3 → wz.cell? ⟨g, pv, none⟩ = some (.int .u32 (y : Int))) := fun wz hz => by rw [← hy]; exact hz.cell (by rw [HSK.out]; omega)
        have HB := Lib.hid hy
        clear hy
        have hbn : a1 < n ∧ pv < n := by omega
        obtain ⟨hbn1, hbn2⟩ := hbn
        obtain ⟨bl, hbl⟩ : ∃ bl, ltN x y = bl := ⟨_, rfl⟩
        have HBL := Lib.hid hbl
        obtain ⟨nb, hnb⟩ : ∃ nb, (!bl) = nb := ⟨_, rfl⟩
        have hcm : cm = nb := by rw [← HCM.out, HEa1.out, HA.out, HB.out, hbl, hnb]; simp; omega
        subst hcm
        clear hbl
        refine wp_region_held_drew (S := fun wz => Nr wz g pad d3) (by kernel_rfl) HN4.out.nr.drew (fun hS => ?_)
        refine tk 0 hS ?_
        refine tk 1 hS ?_
        refine tk 2 hS ?_
        refine tk 3 hS ?_
        refine tk 4 hS ?_
        refine tk 5 hS ?_
        refine tk 6 hS ?_
        refine tk 7 hS ?_ (hy := by intro wz hz; have qA := PA.out wz hz; have qB := PB.out wz hz; go_simp <;> with_reducible rfl)
        refine tk 8 hS ?_
        refine tk 9 hS ?_
        refine tk 10 hS ?_
        refine tk 11 hS ?_ (hy := by intro wz hz; have qA := PA.out wz hz; have qB := PB.out wz hz; go_simp <;> with_reducible rfl)
        refine wpAnyH_ready (rs := [12]) (by kernel_rfl) (by simp) ?_
        refine AllReadyH.cons rfl (fun K hK => ?_) AllReadyH.nil
        go_simp
        refine (less_any x y _).mono ?_
        rintro e y9 ⟨rfl, hy9⟩
        subst hy9
        have hb : True := trivial
        rw [HBL.out]
        refine hK.out _ _ (hS) (fun hT => ?_)
        clear hK hb hS
        have hS := hT
        clear hT
        refine tk 13 hS ?_
        refine tk 14 hS ?_
        refine wpAnyH_done (by kernel_rfl) ?_ _
        clear hS
        go_wp2_with fail
        go_meet
        exact ⟨rfl, Lib.hid HN4.out.drew⟩
    case rest =>
    obtain ⟨rfl, HN5⟩ := hcut
    clear HN4
    cases cm
    · -- two parts: the smaller one by a call of itself
      obtain ⟨pt, hpt⟩ : ∃ pt, partition ltN d3 a b pv = pt := ⟨_, rfl⟩
      obtain ⟨mid, ap, d4⟩ := pt
      have hrp := round_part swo_ltN (partition_holds _) hp1 hp2 (by have := HF3.out; omega) HB3.out hpt
      have hcp := partO_any g n cap a b pv pad d3 wc HN5.out.nr HF3.out hp1 hp2 hb hs
      rw [hpt] at hcp
      have HC := Lib.hid hcp
      have HRP := Lib.hid hrp
      obtain ⟨hm1, hm2, _, _, _, _, _⟩ := hrp
      have HPT := Lib.hid hpt
      obtain ⟨lf, hlf⟩ : ∃ lf, mid - a = lf := ⟨_, rfl⟩
      obtain ⟨rt, hrt⟩ : ∃ rt, b - mid = rt := ⟨_, rfl⟩
      obtain ⟨th, hth⟩ : ∃ th, L / 8 = th := ⟨_, rfl⟩
      obtain ⟨m1, hm1e⟩ : ∃ m1, mid + 1 = m1 := ⟨_, rfl⟩
      have elf : (mid : Int) - (a : Int) = (lf : Int) := by omega
      have ert : (b : Int) - (mid : Int) = (rt : Int) := by omega
      have eth : (L : Int) / 8 = (th : Int) := by omega
      have eth' : (L : Int).tdiv 8 = (th : Int) := by rw [Int.tdiv_eq_ediv_of_nonneg (by omega)]; exact eth
      have em1 : (mid : Int) + 1 = (m1 : Int) := by omega
      have wlf := wrapN (k := lf) (by omega)
      have wrt := wrapN (k := rt) (by omega)
      have wth := wrapN (k := th) (by omega)
      have wm1 := wrapN (k := m1) (by omega)
      have hmb : mid < m1 ∧ m1 ≤ mid + 1 ∧ m1 ≤ b ∧ mid - a < N ∧ b - m1 < N ∧ a < m1 := by omega
      obtain ⟨mb1, mb2, mb3, mb4, mb5, mb6⟩ := hmb
      have HM1 := Lib.hid hm1e
      have HSZ4 : Hid (d4.size = n) := by show _ = _; rw [HRP.out.2.2.1, HF3.out]
      have HHP : Hid ((rd ltN dk a b lim wb wp).pi.2 = false) := by show _ = _; rw [HR.out]; exact HP2.out
      have H2 : Hid ((decide (a > 0) && !ltN (rd ltN dk a b lim wb wp).pi.1[a - 1]! (rd ltN dk a b lim wb wp).pi.1[(rd ltN dk a b lim wb wp).pivot]!) = false) := by show _ = _; rw [HR.out, HD3.out, HPV.out]; exact HCM.out
      have HPR : Hid (partition ltN (rd ltN dk a b lim wb wp).pi.1 a b (rd ltN dk a b lim wb wp).pivot = (mid, ap, d4)) := by show _ = _; rw [HR.out, HD3.out, HPV.out]; exact HPT.out
      obtain ⟨nbl, hnbl⟩ : ∃ x, decide ((th : Int) ≤ (lf : Int)) = x := ⟨_, rfl⟩
      obtain ⟨nbr, hnbr⟩ : ∃ x, decide ((th : Int) ≤ (rt : Int)) = x := ⟨_, rfl⟩
      have HNL : Hid (decide (mid - a ≥ (b - a) / 8) = nbl) := by show _ = _; rw [hlf, HL.out, hth, ← hnbl]; exact decide_eq_decide.2 (by omega)
      have HNR : Hid (decide (b - mid ≥ (b - a) / 8) = nbr) := by show _ = _; rw [hrt, HL.out, hth, ← hnbr]; exact decide_eq_decide.2 (by omega)
      have hlr : lf < rt ↔ mid - a < b - mid := by omega
      have HLR := Lib.hid hlr
      clear hcp hpt hlf hrt hth hm1e hlr
      go_wp2_with fail
      refine HC.out.mono ?_
      rintro e y ⟨rfl, hy⟩
      have HY := Lib.hid (HN5.out.then hy)
      clear hy HC HN5
      by_cases hlt : lf < rt
      · have HC := Lib.hid (HIH.out a mid lm d4 y mb4 HY.out.nr HSZ4.out hm1 (by omega) (by omega) HRP.out.2.2.2.1)
        have hpo := pdq_ok d4 a mid lm true true hm1 (by have := HSZ4.out; omega) HRP.out.2.2.2.1
        have HPO := Lib.hid hpo
        have hq := pdq_left (lt := ltN) (d := dk) (a := a) (b := b) (limit := lim) (wb := wb) (wp := wp) H12.out H0.out HHP.out H2.out (by rw [HPR.out]; exact ⟨hm1, hm2⟩) (by rw [HPR.out]; exact HLR.out.1 hlt)
        rw [HPR.out, HR.out, HLM.out, HS.out.eq, HNL.out, HM1.out] at hq
        have HQ := Lib.hid hq
        clear hpo hq
        go_wp2_with fail
        refine HC.out.mono ?_
        rintro e y2 ⟨rfl, hy⟩
        have HY2 := Lib.hid (HY.out.then hy)
        clear hy HC
        go_wp2_with fail
        have hB := (HRP.out.2.2.2.2.2.1 _ HPO.out.1 HPO.out.2).1
        rw [HM1.out] at hB
        exact ⟨⟨m1, b, lm, nbl, ap, _, by go_num, rfl, rfl, by first | rfl | exact congrArg Value.bool (by rw [← hnbl]; exact decide_eq_decide.2 (by omega)), rfl, mb3, hb, by omega, by omega, ⟨by rw [HPO.out.1.1]; exact HSZ4.out, HY2.out, hB, HQ.out.symm⟩⟩, by simp [intOf]; omega⟩
      · have HC := Lib.hid (HIH.out m1 b lm d4 y mb5 HY.out.nr HSZ4.out mb3 hb (by omega) (by have := HRP.out.2.2.2.2.1; rw [HM1.out] at this; exact this))
        have hpo := pdq_ok d4 m1 b lm true true mb3 (by have := HSZ4.out; omega) (by have := HRP.out.2.2.2.2.1; rw [HM1.out] at this; exact this)
        have HPO := Lib.hid hpo
        have hq := pdq_right (lt := ltN) (d := dk) (a := a) (b := b) (limit := lim) (wb := wb) (wp := wp) H12.out H0.out HHP.out H2.out (by rw [HPR.out]; exact ⟨hm1, hm2⟩) (by rw [HPR.out]; exact fun h => hlt (HLR.out.2 h))
        rw [HPR.out, HR.out, HLM.out, HS.out.eq, HNR.out, HM1.out] at hq
        have HQ := Lib.hid hq
        clear hpo hq
        go_wp2_with fail
        refine HC.out.mono ?_
        rintro e y2 ⟨rfl, hy⟩
        have HY2 := Lib.hid (HY.out.then hy)
        clear hy HC
        go_wp2_with fail
        have hrp7 := HRP.out.2.2.2.2.2.2
        rw [HM1.out] at hrp7
        have hB := (hrp7 _ HPO.out.1 HPO.out.2).1
        exact ⟨⟨a, mid, lm, nbr, ap, _, rfl, rfl, rfl, by first | rfl | exact congrArg Value.bool (by rw [← hnbr]; exact decide_eq_decide.2 (by omega)), rfl, hm1, by omega, by omega, by omega, ⟨by rw [HPO.out.1.1]; exact HSZ4.out, HY2.out, hB, HQ.out.symm⟩⟩, by simp [intOf]; omega⟩
    · -- the equal ones ahead
      have hcm := HCM.out
      simp only [Bool.and_eq_true, decide_eq_true_eq, Bool.not_eq_true'] at hcm
      obtain ⟨pt, hpt⟩ : ∃ pt, partitionEqual ltN d3 a b pv = pt := ⟨_, rfl⟩
      obtain ⟨mid, d4⟩ := pt
      have hre := round_eq swo_ltN (partitionEqual_holds _) hcm.1 hp1 hp2 (by have := HF3.out; omega) HB3.out hcm.2 hpt
      have hcp := peqO_any g n cap a b pv pad d3 wc HN5.out.nr HF3.out hp1 hp2 hb hs
      rw [hpt] at hcp
      have HC := Lib.hid hcp
      have HRE := Lib.hid hre
      obtain ⟨hm1, hm2, _, _, _⟩ := hre
      have HPT := Lib.hid hpt
      have hq := pdq_eq (lt := ltN) (d := dk) (a := a) (b := b) (limit := lim) (wb := wb) (wp := wp) H12.out H0.out (by rw [HR.out]; exact HP2.out) (by rw [HR.out, HD3.out, HPV.out]; exact HCM.out) (by rw [HR.out, HD3.out, HPV.out, HPT.out]; exact ⟨hm1, hm2⟩)
      rw [HR.out, HD3.out, HPV.out, HPT.out, HLM.out, HS.out.eq] at hq
      have HQ := Lib.hid hq
      clear hcp hpt hcm hq
      go_wp2_with fail
      refine HC.out.mono ?_
      rintro e y ⟨rfl, hy⟩
      have HY := Lib.hid (HN5.out.then hy)
      clear hy HC HN5
      go_wp2_with fail
      exact ⟨⟨mid, b, lm, wb, wp, d4, rfl, rfl, rfl, rfl, rfl, hm2, hb, by omega, by omega, ⟨by rw [HRE.out.2.2.1]; exact HF3.out, HY.out, HRE.out.2.2.2.1, HQ.out.symm⟩⟩, by simp [intOf]; omega⟩

theorem pdqO_any (g n cap : Nat) (pad : List Value) (hs : n < 1152921504606846976) (N : Nat) : PdqC g n cap pad N := by
  induction N with
  | zero => intro a b lim d w hN; omega
  | succ N IH => exact pdqO_step g n cap pad hs N IH
end Go.Proofs.Ytjbohnnknfcjeaa
