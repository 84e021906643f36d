/-
  CycleFinds walked.
  Conditions: numbers below 2^64.
-/
import Derived.Test.YtnkphpjnhjbokaaSY
import Derived.Test.YtnkphpjnhjbokaaCK
namespace Go.Proofs.Ytnkphpjnhjbokaa
open Go.RowKit Go.Shelf
attribute [local go_sem] Oper.semAt_some
set_option maxRecDepth 20000

set_option maxHeartbeats 6400000 in
theorem finds_law (A : Option Addr) (n c : Nat) (l : List Ar) (x : Nat) (w : World) (h : Lz (fun _ => False) w 2 A n (arL l)) (hU : ∀ a ∈ l, U64 a.1 ∧ U64 a.2) (hx : U64 x) :
    Calls Try.prog 3 #[.slice A n c, .int .u64 (x : Int)] w (RetB w (.bool true)) := by
  have hlen := h.arlen
  have HL := Lib.hid h
  have HU := Lib.hid hU
  have HX := Lib.hid hx
  have HLN := Lib.hid hlen
  clear h hU hx hlen
  by_cases h40 : 40 < n
  · have hd : decide ((40 : Int) < (n : Int)) = true := decide_eq_true (by omega)
    have HW := Lib.hid (works_any w)
    go_enter Try.func3, Try.ntmps3
    go_wp2_with fail
    refine HW.out.mono ?_
    rintro e z ⟨rfl, hb⟩
    have HB := Lib.hid hb
    clear hb HW
    go_wp2_with fail
    go_ret
    exact ⟨rfl, HB.out⟩
  · have hd : decide ((40 : Int) < (n : Int)) = false := decide_eq_false (by omega)
    have h40' : n ≤ 40 := by omega
    go_enter Try.func3, Try.ntmps3
    go_wp2_with fail
    refine (own_any A n c l w HL.out (by omega)).mono ?_
    rintro e z ⟨B, cB, rfl, hr⟩
    have HR := Lib.hid hr
    have HB1 := Lib.hid hr.below
    clear hr
    go_wp2_with fail
    refine (Find_any B n cB l x z (HR.out.lz HLN.out) (by omega) HU.out HX.out).mono ?_
    rintro e z2 ⟨p, m, P, cP, rfl, hm, hr, hf, _⟩
    have hm40 : m ≤ 40 := by have h1 := hf.len; have h2 := isD_le (farU_isD l x x); have h3 := HLN.out; omega
    have hfm : farU l x x = m := by rw [← hf.len]; exact hm
    have HF := Lib.hid hf
    have HM := Lib.hid hm
    have HP := Lib.hid hr
    have HB2 := Lib.hid (HB1.out.trans (hr.below.mono HB1.out.size))
    have HFM := Lib.hid hfm
    clear hr hf hm hfm HR
    go_wp2_with fail
    refine (Far_is A n c l x x m HFM.out z2 (HL.out.below HB2.out) (by omega)).mono ?_
    rintro e z3 ⟨rfl, hb3⟩
    have HB3 := Lib.hid (HB2.out.trans (hb3.mono HB2.out.size))
    have HP3 := Lib.hid (HP.out.under hb3)
    clear hb3
    have hmm : ((m : Int) != (m : Int)) = false := by simp
    go_wp2_with fail
    refine (own_any A n c l z3 (HL.out.below HB3.out) (by omega)).mono ?_
    rintro e z4 ⟨B4, c4, rfl, hr⟩
    have HR4 := Lib.hid hr
    have HB4 := Lib.hid (HB3.out.trans (hr.below.mono HB3.out.size))
    have HP4 := Lib.hid (HP3.out.under hr.below)
    clear hr
    go_wp2_with fail
    have hs := Stuck_any B4 n c4 l x z4 (HR4.out.lz HLN.out) (by omega) (fun a ha => (HU.out a ha).2) HX.out
    rw [HFM.out] at hs
    obtain ⟨sb, hsb⟩ : ∃ sb, decide (0 < m) = sb := ⟨_, rfl⟩
    have hsbI : decide ((0 : Int) < (m : Int)) = sb := by rw [← hsb]; exact decide_eq_decide.2 (by omega)
    have hss : (sb != sb) = false := by simp
    rw [hsb] at hs
    refine hs.mono ?_
    rintro e z5 ⟨rfl, hb5⟩
    have HB5 := Lib.hid (HB4.out.trans (hb5.mono HB4.out.size))
    have HP5 := Lib.hid (HP4.out.under hb5)
    have HSB := Lib.hid hsb
    clear hb5 hs
    go_wp2_with fail
    clear hsbI hss hmm hsb
    go_loopw [7] (fun vi wr => ∃ i : Nat, i ≤ m ∧ vi = .int .i64 (i : Int) ∧ Hid (Below z5.heap.size z5 wr)) (fun i _ => m - (intOf i).toNat)
    case atStart => exact ⟨0, Nat.zero_le _, rfl, Lib.hid (Below.refl _ z5)⟩
    case round =>
      obtain ⟨i, hi, rfl, HBW⟩ := hrel
      by_cases hlt : i < m
      · have hlz := HP5.out.lz HM.out
        obtain ⟨pb, po, hpl, rfl, hpb, hpc⟩ := hlz.uc hlt
        have hmod : (i + 1) % m < m := Nat.mod_lt _ (by omega)
        obtain ⟨pb', po', hpl', e', hpb', hpc'⟩ := hlz.uc hmod
        injection e' with e'
        injection e' with e1 e2
        subst e1 e2
        obtain ⟨v, hv⟩ : ∃ v, p[i] = v := ⟨_, rfl⟩
        obtain ⟨u, hu⟩ : ∃ u, p[(i + 1) % m] = u := ⟨_, rfl⟩
        rw [hv] at hpc
        rw [hu] at hpc'
        have harc : (v, u) ∈ l := by
          have h1 := HF.out.arc i hpl
          have h2 : p[(i + 1) % p.length]'(Nat.mod_lt _ (by omega)) = u := by
            have h3 := HM.out
            simp only [h3]
            exact hu
          rw [h2, hv] at h1
          exact h1
        obtain ⟨j, hj⟩ : ∃ j, (i + 1) % m = j := ⟨_, rfl⟩
        rw [hj] at hpc' hmod
        obtain ⟨i1, hi1⟩ : ∃ i1, i + 1 = i1 := ⟨_, rfl⟩
        have HC1 : Hid (∀ wz, Below wr.heap.size wr wz → wz.cell? ⟨pb, po + i, none⟩ = some (.int .u64 (v : Int))) := fun wz hz => (hz.cell (p := ⟨pb, po + i, none⟩) (Nat.lt_of_lt_of_le hpb HBW.out.size)).trans ((HBW.out.cell (p := ⟨pb, po + i, none⟩) hpb).trans hpc)
        have HC2 : Hid (∀ wz, Below wr.heap.size wr wz → wz.cell? ⟨pb, po + j, none⟩ = some (.int .u64 (u : Int))) := fun wz hz => (hz.cell (p := ⟨pb, po + j, none⟩) (Nat.lt_of_lt_of_le hpb HBW.out.size)).trans ((HBW.out.cell (p := ⟨pb, po + j, none⟩) hpb).trans hpc')
        have HHA : Hid (∀ wz, Below wr.heap.size wr wz → Calls Try.prog 13 #[.slice A n c, .int .u64 (v : Int), .int .u64 (u : Int)] wz (RetB wz (.bool true))) := fun wz hz => by
          have h1 := Has_any A n c l v u wz ((HL.out.below (HB5.out.trans (HBW.out.mono HB5.out.size))).below hz) (by omega)
          rw [decide_eq_true harc] at h1
          exact h1
        have hw1 : IntKind.i64.wrap ((i : Int) + 1) = (i1 : Int) := by rw [IntKind.wrap_i64]; omega
        have htm : Int.tmod (i1 : Int) (m : Int) = (j : Int) := by rw [← hi1, ← hj]; exact (Int.ofNat_tmod (i + 1) m).symm
        have hm0 : (m = 0) = False := by simp; omega
        have hb1 : (i : Int) < (m : Int) := by omega
        have hb2 : (j : Int) < (m : Int) := by omega
        have HPC := Lib.hid hpc
        have HV : Hid (∃ h : i < p.length, p[i] = v) := ⟨hpl, hv⟩
        clear hpc hpc' hv hu harc hj hi1
        go_upto_region 10 with fail
        refine wp_region_held_drew (S := Below wr.heap.size wr) (by kernel_rfl) ((Below.refl _ wr).drew) (fun hS => ?_)
        refine tk 0 hS ?_
        refine tk 1 hS ?_
        refine tk 2 hS ?_
        refine tk 3 hS ?_
        refine tk 4 hS ?_ (hy := by intro wz hz; have q1 := HC1.out wz hz; have q2 := HC2.out wz hz; go_simp <;> with_reducible rfl)
        refine tk 5 hS ?_
        refine tk 6 hS ?_
        refine tk 7 hS ?_
        refine tk 8 hS ?_
        refine tk 9 hS ?_
        refine tk 10 hS ?_
        refine tk 11 hS ?_
        refine tk 12 hS ?_ (hy := by intro wz hz; have q1 := HC1.out wz hz; have q2 := HC2.out wz hz; go_simp <;> with_reducible rfl)
        refine wpAnyH_ready (rs := [13]) (by kernel_rfl) (by simp) ?_
        refine AllReadyH.cons rfl (fun K hK => ?_) AllReadyH.nil
        go_simp
        refine (HHA.out _ hS).mono ?_
        rintro e y9 ⟨rfl, hb9⟩
        have hb : True := trivial
        have B9 := Lib.hid (hS.trans (hb9.mono hS.size))
        clear hb9
        refine hK.out _ _ (B9.out) (fun hT => ?_)
        clear hK hb hS
        have hS := hT
        clear hT
        refine tk 14 hS ?_
        refine wpAnyH_done (by kernel_rfl) ?_ _
        clear hS
        have HBW2 := Lib.hid (HBW.out.trans (B9.out.mono HBW.out.size))
        clear HHA HC1 HC2 hw1 htm hm0 hb2
        go_wp2_with fail
        have HI := Lib.hid hi
        have hpcI : Hid (∀ wz, Below z5.heap.size z5 wz → wz.cell? ⟨pb, po + i, none⟩ = some (.int .u64 (v : Int))) := fun wz hz => (hz.cell (p := ⟨pb, po + i, none⟩) hpb).trans HPC.out
        go_loopw [8] (fun vk wr => ∃ k : Nat, k ≤ i ∧ vk = .int .i64 (k : Int) ∧ Hid (Below z5.heap.size z5 wr)) (fun vk _ => i - (intOf vk).toNat)
        case atStart => exact ⟨0, Nat.zero_le _, rfl, HBW2⟩
        case round =>
          obtain ⟨k, hk, rfl, HBK⟩ := hrel
          by_cases hki : k < i
          · obtain ⟨pb2, po2, hpl2, e2, hpb2, hpc2⟩ := (HP5.out.lz HM.out).uc (k := k) (by omega)
            injection e2 with e2
            injection e2 with e3 e4
            subst e3 e4
            obtain ⟨t, ht⟩ : ∃ t, p[k] = t := ⟨_, rfl⟩
            rw [ht] at hpc2
            have hne : t ≠ v := by
              obtain ⟨h1, h2⟩ := HV.out
              rw [← ht, ← h2]
              exact HF.out.nd i k h1 hki
            have e5 : ((t : Int) == (v : Int)) = false := by rw [nat_beq]; simpa using hne
            have HC1 : Hid (∀ wz, Below wr.heap.size wr wz → wz.cell? ⟨pb, po + k, none⟩ = some (.int .u64 (t : Int))) := fun wz hz => (hz.cell (p := ⟨pb, po + k, none⟩) (Nat.lt_of_lt_of_le hpb HBK.out.size)).trans ((HBK.out.cell (p := ⟨pb, po + k, none⟩) hpb).trans hpc2)
            have HC2 : Hid (∀ wz, Below wr.heap.size wr wz → wz.cell? ⟨pb, po + i, none⟩ = some (.int .u64 (v : Int))) := fun wz hz => (hz.cell (p := ⟨pb, po + i, none⟩) (Nat.lt_of_lt_of_le hpb HBK.out.size)).trans (hpcI.out wr HBK.out)
            have hb3 : (k : Int) < (m : Int) := by omega
            clear hpc2 ht hne
            go_upto_region 15 with fail
            refine wp_region_held_drew (S := Below wr.heap.size wr) (by kernel_rfl) ((Below.refl _ wr).drew) (fun hS => ?_)
            refine tk 0 hS ?_
            refine tk 1 hS ?_
            refine tk 2 hS ?_
            refine tk 3 hS ?_ (hy := by intro wz hz; have q1 := HC1.out wz hz; have q2 := HC2.out wz hz; go_simp <;> with_reducible rfl)
            refine tk 4 hS ?_
            refine tk 5 hS ?_
            refine tk 6 hS ?_
            refine tk 7 hS ?_ (hy := by intro wz hz; have q1 := HC1.out wz hz; have q2 := HC2.out wz hz; go_simp <;> with_reducible rfl)
            refine tk 8 hS ?_
            refine wpAnyH_done (by kernel_rfl) ?_ _
            clear hS
            go_wp2_with fail
            exact ⟨⟨k + 1, by omega, by go_num, HBK.out.drew⟩, by simp [intOf]; omega⟩
          · obtain rfl : k = i := by omega
            go_wp2_with fail
            exact ⟨⟨k + 1, by omega, by go_num, HBK⟩, by simp [intOf]; omega⟩
      · obtain rfl : i = m := by omega
        have HB6 := Lib.hid (HB5.out.trans (HBW.out.mono HB5.out.size))
        by_cases hm0 : i = 0
        · subst hm0
          go_wp2_with fail
          refine (works_any wr).mono ?_
          rintro e z7 ⟨rfl, hb7⟩
          have HB7 := Lib.hid (HB6.out.trans (hb7.mono HB6.out.size))
          clear hb7
          go_wp2_with fail
          go_ret
          exact ⟨rfl, HB7.out⟩
        · obtain ⟨pb, po, hpl, rfl, hpb, hpc⟩ := (HP5.out.lz HM.out).uc (k := 0) (by omega)
          have h00 : p[0] = x := HF.out.hd hpl
          rw [h00] at hpc
          have q0 : wr.cell? ⟨pb, po, none⟩ = some (.int .u64 (x : Int)) := (HBW.out.cell (p := ⟨pb, po, none⟩) hpb).trans hpc
          have e1 : ((i : Int) == 0) = false := by simp; omega
          have hi0 : (0 : Int) < (i : Int) := by omega
          clear hpc h00
          go_wp2_with fail
          refine (works_any wr).mono ?_
          rintro e z7 ⟨rfl, hb7⟩
          have HB7 := Lib.hid (HB6.out.trans (hb7.mono HB6.out.size))
          clear hb7
          go_wp2_with fail
          go_ret
          exact ⟨rfl, HB7.out⟩
end Go.Proofs.Ytnkphpjnhjbokaa
