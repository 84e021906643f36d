/-
  CycleBreaks walked.
  Conditions: numbers below 2^64.
-/
import Derived.Test.YtnkphpjnhjbokaaTN
import Derived.Laws.BitsAllLaws
namespace Go.Proofs.Ytnkphpjnhjbokaa
open Go.RowKit Go.Shelf
attribute [local go_sem] Oper.semAt_some
set_option maxRecDepth 20000

/-- The stamp of a number. -/
def stN (salt x : Nat) : Nat := (x * x % 18446744073709551616) ^^^ salt
theorem mulN (x : Nat) : IntKind.u64.wrap ((x : Int) * (x : Int)) = ((x * x % 18446744073709551616 : Nat) : Int) := by
  rw [IntKind.wrap_u64, Int.natCast_emod, Int.natCast_mul]
  rfl
theorem stamp_any (x bS salt : Nat) (hs : salt < 18446744073709551616) (w : World) (h : w.cell? ⟨bS, 0, none⟩ = some (.int .u64 (salt : Int))) : Calls Try.prog 18 #[.int .u64 (x : Int), .pointer (some ⟨bS, 0, none⟩)] w (RetB w (.int .u64 (stN salt x : Int))) := by
  obtain ⟨y, hy⟩ : ∃ y, x * x % 18446744073709551616 = y := ⟨_, rfl⟩
  have h1 := mulN x
  rw [hy] at h1
  have h2 : bits .xor .u64 (y : Int) (salt : Int) = (stN salt x : Int) := by
    rw [u64_xor_nat y salt (by omega) hs]
    unfold stN
    rw [hy]
  clear hy
  go_enter Try.func18, Try.ntmps18
  go_wp2_with fail
  go_ret
  exact ⟨by first | rfl | (simp only [h1, h2]), Below.refl _ _⟩
theorem ent_stamp : ∀ args w, (callFunc 18 args).run Try.prog w = .ok (.enter 18 args) w := enters_of Try.func18 (by kernel_rfl) rfl
/-- The arcs that neither begin nor end at a number. -/
def rstL (l : List Ar) (y : Nat) : List Ar := l.filter fun a => a.1 != y && a.2 != y
theorem rstL_next {l : List Ar} {k : Nat} (hk : k < l.length) (y : Nat) : rstL (l.take (k + 1)) y = rstL (l.take k) y ++ (if (l[k].1 != y && l[k].2 != y) = true then [l[k]] else []) := by
  unfold rstL
  rw [List.take_add_one, List.getElem?_eq_getElem hk, List.filter_append]
  congr 1
  show List.filter _ [l[k]] = _
  rw [List.filter_cons, List.filter_nil]
theorem rstL_len (l : List Ar) (y : Nat) : (rstL l y).length ≤ l.length := List.length_filter_le _ _
theorem rstL_ne {l : List Ar} {y : Nat} : ∀ a ∈ rstL l y, a.1 ≠ y ∧ a.2 ≠ y := fun a ha => by
  have h := (List.mem_filter.1 ha).2
  simpa using h
theorem rstL_sub {l : List Ar} {y : Nat} : ∀ a ∈ rstL l y, a ∈ l := fun _ ha => (List.mem_filter.1 ha).1
set_option maxHeartbeats 9600000 in
theorem breaks_law (A : Option Addr) (n c : Nat) (l : List Ar) (x salt : Nat) (w : World) (h : Lz (fun _ => False) w 2 A n (arL l)) (hU : ∀ a ∈ l, U64 a.1 ∧ U64 a.2) (hx : U64 x) (hsalt : U64 salt) :
    Calls Try.prog 5 #[.slice A n c, .int .u64 (x : Int), .int .u64 (salt : Int)] w (RetB w (.bool true)) := by
  have hlen := h.arlen
  have HL := Lib.hid h
  have HU := Lib.hid hU
  have HX := Lib.hid hx
  have HLN := Lib.hid hlen
  have HSALT := Lib.hid hsalt
  have hmf : ∀ (fn : Fn) (first cap : Array Value) (w : World), (Instr.makeFunc fn first cap).run Try.prog w = .ok (.func fn first cap) w := fun _ _ _ _ => rfl
  have HBX : Hid (Below w.heap.size w (w.alloc (.cells #[.int .u64 (salt : Int)] 23))) := (Below.refl _ w).alloc (Nat.le_refl _) _
  have HAX := Lib.hid (At.new w 23 #[.int .u64 (salt : Int)])
  clear h hU hx hlen hsalt
  by_cases h40 : 40 < n
  · have hd : decide ((40 : Int) < (n : Int)) = true := decide_eq_true (by omega)
    go_enter Try.func5, Try.ntmps5
    go_wp2_with fail
    generalize w.alloc (.cells #[.int .u64 (salt : Int)] 23) = w0 at HBX HAX ⊢
    refine (works_any w0).mono ?_
    rintro e z ⟨rfl, hb⟩
    have HB := Lib.hid (HBX.out.trans (hb.mono HBX.out.size))
    clear hb
    go_wp2_with fail
    go_ret
    exact ⟨rfl, HB.out⟩
  · have hd : decide ((40 : Int) < (n : Int)) = false := decide_eq_false (by omega)
    have h40' : n ≤ 40 := by omega
    go_enter Try.func5, Try.ntmps5
    go_wp2_with fail
    generalize w.alloc (.cells #[.int .u64 (salt : Int)] 23) = w0 at HBX HAX ⊢
    generalize w.heap.size = bS at HAX ⊢
    refine (own_any A n c l w0 (HL.out.below HBX.out) (by omega)).mono ?_
    rintro e z ⟨B, cB, rfl, hr⟩
    have HR := Lib.hid hr
    have HB1 := Lib.hid (HBX.out.trans (hr.below.mono HBX.out.size))
    have HA1 : Hid (At z bS 23 #[.int .u64 (salt : Int)]) := HAX.out.under hr.below HAX.out.lt
    clear hr
    go_wp2_with fail
    refine (Find_any B n cB l x z (HR.out.lz HLN.out) (by omega) HU.out HX.out).mono ?_
    rintro e z2 ⟨p, m, P, cP, rfl, hm, hr, hf, _⟩
    have hm40 : m ≤ 40 := by have h1 := hf.len; have h2 := isD_le (farU_isD l x x); have h3 := HLN.out; omega
    have HM := Lib.hid hm
    have HP := Lib.hid hr
    have HB2 := Lib.hid (HB1.out.trans (hr.below.mono HB1.out.size))
    have HA2 : Hid (At z2 bS 23 #[.int .u64 (salt : Int)]) := HA1.out.under hr.below HA1.out.lt
    have HST : Hid (StampF 18 #[.pointer (some ⟨bS, 0, none⟩)] (stN salt) z2) := fun W v hW => stamp_any v bS salt HSALT.out W ((HA2.out.under hW HA2.out.lt).cell 0)
    clear hr hm hf HR
    go_wp2_with fail
    refine (Youngest_any 18 #[.pointer (some ⟨bS, 0, none⟩)] (stN salt) ent_stamp P m cP p z2 HST.out (HP.out.lz HM.out) (by omega)).mono ?_
    rintro e z3 ⟨bi, mx, rfl, hy, hb3⟩
    have HB3 := Lib.hid (HB2.out.trans (hb3.mono HB2.out.size))
    have HP3 := Lib.hid (HP.out.under hb3)
    have HST3 : Hid (StampF 18 #[.pointer (some ⟨bS, 0, none⟩)] (stN salt) z3) := fun W v hW => HST.out W v (hb3.trans (hW.mono hb3.size))
    clear hb3
    by_cases hm0 : m = 0
    · subst hm0
      have hbi : bi = -1 := by
        rcases hy with ⟨_, h1, _⟩ | ⟨b, _, h1⟩
        · exact h1
        · exact absurd h1.lt (Nat.not_lt_zero _)
      subst hbi
      clear hy
      go_wp2_with fail
      refine (works_any z3).mono ?_
      rintro e z7 ⟨rfl, hb7⟩
      have HB7 := Lib.hid (HB3.out.trans (hb7.mono HB3.out.size))
      clear hb7
      go_wp2_with fail
      go_ret
      exact ⟨rfl, HB7.out⟩
    · obtain ⟨b, rfl, hyo⟩ : ∃ b : Nat, bi = (b : Int) ∧ YoR (stN salt) p m b mx := by
        rcases hy with ⟨h1, _⟩ | ⟨b, h1, h2⟩
        · exact absurd h1 hm0
        · exact ⟨b, h1, h2⟩
      have hbm : b < m := hyo.lt
      have e0 : ((m : Int) == 0) = false := by simp; omega
      have d1 : decide ((b : Int) < 0) = false := decide_eq_false (by omega)
      have d2 : decide ((m : Int) ≤ (b : Int)) = false := decide_eq_false (by omega)
      have d2n : decide (m ≤ b) = false := decide_eq_false (by omega)
      have HYO := Lib.hid hyo
      clear hy hyo
      go_wp2_with fail
      clear e0 d1 d2 d2n
      have hlz := HP3.out.lz HM.out
      obtain ⟨pb, po, hpl, rfl, hpb, hpc⟩ := hlz.uc hbm
      obtain ⟨v, hv⟩ : ∃ v, p[b] = v := ⟨_, rfl⟩
      rw [hv] at hpc
      have HV : Hid (∃ h : b < p.length, p[b] = v) := ⟨hpl, hv⟩
      have HPC := Lib.hid hpc
      have HPB := Lib.hid hpb
      have HPCz : Hid (∀ wr wz, Below z3.heap.size z3 wr → Below wr.heap.size wr wz → wz.cell? ⟨pb, po + b, none⟩ = some (.int .u64 (v : Int))) := fun wr wz h1 h2 =>
        (h2.cell (p := ⟨pb, po + b, none⟩) (Nat.lt_of_lt_of_le HPB.out h1.size)).trans ((h1.cell (p := ⟨pb, po + b, none⟩) HPB.out).trans HPC.out)
      clear hlz hpc hv hpl hpb
      go_loopw [10] (fun vi wr => ∃ i : Nat, i ≤ m ∧ vi = .int .i64 (i : Int) ∧ Hid (Below z3.heap.size z3 wr)) (fun i _ => m - (intOf i).toNat)
      case atStart => exact ⟨0, Nat.zero_le _, rfl, Lib.hid (Below.refl _ z3)⟩
      case round =>
        obtain ⟨i, hi, rfl, HBW⟩ := hrel
        by_cases hlt : i < m
        · obtain ⟨pb2, po2, hpl2, e2, hpb2, hpc2⟩ := (HP3.out.lz HM.out).uc hlt
          injection e2 with e2
          injection e2 with e3 e4
          subst e3 e4
          obtain ⟨u, hu⟩ : ∃ u, p[i] = u := ⟨_, rfl⟩
          rw [hu] at hpc2
          obtain ⟨su, hsu⟩ : ∃ su, stN salt u = su := ⟨_, rfl⟩
          obtain ⟨sv, hsv⟩ : ∃ sv, stN salt v = sv := ⟨_, rfl⟩
          have hmax := HYO.out.max i hpl2 hlt
          have hval : stN salt v = mx := by
            obtain ⟨h1, h2⟩ := HV.out
            rw [← h2]
            exact HYO.out.is h1
          rw [hu, ← hval, hsu, hsv] at hmax
          have HC1 : Hid (∀ wz, Below wr.heap.size wr wz → wz.cell? ⟨pb, po + i, none⟩ = some (.int .u64 (u : Int))) := fun wz hz => (hz.cell (p := ⟨pb, po + i, none⟩) (Nat.lt_of_lt_of_le hpb2 HBW.out.size)).trans ((HBW.out.cell (p := ⟨pb, po + i, none⟩) hpb2).trans hpc2)
          have HC2 : Hid (∀ wz, Below wr.heap.size wr wz → wz.cell? ⟨pb, po + b, none⟩ = some (.int .u64 (v : Int))) := fun wz hz => HPCz.out wr wz HBW.out hz
          have HS1 : Hid (∀ wz, Below wr.heap.size wr wz → Calls Try.prog 18 #[.int .u64 (u : Int), .pointer (some ⟨bS, 0, none⟩)] wz (RetB wz (.int .u64 (su : Int)))) := fun wz hz => by
            have h1 := HST3.out wz u (HBW.out.trans (hz.mono HBW.out.size))
            rw [hsu] at h1
            exact h1
          have HS2 : Hid (∀ wz, Below wr.heap.size wr wz → Calls Try.prog 18 #[.int .u64 (v : Int), .pointer (some ⟨bS, 0, none⟩)] wz (RetB wz (.int .u64 (sv : Int)))) := fun wz hz => by
            have h1 := HST3.out wz v (HBW.out.trans (hz.mono HBW.out.size))
            rw [hsv] at h1
            exact h1
          have g1 : decide ((sv : Int) < (su : Int)) = false := decide_eq_false (by omega)
          have g1n : decide (sv < su) = false := decide_eq_false (by omega)
          have hbi2 : (b : Int) < (m : Int) := by omega
          have hbi3 : (i : Int) < (m : Int) := by omega
          have HMX := Lib.hid hmax
          clear hpc2 hu hsu hsv hval hmax hpl2 hpb2
          by_cases hbi : b < i
          · have g2 : decide ((b : Int) < (i : Int)) = true := decide_eq_true (by omega)
            have g3 : ((su : Int) == (sv : Int)) = false := by
              have := HMX.out.2 hbi
              rw [nat_beq]
              simp
              omega
            go_upto_region 13 with fail
            refine wp_region_held_drew (S := Below wr.heap.size wr) (by kernel_rfl) ((Below.refl _ wr).drew) (fun hS => ?_)
            refine tk 0 hS ?_
            refine tk 1 hS ?_
            refine tk 2 hS ?_
            refine tk 3 hS ?_
            refine tk 4 hS ?_ (hy := by intro wz hz; have q1 := HC1.out wz hz; have q2 := HC2.out wz hz; go_simp <;> with_reducible rfl)
            refine tk 6 hS ?_
            refine tk 7 hS ?_
            refine tk 8 hS ?_
            refine tk 9 hS ?_
            refine tk 10 hS ?_ (hy := by intro wz hz; have q1 := HC1.out wz hz; have q2 := HC2.out wz hz; go_simp <;> with_reducible rfl)
            refine wpAnyH_ready (rs := [5]) (by kernel_rfl) (by simp) ?_
            refine AllReadyH.cons rfl (fun K hK => ?_) AllReadyH.nil
            go_simp
            refine (HS1.out _ hS).mono ?_
            rintro e y9 ⟨rfl, hb9⟩
            have hb : True := trivial
            have B9 := Lib.hid (hS.trans (hb9.mono hS.size))
            clear hb9
            refine hK.out _ _ (B9.out) (fun hT => ?_)
            clear hK hb hS
            have hS := hT
            clear hT
            refine wpAnyH_ready (rs := [11]) (by kernel_rfl) (by simp) ?_
            refine AllReadyH.cons rfl (fun K hK => ?_) AllReadyH.nil
            go_simp
            refine (HS2.out _ hS).mono ?_
            rintro e y9 ⟨rfl, hb9⟩
            have hb : True := trivial
            have B9 := Lib.hid (hS.trans (hb9.mono hS.size))
            clear hb9
            refine hK.out _ _ (B9.out) (fun hT => ?_)
            clear hK hb hS
            have hS := hT
            clear hT
            refine tk 12 hS ?_
            refine tk 13 hS ?_
            refine tk 14 hS ?_
            refine tk 15 hS ?_
            refine tk 16 hS ?_
            refine tk 17 hS ?_
            refine tk 18 hS ?_
            refine tk 19 hS ?_
            refine tk 20 hS ?_
            refine tk 21 hS ?_
            refine tk 22 hS ?_ (hy := by intro wz hz; have q1 := HC1.out wz hz; have q2 := HC2.out wz hz; go_simp <;> with_reducible rfl)
            refine tk 24 hS ?_
            refine tk 25 hS ?_
            refine tk 26 hS ?_
            refine tk 27 hS ?_
            refine tk 28 hS ?_ (hy := by intro wz hz; have q1 := HC1.out wz hz; have q2 := HC2.out wz hz; go_simp <;> with_reducible rfl)
            refine wpAnyH_ready (rs := [23]) (by kernel_rfl) (by simp) ?_
            refine AllReadyH.cons rfl (fun K hK => ?_) AllReadyH.nil
            go_simp
            refine (HS1.out _ hS).mono ?_
            rintro e y9 ⟨rfl, hb9⟩
            have hb : True := trivial
            have B9 := Lib.hid (hS.trans (hb9.mono hS.size))
            clear hb9
            refine hK.out _ _ (B9.out) (fun hT => ?_)
            clear hK hb hS
            have hS := hT
            clear hT
            refine wpAnyH_ready (rs := [29]) (by kernel_rfl) (by simp) ?_
            refine AllReadyH.cons rfl (fun K hK => ?_) AllReadyH.nil
            go_simp
            refine (HS2.out _ hS).mono ?_
            rintro e y9 ⟨rfl, hb9⟩
            have hb : True := trivial
            have B9 := Lib.hid (hS.trans (hb9.mono hS.size))
            clear hb9
            refine hK.out _ _ (B9.out) (fun hT => ?_)
            clear hK hb hS
            have hS := hT
            clear hT
            refine tk 30 hS ?_
            refine tk 31 hS ?_
            refine tk 32 hS ?_
            refine wpAnyH_done (by kernel_rfl) ?_ _
            clear hS
            have HBW2 := Lib.hid (HBW.out.trans (B9.out.mono HBW.out.size))
            clear HS1 HS2 HC1 HC2 g1 g1n g2 g3
            go_wp2_with fail
            exact ⟨⟨i + 1, by omega, by go_num, HBW2⟩, by simp [intOf]; omega⟩
          · have g2 : decide ((b : Int) < (i : Int)) = false := decide_eq_false (by omega)
            go_upto_region 13 with fail
            refine wp_region_held_drew (S := Below wr.heap.size wr) (by kernel_rfl) ((Below.refl _ wr).drew) (fun hS => ?_)
            refine tk 0 hS ?_
            refine tk 1 hS ?_
            refine tk 2 hS ?_
            refine tk 3 hS ?_
            refine tk 4 hS ?_ (hy := by intro wz hz; have q1 := HC1.out wz hz; have q2 := HC2.out wz hz; go_simp <;> with_reducible rfl)
            refine tk 6 hS ?_
            refine tk 7 hS ?_
            refine tk 8 hS ?_
            refine tk 9 hS ?_
            refine tk 10 hS ?_ (hy := by intro wz hz; have q1 := HC1.out wz hz; have q2 := HC2.out wz hz; go_simp <;> with_reducible rfl)
            refine wpAnyH_ready (rs := [5]) (by kernel_rfl) (by simp) ?_
            refine AllReadyH.cons rfl (fun K hK => ?_) AllReadyH.nil
            go_simp
            refine (HS1.out _ hS).mono ?_
            rintro e y9 ⟨rfl, hb9⟩
            have hb : True := trivial
            have B9 := Lib.hid (hS.trans (hb9.mono hS.size))
            clear hb9
            refine hK.out _ _ (B9.out) (fun hT => ?_)
            clear hK hb hS
            have hS := hT
            clear hT
            refine wpAnyH_ready (rs := [11]) (by kernel_rfl) (by simp) ?_
            refine AllReadyH.cons rfl (fun K hK => ?_) AllReadyH.nil
            go_simp
            refine (HS2.out _ hS).mono ?_
            rintro e y9 ⟨rfl, hb9⟩
            have hb : True := trivial
            have B9 := Lib.hid (hS.trans (hb9.mono hS.size))
            clear hb9
            refine hK.out _ _ (B9.out) (fun hT => ?_)
            clear hK hb hS
            have hS := hT
            clear hT
            refine tk 12 hS ?_
            refine tk 13 hS ?_
            refine tk 14 hS ?_
            refine tk 15 hS ?_
            refine tk 16 hS ?_
            refine tk 17 hS ?_
            refine sk 18 hS ?_
            refine sk 19 hS ?_
            refine sk 20 hS ?_
            refine sk 21 hS ?_
            refine sk 22 hS ?_
            refine sk 23 hS ?_
            refine sk 24 hS ?_
            refine sk 25 hS ?_
            refine sk 26 hS ?_
            refine sk 27 hS ?_
            refine sk 28 hS ?_
            refine sk 29 hS ?_
            refine sk 30 hS ?_
            refine tk 31 hS ?_
            refine tk 32 hS ?_
            refine wpAnyH_done (by kernel_rfl) ?_ _
            clear hS
            have HBW2 := Lib.hid (HBW.out.trans (B9.out.mono HBW.out.size))
            clear HS1 HS2 HC1 HC2 g1 g1n g2
            go_wp2_with fail
            exact ⟨⟨i + 1, by omega, by go_num, HBW2⟩, by simp [intOf]; omega⟩
        · obtain rfl : i = m := by omega
          have HB4 := Lib.hid (HB3.out.trans (HBW.out.mono HB3.out.size))
          have HPCw : Hid (∀ wa wz, Below wr.heap.size wr wa → Below wa.heap.size wa wz → wz.cell? ⟨pb, po + b, none⟩ = some (.int .u64 (v : Int))) := fun wa wz h1 h2 => HPCz.out wa wz (HBW.out.trans (h1.mono HBW.out.size)) h2
          clear HPCz
          generalize wr = z4 at HB4 HPCw HBW ⊢
          go_wp2_with fail
          go_loopw [11, 12] (fun vo vi wr => ∃ (k : Nat) (D : Option Addr) (mr cD : Nat), k ≤ n ∧ mr ≤ k ∧ vo = .slice D mr cD ∧ vi = .int .i64 (k : Int) ∧ Hid ((rstL (l.take k) v).length = mr) ∧ Hid (RowD z4 (rstL (l.take k) v) (.slice D mr cD) wr)) (fun _ i _ => n - (intOf i).toNat)
          case atStart => exact ⟨0, none, 0, 0, Nat.zero_le _, Nat.le_refl _, rfl, rfl, Lib.hid rfl, Lib.hid (RowD.nil z4)⟩
          case round =>
            obtain ⟨k, D, mr, cD, hk, hmk, rfl, rfl, HMR, HRD⟩ := hrel
            by_cases hlt2 : k < n
            · obtain ⟨g, o, hl, rfl, hgb, hgc⟩ := (HL.out.below HB4.out).ar hlt2
              have hnx := rstL_next hl v
              obtain ⟨y, hy⟩ : ∃ y, l[k] = y := ⟨_, rfl⟩
              rw [hy] at hgc hnx
              obtain ⟨y1, y2⟩ := y
              dsimp only at hnx
              have R1 : Hid (wr.rangeAt g (o + k * 2) (arV (y1, y2))) := pl_rangeAt_block hgc (HRD.out.below.block g hgb)
              have HC1 : Hid (∀ wz, Below wr.heap.size wr wz → wz.cell? ⟨g, o + k * 2, none⟩ = some (.int .u64 (y1 : Int))) := fun wz hz => (hz.cell (p := ⟨g, o + k * 2, none⟩) (Nat.lt_of_lt_of_le hgb HRD.out.below.size)).trans (R1.out 0 _ rfl)
              have HC2 : Hid (∀ wz, Below wr.heap.size wr wz → wz.cell? ⟨g, o + k * 2 + 1, none⟩ = some (.int .u64 (y2 : Int))) := fun wz hz => (hz.cell (p := ⟨g, o + k * 2 + 1, none⟩) (Nat.lt_of_lt_of_le hgb HRD.out.below.size)).trans (R1.out 1 _ rfl)
              have HC3 : Hid (∀ wz, Below wr.heap.size wr wz → wz.cell? ⟨pb, po + b, none⟩ = some (.int .u64 (v : Int))) := fun wz hz => HPCw.out wr wz HRD.out.below hz
              have HNX := Lib.hid hnx
              have hbi2 : (b : Int) < (i : Int) := by omega
              clear hgc hy hnx hgb
              by_cases h1 : y1 = v
              · have e1 : ((y1 : Int) != (v : Int)) = false := by rw [h1]; simp
                have HNX2 : Hid (rstL (l.take (k + 1)) v = rstL (l.take k) v) := by
                  have := HNX.out
                  rw [if_neg (by simp [h1]), List.append_nil] at this
                  exact this
                clear h1
                go_upto_region 19 with fail
                refine wp_region_held_drew (S := Below wr.heap.size wr) (by kernel_rfl) ((Below.refl _ wr).drew) (fun hS => ?_)
                refine tk 0 hS ?_
                refine tk 1 hS ?_
                refine tk 2 hS ?_
                refine tk 3 hS ?_
                refine tk 4 hS ?_ (hy := by intro wz hz; have q1 := HC1.out wz hz; have q2 := HC2.out wz hz; have q3 := HC3.out wz hz; go_simp <;> with_reducible rfl)
                refine tk 5 hS ?_
                refine tk 6 hS ?_
                refine tk 7 hS ?_
                refine tk 8 hS ?_ (hy := by intro wz hz; have q1 := HC1.out wz hz; have q2 := HC2.out wz hz; have q3 := HC3.out wz hz; go_simp <;> with_reducible rfl)
                refine tk 9 hS ?_
                refine tk 10 hS ?_
                refine sk 11 hS ?_
                refine sk 12 hS ?_
                refine sk 13 hS ?_
                refine sk 14 hS ?_
                refine sk 15 hS ?_
                refine sk 16 hS ?_
                refine sk 17 hS ?_
                refine sk 18 hS ?_
                refine sk 19 hS ?_
                refine sk 20 hS ?_
                refine tk 21 hS ?_
                refine wpAnyH_done (by kernel_rfl) ?_ _
                clear hS
                clear HC1 HC2 HC3 R1
                go_wp2_with fail
                exact ⟨⟨k + 1, D, mr, cD, by omega, by omega, rfl, by go_num, by rw [HNX2.out]; exact HMR, by rw [HNX2.out]; exact HRD.out.under (Below.refl _ wr).drew⟩, by simp [intOf]; omega⟩
              · have e1 : ((y1 : Int) != (v : Int)) = true := by simp [bne]; omega
                by_cases h2 : y2 = v
                · have e2 : ((y2 : Int) != (v : Int)) = false := by rw [h2]; simp
                  have HNX2 : Hid (rstL (l.take (k + 1)) v = rstL (l.take k) v) := by
                    have := HNX.out
                    rw [if_neg (by simp [h2]), List.append_nil] at this
                    exact this
                  clear h1 h2
                  go_upto_region 19 with fail
                  refine wp_region_held_drew (S := Below wr.heap.size wr) (by kernel_rfl) ((Below.refl _ wr).drew) (fun hS => ?_)
                  refine tk 0 hS ?_
                  refine tk 1 hS ?_
                  refine tk 2 hS ?_
                  refine tk 3 hS ?_
                  refine tk 4 hS ?_ (hy := by intro wz hz; have q1 := HC1.out wz hz; have q2 := HC2.out wz hz; have q3 := HC3.out wz hz; go_simp <;> with_reducible rfl)
                  refine tk 5 hS ?_
                  refine tk 6 hS ?_
                  refine tk 7 hS ?_
                  refine tk 8 hS ?_ (hy := by intro wz hz; have q1 := HC1.out wz hz; have q2 := HC2.out wz hz; have q3 := HC3.out wz hz; go_simp <;> with_reducible rfl)
                  refine tk 9 hS ?_
                  refine tk 10 hS ?_
                  refine tk 11 hS ?_
                  refine tk 12 hS ?_
                  refine tk 13 hS ?_
                  refine tk 14 hS ?_
                  refine tk 15 hS ?_ (hy := by intro wz hz; have q1 := HC1.out wz hz; have q2 := HC2.out wz hz; have q3 := HC3.out wz hz; go_simp <;> with_reducible rfl)
                  refine tk 16 hS ?_
                  refine tk 17 hS ?_
                  refine tk 18 hS ?_
                  refine tk 19 hS ?_ (hy := by intro wz hz; have q1 := HC1.out wz hz; have q2 := HC2.out wz hz; have q3 := HC3.out wz hz; go_simp <;> with_reducible rfl)
                  refine tk 20 hS ?_
                  refine tk 21 hS ?_
                  refine wpAnyH_done (by kernel_rfl) ?_ _
                  clear hS
                  clear HC1 HC2 HC3 R1
                  go_wp2_with fail
                  exact ⟨⟨k + 1, D, mr, cD, by omega, by omega, rfl, by go_num, by rw [HNX2.out]; exact HMR, by rw [HNX2.out]; exact HRD.out.under (Below.refl _ wr).drew⟩, by simp [intOf]; omega⟩
                · have e2 : ((y2 : Int) != (v : Int)) = true := by simp [bne]; omega
                  have HNX2 : Hid (rstL (l.take (k + 1)) v = rstL (l.take k) v ++ [(y1, y2)]) := by
                    have := HNX.out
                    rw [if_pos (by simp [h1, h2])] at this
                    exact this
                  clear h1 h2
                  go_upto_region 19 with fail
                  refine wp_region_held_drew (S := Below wr.heap.size wr) (by kernel_rfl) ((Below.refl _ wr).drew) (fun hS => ?_)
                  refine tk 0 hS ?_
                  refine tk 1 hS ?_
                  refine tk 2 hS ?_
                  refine tk 3 hS ?_
                  refine tk 4 hS ?_ (hy := by intro wz hz; have q1 := HC1.out wz hz; have q2 := HC2.out wz hz; have q3 := HC3.out wz hz; go_simp <;> with_reducible rfl)
                  refine tk 5 hS ?_
                  refine tk 6 hS ?_
                  refine tk 7 hS ?_
                  refine tk 8 hS ?_ (hy := by intro wz hz; have q1 := HC1.out wz hz; have q2 := HC2.out wz hz; have q3 := HC3.out wz hz; go_simp <;> with_reducible rfl)
                  refine tk 9 hS ?_
                  refine tk 10 hS ?_
                  refine tk 11 hS ?_
                  refine tk 12 hS ?_
                  refine tk 13 hS ?_
                  refine tk 14 hS ?_
                  refine tk 15 hS ?_ (hy := by intro wz hz; have q1 := HC1.out wz hz; have q2 := HC2.out wz hz; have q3 := HC3.out wz hz; go_simp <;> with_reducible rfl)
                  refine tk 16 hS ?_
                  refine tk 17 hS ?_
                  refine tk 18 hS ?_
                  refine tk 19 hS ?_ (hy := by intro wz hz; have q1 := HC1.out wz hz; have q2 := HC2.out wz hz; have q3 := HC3.out wz hz; go_simp <;> with_reducible rfl)
                  refine tk 20 hS ?_
                  refine tk 21 hS ?_
                  refine wpAnyH_done (by kernel_rfl) ?_ _
                  clear hS
                  clear HC1 HC2 HC3
                  have HRDD := Lib.hid (HRD.out.under (Below.refl _ wr).drew)
                  have R1D : Hid (wr.drew.rangeAt g (o + k * 2) (arV (y1, y2))) := R1.out
                  generalize wr.drew = wd at HRDD R1D ⊢
                  go_wp2_with (first
                    | refine wpList_load_in 34 114 (.tmp 113) rfl rfl rfl g (o + k * 2) rfl (arV (y1, y2)) 2 strrA rfl R1D.out ?_
                    | refine wpList_lit1 rfl (.tmp 114) 22 34 2 zA (arA (y1, y2)) rfl rfl Try.underlying22 (by kernel_rfl) (by omega) (by omega) rfl ?_
                    | (at_builtin; refine wpList_pushD rfl (.tmp 110) (.tmp 115) rfl (y := (y1, y2)) HRDD.out HMR.out (by omega) rfl rfl ?_; intro A6 c6 w6 h6))
                  exact ⟨⟨k + 1, A6, mr + 1, c6, by omega, by omega, rfl, by go_num, Lib.hid (by rw [HNX2.out, List.length_append, HMR.out]; rfl), Lib.hid (by rw [HNX2.out]; exact h6)⟩, by simp [intOf]; omega⟩
            · obtain rfl : k = n := by omega
              have hall : l.take k = l := List.take_of_length_le (by have := HLN.out; omega)
              rw [hall] at HMR HRD
              clear hall
              obtain ⟨U, hU⟩ : ∃ U, rstL l v = U := ⟨_, rfl⟩
              have HUN : Hid (∀ a ∈ U, a.1 ≠ v ∧ a.2 ≠ v) := hU ▸ rstL_ne
              have HUU : Hid (∀ a ∈ U, U64 a.1 ∧ U64 a.2) := hU ▸ fun a ha => HU.out a (rstL_sub a ha)
              rw [hU] at HMR HRD
              clear hU
              have HB5 := Lib.hid (HB4.out.trans (HRD.out.below.mono HB4.out.size))
              go_wp2_with fail
              refine (own_any D mr cD U wr (HRD.out.lz HMR.out) (by omega)).mono ?_
              rintro e z6 ⟨B1, c1, rfl, hr⟩
              have HR1 := Lib.hid hr
              have HB6 := Lib.hid (HB5.out.trans (hr.below.mono HB5.out.size))
              have HQ6 := Lib.hid (HRD.out.below.trans (hr.below.mono HRD.out.below.size))
              clear hr
              go_wp2_with fail
              refine (Find_any B1 mr c1 U x z6 (HR1.out.lz HMR.out) (by omega) HUU.out HX.out).mono ?_
              rintro e z7 ⟨q, mq, Q, cQ, rfl, hmq, hrq, hfq, _⟩
              have hq40 : mq ≤ 40 := by have h1 := hfq.len; have h2 := isD_le (farU_isD U x x); have h3 := HMR.out; omega
              have hqne : ∀ (j : Nat) (h : j < q.length), q[j] ≠ v := fun j h => (HUN.out _ (hfq.arc j h)).1
              have hq0 : ∀ h : 0 < q.length, x ≠ v := fun h => by
                have h1 := hqne 0 h
                rw [hfq.hd h] at h1
                exact h1
              have HQM := Lib.hid hmq
              have HQN := Lib.hid hqne
              have HQ0 := Lib.hid hq0
              have HQR := Lib.hid hrq
              have HB7 := Lib.hid (HB6.out.trans (hrq.below.mono HB6.out.size))
              have HQ7 := Lib.hid (HQ6.out.trans (hrq.below.mono HQ6.out.size))
              clear hmq hrq hfq hqne hq0
              go_wp2_with fail
              go_loopw [14] (fun vi wr => ∃ j : Nat, j ≤ mq ∧ vi = .int .i64 (j : Int) ∧ Hid (Below z7.heap.size z7 wr)) (fun j _ => mq - (intOf j).toNat)
              case atStart => exact ⟨0, Nat.zero_le _, rfl, Lib.hid (Below.refl _ z7)⟩
              case round =>
                obtain ⟨j, hj, rfl, HBJ⟩ := hrel
                by_cases hlt3 : j < mq
                · obtain ⟨qb, qo, hql, rfl, hqb, hqc⟩ := (HQR.out.lz HQM.out).uc hlt3
                  obtain ⟨t, ht⟩ : ∃ t, q[j] = t := ⟨_, rfl⟩
                  rw [ht] at hqc
                  have htv : t ≠ v := by rw [← ht]; exact HQN.out j hql
                  have e1 : ((t : Int) == (v : Int)) = false := by rw [nat_beq]; simpa using htv
                  have HC1 : Hid (∀ wz, Below wr.heap.size wr wz → wz.cell? ⟨qb, qo + j, none⟩ = some (.int .u64 (t : Int))) := fun wz hz => (hz.cell (p := ⟨qb, qo + j, none⟩) (Nat.lt_of_lt_of_le hqb HBJ.out.size)).trans ((HBJ.out.cell (p := ⟨qb, qo + j, none⟩) hqb).trans hqc)
                  have HC2 : Hid (∀ wz, Below wr.heap.size wr wz → wz.cell? ⟨pb, po + b, none⟩ = some (.int .u64 (v : Int))) := fun wz hz => HPCw.out wr wz (HQ7.out.trans (HBJ.out.mono HQ7.out.size)) hz
                  have hb2 : (b : Int) < (i : Int) := by omega
                  have hj2 : (j : Int) < (mq : Int) := by omega
                  clear hqc ht htv
                  go_upto_region 25 with fail
                  refine wp_region_held_drew (S := Below wr.heap.size wr) (by kernel_rfl) ((Below.refl _ wr).drew) (fun hS => ?_)
                  refine tk 0 hS ?_
                  refine tk 1 hS ?_
                  refine tk 2 hS ?_
                  refine tk 3 hS ?_ (hy := by intro wz hz; have q1 := HC1.out wz hz; have q2 := HC2.out wz hz; go_simp <;> with_reducible rfl)
                  refine tk 4 hS ?_
                  refine tk 5 hS ?_
                  refine tk 6 hS ?_
                  refine tk 7 hS ?_ (hy := by intro wz hz; have q1 := HC1.out wz hz; have q2 := HC2.out wz hz; go_simp <;> with_reducible rfl)
                  refine tk 8 hS ?_
                  refine wpAnyH_done (by kernel_rfl) ?_ _
                  clear hS
                  clear HC1 HC2
                  go_wp2_with fail
                  exact ⟨⟨j + 1, by omega, by go_num, HBJ.out.drew⟩, by simp [intOf]; omega⟩
                · obtain rfl : j = mq := by omega
                  have HB8 := Lib.hid (HB7.out.trans (HBJ.out.mono HB7.out.size))
                  have q1 : wr.cell? ⟨pb, po + b, none⟩ = some (.int .u64 (v : Int)) := HPCw.out wr wr (HQ7.out.trans (HBJ.out.mono HQ7.out.size)) (Below.refl _ _)
                  have hb2 : (b : Int) < (i : Int) := by omega
                  by_cases hxv : x = v
                  · have hj0 : j = 0 := by
                      have h1 := HQM.out
                      by_cases h2 : 0 < q.length
                      · exact absurd hxv (HQ0.out h2)
                      · omega
                    have e1 : ((x : Int) != (v : Int)) = false := by rw [hxv]; simp
                    have e2 : ((j : Int) == 0) = true := by rw [hj0]; rfl
                    clear hxv hj0
                    go_wp2_with fail
                    refine (works_any wr).mono ?_
                    rintro e z9 ⟨rfl, hb9⟩
                    have HB9 := Lib.hid (HB8.out.trans (hb9.mono HB8.out.size))
                    clear hb9
                    go_wp2_with fail
                    go_ret
                    exact ⟨rfl, HB9.out⟩
                  · have e1 : ((x : Int) != (v : Int)) = true := by simp [bne]; omega
                    clear hxv
                    go_wp2_with fail
                    refine (works_any wr).mono ?_
                    rintro e z9 ⟨rfl, hb9⟩
                    have HB9 := Lib.hid (HB8.out.trans (hb9.mono HB8.out.size))
                    clear hb9
                    go_wp2_with fail
                    go_ret
                    exact ⟨rfl, HB9.out⟩
end Go.Proofs.Ytnkphpjnhjbokaa
