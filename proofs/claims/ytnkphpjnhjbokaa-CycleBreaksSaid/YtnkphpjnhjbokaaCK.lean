/-
  The law's nums; the document's Round.
  Conditions: at most 100000 numbers, at most 1000 arcs.
-/
import Derived.Test.YtnkphpjnhjbokaaCJ
namespace Go.Proofs.Ytnkphpjnhjbokaa
open Go.RowKit
attribute [local go_sem] Oper.semAt_some
set_option maxRecDepth 20000

set_option maxHeartbeats 3200000 in
theorem nums_any (A1 A2 : Option Addr) (n1 c1 n2 c2 : Nat) (l m : List Nat) (w : World) (h1 : Lz (fun _ => False) w 1 A1 n1 (UC l)) (h2 : Lz (fun _ => False) w 1 A2 n2 (UC m)) (hn : n1 ≤ 100000) :
    Calls Try.prog 14 #[.slice A1 n1 c1, .slice A2 n2 c2] w (RetB w (.bool (l == m))) := by
  have hl1 : l.length = n1 := by have := h1.len; rw [UC_length] at this; omega
  have hl2 : m.length = n2 := by have := h2.len; rw [UC_length] at this; omega
  have H1 := Lib.hid h1
  have H2 := Lib.hid h2
  clear h1 h2
  by_cases hne : n1 = n2
  · subst hne
    have e1 : ((n1 : Int) != (n1 : Int)) = false := by simp
    go_enter Try.func14, Try.ntmps14
    go_wp2_with fail
    go_loopw [5] (fun i wr => ∃ k : Nat, k ≤ n1 ∧ i = .int .i64 (k : Int) ∧ Hid (Below w.heap.size w wr) ∧ Hid (l.take k = m.take k)) (fun i _ => n1 - (intOf i).toNat)
    case atStart => exact ⟨0, Nat.zero_le _, rfl, Lib.hid (Below.refl _ w), Lib.hid rfl⟩
    case round =>
      obtain ⟨k, hk, rfl, HR, HT⟩ := hrel
      by_cases hlt : k < n1
      · obtain ⟨b1, o1, hk1, hA1, hb1, hp1⟩ := H1.out.uc hlt
        obtain ⟨b2, o2, hk2, hA2, hb2, hp2⟩ := H2.out.uc hlt
        subst hA1 hA2
        obtain ⟨x, hx⟩ : ∃ x, l[k] = x := ⟨_, rfl⟩
        obtain ⟨y, hy⟩ : ∃ y, m[k] = y := ⟨_, rfl⟩
        rw [hx] at hp1
        rw [hy] at hp2
        have P1 := Lib.hid hp1
        have P2 := Lib.hid hp2
        have HX := Lib.hid hx
        have HY := Lib.hid hy
        obtain ⟨bn, hbn⟩ : ∃ bn, ((x : Int) != (y : Int)) = bn := ⟨_, rfl⟩
        have HBN := Lib.hid (show (x != y) = bn by rw [← hbn, nat_bne])
        clear hx hy hp1 hp2
        go_upto_region 6 with fail
        refine wp_region_held_drew (S := Below w.heap.size w) (by kernel_rfl) (HR.out.drew) (fun hS => ?_)
        refine tk 0 hS ?_
        refine tk 1 hS ?_
        refine tk 2 hS ?_
        refine tk 3 hS ?_ (hy := by intro wz hz; have q1 : wz.cell? ⟨b1, o1 + k, none⟩ = some (.int .u64 (x : Int)) := (hz.cell (p := ⟨b1, o1 + k, none⟩) hb1).trans P1.out; have q2 : wz.cell? ⟨b2, o2 + k, none⟩ = some (.int .u64 (y : Int)) := (hz.cell (p := ⟨b2, o2 + k, none⟩) hb2).trans P2.out; go_simp <;> with_reducible rfl)
        refine tk 4 hS ?_
        refine tk 5 hS ?_
        refine tk 6 hS ?_
        refine tk 7 hS ?_ (hy := by intro wz hz; have q1 : wz.cell? ⟨b1, o1 + k, none⟩ = some (.int .u64 (x : Int)) := (hz.cell (p := ⟨b1, o1 + k, none⟩) hb1).trans P1.out; have q2 : wz.cell? ⟨b2, o2 + k, none⟩ = some (.int .u64 (y : Int)) := (hz.cell (p := ⟨b2, o2 + k, none⟩) hb2).trans P2.out; go_simp <;> with_reducible rfl)
        refine tk 8 hS ?_
        refine wpAnyH_done (by kernel_rfl) ?_ _
        have HS := Lib.hid hS
        clear hS
        cases bn
        · go_wp2_with fail
          refine ⟨⟨k + 1, by omega, by go_num, HS, Lib.hid ?_⟩, by simp [intOf]; omega⟩
          have hxy : x = y := by have := HBN.out; simpa using this
          rw [List.take_add_one, List.take_add_one, HT.out, List.getElem?_eq_getElem hk1, List.getElem?_eq_getElem hk2, HX.out, HY.out, hxy]
        · go_wp2_with fail
          go_ret
          have hxy : x ≠ y := by have := HBN.out; simpa using this
          have e : (l == m) = false := by
            rw [beq_eq_false_iff_ne]
            rintro rfl
            exact hxy (by rw [← HX.out, ← HY.out])
          exact ⟨by rw [e]; rfl, HS.out⟩
      · obtain rfl : k = n1 := by omega
        go_wp2_with fail
        go_ret
        have e : (l == m) = true := by
          have := HT.out
          rw [List.take_of_length_le (by omega), List.take_of_length_le (by omega)] at this
          rw [this, beq_self_eq_true]
        exact ⟨by rw [e]; rfl, HR.out⟩
  · have e1 : ((n1 : Int) != (n2 : Int)) = true := by rw [nat_bne]; simpa using hne
    have e : (l == m) = false := by
      rw [beq_eq_false_iff_ne]
      rintro rfl
      exact hne (by omega)
    have HE := Lib.hid e
    have HNE := Lib.hid hne
    clear e hne
    go_enter Try.func14, Try.ntmps14
    go_wp2_with fail
    go_ret
    exact ⟨by rw [HE.out]; rfl, Below.refl _ w⟩

theorem Far_is (A : Option Addr) (n c : Nat) (l : List Ar) (a b m : Nat) (hm : farU l a b = m) (w : World) (h : Lz (fun _ => False) w 2 A n (arL l)) (hn : n ≤ 1000) :
    Calls Try.prog 11 #[.slice A n c, .int .u64 (a : Int), .int .u64 (b : Int)] w (RetB w (.int .i64 (m : Nat))) := by
  rw [← hm]
  exact Far_any A n c l a b w h hn
theorem farU_le (l : List Ar) (a b : Nat) : farU l a b ≤ l.length := isD_le (farU_isD l a b)
/-- The document's choice of the next. -/
def nextU (l : List Ar) (a k x : Nat) : Nat := ((stepU l [x] []).find? fun s => k == 0 || farU l s a == k).getD x
theorem roundU_succ (l : List Ar) (a k x : Nat) : roundU l a (k + 1) x = x :: roundU l a k (nextU l a k x) := rfl
theorem find_at {l : List Nat} {p : Nat → Bool} {j : Nat} (hj : j < l.length) (h : ∀ (i : Nat) (hi : i < l.length), i < j → p l[i] = false) (hp : p l[j] = true) (x : Nat) : (l.find? p).getD x = l[j] := by
  have : l.find? p = some l[j] := by
    rw [List.find?_eq_some_iff_getElem]
    exact ⟨hp, j, hj, rfl, fun i hi => by rw [h i (by omega) hi]; rfl⟩
  rw [this]
  rfl
theorem find_no {l : List Nat} {p : Nat → Bool} (h : ∀ (i : Nat) (hi : i < l.length), p l[i] = false) (x : Nat) : (l.find? p).getD x = x := by
  have : l.find? p = none := List.find?_eq_none.2 fun y hy => by
    obtain ⟨i, hi, rfl⟩ := List.getElem_of_mem hy
    rw [h i hi]
    decide
  rw [this]
  rfl
/-- What is left of the way, and what has been told of it. -/
theorem roundU_split {l : List Ar} {a k x : Nat} {F R : List Nat} (h : F ++ roundU l a (k + 1) x = R) : (F ++ [x]) ++ roundU l a k (nextU l a k x) = R := by
  rw [← h, roundU_succ]
  simp
set_option maxHeartbeats 6400000 in
theorem Round_any (A : Option Addr) (n c : Nat) (l : List Ar) (a : Nat) (w : World) (h : Lz (fun _ => False) w 2 A n (arL l)) (hn : n ≤ 1000) :
    Calls Try.prog 20 #[.slice A n c, .int .u64 (a : Int)] w (RetU w (roundU l a (farU l a a) a)) := by
  have hlen := h.arlen
  have HL := Lib.hid h
  clear h
  obtain ⟨m, hm⟩ : ∃ m, farU l a a = m := ⟨_, rfl⟩
  have hmn : m ≤ n := by have := farU_le l a a; omega
  have HF0 := Lib.hid (Far_is A n c l a a m hm w HL.out hn)
  rw [hm]
  obtain ⟨R, hR⟩ : ∃ R, roundU l a m a = R := ⟨_, rfl⟩
  have HRR := Lib.hid hR
  rw [hR]
  clear hm hR
  go_enter Try.func20, Try.ntmps20
  go_wp2_with fail
  refine HF0.out.mono ?_
  rintro e z0 ⟨rfl, hz0⟩
  have HR0 : Hid (RowS w [] (.slice none 0 0) z0) := (RowS.nil w).under hz0
  clear hz0 HF0
  go_wp2_with fail
  go_loopw [6, 7, 8] (fun vo vx vk wr => ∃ (k x : Nat) (F : List Nat) (B : Option Addr) (nF cF : Nat), k ≤ m ∧ nF + k ≤ m ∧ vo = .slice B nF cF ∧ vx = .int .u64 (x : Int) ∧ vk = .int .i64 (k : Int) ∧ Hid (F ++ roundU l a k x = R) ∧ Hid (F.length = nF) ∧ Hid (RowS w F (.slice B nF cF) wr)) (fun _ _ k _ => (intOf k).toNat)
  case atStart => exact ⟨m, a, [], none, 0, 0, Nat.le_refl _, by omega, rfl, rfl, rfl, Lib.hid (by rw [← HRR.out]; rfl), Lib.hid rfl, HR0⟩
  case round =>
    clear HR0 HRR
    obtain ⟨k, x, F, B, nF, cF, hk, hnF, rfl, rfl, rfl, HS, HN, HR⟩ := hrel
    by_cases h0 : k = 0
    · have d0 : decide ((0 : Int) < (k : Int)) = false := by simp; omega
      have d0n : decide (0 < k) = false := by simp; omega
      have HE : Hid (R = F) := by show _ = _; rw [← HS.out, h0]; simp [roundU]
      clear h0
      go_wp2_with fail
      go_ret
      exact ⟨B, cF, by rw [HE.out, HN.out]; rfl, by rw [HE.out, HN.out]; exact HR.out⟩
    · have d0 : decide ((0 : Int) < (k : Int)) = true := by simp; omega
      have d0n : decide (0 < k) = true := by simp; omega
      obtain ⟨k1, hk1⟩ : ∃ k1, k - 1 = k1 := ⟨_, rfl⟩
      have hkk : k1 < k ∧ k ≤ k1 + 1 := by omega
      have ek : (k : Int) - 1 = (k1 : Int) := by omega
      have wk : IntKind.i64.wrap (k1 : Int) = (k1 : Int) := by rw [IntKind.wrap_i64]; omega
      have HK : Hid (k = k1 + 1) := by show _ = _; omega
      have hS2 := HS.out
      rw [HK.out] at hS2
      have HS2 := Lib.hid (roundU_split hS2)
      obtain ⟨S, hS⟩ : ∃ S, stepU l [x] [] = S := ⟨_, rfl⟩
      obtain ⟨nS, hnS⟩ : ∃ nS, S.length = nS := ⟨_, rfl⟩
      have hSle : nS ≤ n := by
        have := stepU_length [x] l []
        rw [hS] at this
        simp at this
        omega
      have HSS := Lib.hid hS
      have HNS := Lib.hid hnS
      clear hS2 h0 hk1 hS hnS HS
      go_upto_region 8 with (at_builtin; refine wpList_push rfl (.tmp 21) (.tmp 23) rfl HR.out HN.out (by omega) rfl rfl ?_; intro A5 c5 w5 h5)
      have HR5 := Lib.hid h5
      clear h5
      have HO := Lib.hid (lz_one w5 x)
      have HB5 := Lib.hid ((Below.refl w5.heap.size w5).alloc (Nat.le_refl _) (.cells #[.int .u64 (x : Int)] 23))
      go_upto_region 9 with fail
      generalize w5.alloc (.cells #[.int .u64 (x : Int)] 23) = w6 at HO HB5 ⊢
      generalize (some ⟨w5.heap.size, 0, none⟩ : Option Addr) = A6 at HO ⊢
      have HR6 := Lib.hid (HR5.out.under HB5.out)
      refine (Step_any A n c l A6 1 1 [x] w6 (HL.out.below HR6.out.below) HO.out hn (by omega)).mono ?_
      rw [HSS.out]
      intro e z1 h1
      obtain ⟨BS, cS, rfl, h2⟩ := h1.named HNS.out
      have HSZ := Lib.hid (h2.lz HNS.out)
      have HR7 := Lib.hid (HR6.out.under h2.below)
      have HN5 : Hid ((F ++ [x]).length = nF + 1) := by show _ = _; rw [List.length_append, HN.out]; rfl
      clear h1 h2 HO HB5 HR6 HR5 HR HN
      obtain ⟨nx, hnx⟩ : ∃ nx, nextU l a k1 x = nx := ⟨_, rfl⟩
      rw [hnx] at HS2
      have hnx2 : (S.find? fun s => k1 == 0 || farU l s a == k1).getD x = nx := by rw [← hnx, ← HSS.out]; rfl
      have HNX := Lib.hid hnx2
      have hzl : Below z1.heap.size z1 z1 := Below.refl _ z1
      have HZL := Lib.hid hzl
      clear hnx hnx2 hzl
      go_wp2_with fail
      go_loopw [7, 10] (fun v7 i wr => ∃ j : Nat, j ≤ nS ∧ v7 = .int .u64 (x : Int) ∧ i = .int .i64 (j : Int) ∧ Hid (Below z1.heap.size z1 wr) ∧ Hid (∀ (i : Nat) (hi : i < S.length), i < j → (k1 == 0 || farU l S[i] a == k1) = false)) (fun _ i _ => nS - (intOf i).toNat)
      case atStart => exact ⟨0, Nat.zero_le _, rfl, by go_num, HZL, Lib.hid fun _ _ h => absurd h (Nat.not_lt_zero _)⟩
      case round =>
        obtain ⟨j, hj, rfl, rfl, HB, HNO⟩ := hrel
        by_cases hjl : j < nS
        · obtain ⟨b, o, hl, rfl, hb, hc⟩ := HSZ.out.uc hjl
          obtain ⟨y, hy⟩ : ∃ y, S[j] = y := ⟨_, rfl⟩
          rw [hy] at hc
          have C1 := Lib.hid hc
          have p1 : wr.cell? ⟨b, o + j, none⟩ = some (.int .u64 (y : Int)) := (HB.out.cell (p := ⟨b, o + j, none⟩) hb).trans hc
          have HY := Lib.hid hy
          clear hc hy
          by_cases hk0 : k1 = 0
          · have e1 : ((k : Int) == 1) = true := by have := HK.out; simp; omega
            have HE : Hid (nx = y) := by
              show _ = _
              rw [← HNX.out, find_at hl HNO.out (by rw [hk0]; rfl), HY.out]
            clear hk0
            go_wp2_with fail
            exact ⟨⟨k1, y, F ++ [x], A5, nF + 1, c5, by omega, by omega, rfl, rfl, by go_num, by have h := HS2; rw [HE.out] at h; exact h, HN5, Lib.hid (HR7.out.under HB.out)⟩, by simp [intOf]; omega⟩
          · have e1 : ((k : Int) == 1) = false := by have := HK.out; simp; omega
            obtain ⟨m', hm'⟩ : ∃ m', farU l y a = m' := ⟨_, rfl⟩
            obtain ⟨bq, hbq⟩ : ∃ bq, (m' == k1) = bq := ⟨_, rfl⟩
            have e2 : ((m' : Int) == (k1 : Int)) = bq := by rw [nat_beq, hbq]
            have HP : Hid ((k1 == 0 || farU l S[j] a == k1) = bq) := by
              show _ = _
              rw [HY.out, hm', hbq]
              have : (k1 == 0) = false := by simpa using hk0
              rw [this]
              rfl
            have HC := Lib.hid (Far_is A n c l y a m' hm' wr (HL.out.below (HR7.out.below.trans (HB.out.mono HR7.out.below.size))) hn)
            clear hk0 hm' hbq
            go_wp2_with fail
            refine HC.out.mono ?_
            rintro e z2 ⟨rfl, hz2⟩
            have HB2 := Lib.hid (HB.out.trans (hz2.mono HB.out.size))
            have p2 : z2.cell? ⟨b, o + j, none⟩ = some (.int .u64 (y : Int)) := (HB2.out.cell (p := ⟨b, o + j, none⟩) hb).trans C1.out
            clear hz2 HC p1
            cases bq
            · go_wp2_with fail
              refine ⟨⟨j + 1, by omega, rfl, by go_num, HB2, Lib.hid fun i hi hij => ?_⟩, by simp [intOf]; omega⟩
              by_cases e : i = j
              · subst e
                exact HP.out
              · exact HNO.out i hi (by omega)
            · have HE : Hid (nx = y) := by
                show _ = _
                rw [← HNX.out, find_at hl HNO.out HP.out, HY.out]
              go_wp2_with fail
              exact ⟨⟨k1, y, F ++ [x], A5, nF + 1, c5, by omega, by omega, rfl, rfl, by go_num, by have h := HS2; rw [HE.out] at h; exact h, HN5, Lib.hid (HR7.out.under HB2.out)⟩, by simp [intOf]; omega⟩
        · obtain rfl : j = nS := by omega
          have HE : Hid (nx = x) := by
            show _ = _
            rw [← HNX.out, find_no (fun i hi => HNO.out i hi (by have := HNS.out; omega))]
          go_wp2_with fail
          exact ⟨⟨k1, x, F ++ [x], A5, nF + 1, c5, by omega, by omega, rfl, rfl, by go_num, by have h := HS2; rw [HE.out] at h; exact h, HN5, Lib.hid (HR7.out.under HB.out)⟩, by simp [intOf]; omega⟩
end Go.Proofs.Ytnkphpjnhjbokaa
