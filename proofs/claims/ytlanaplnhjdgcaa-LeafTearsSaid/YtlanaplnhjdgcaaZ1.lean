/-
  The walk of the law LeafTears.
  Conditions: what came in are bytes, bools and numbers of 64 bits.
-/
import Derived.Test.YtlanaplnhjdgcaaV1
import Derived.Test.YtlanaplnhjdgcaaZ0
namespace Go.Proofs.Ytlanaplnhjdgcaa
open Go.RowKit

theorem exec_neq_same {op : Oper} {a : Act} (u v : Operand) (ho : op.op = .binOp .neq 22 u v 22) (x : Pg) (w : World) (hu : a.eval u = .agg (pgA x)) (hv : a.eval v = .agg (pgA x)) :
    (execOp a.eval op).run Try.prog w = .ok (.value (.bool false)) w := by
  have := exec_neq_pg (op := op) (a := a) u v ho x x w hu hv
  rwa [beq_self_eq_true] at this
theorem wp_load_pg {op : Oper} {a : Act} {w : World} {K : Act → World → Prop} {Q : Exit → Act → World → Prop} (d : Nat) (x : Operand) (hop : op.dst = some d) (ho : op.op = .load 22 x)
    (g : Nat) (hx : a.eval x = .pointer (some ⟨g, 0, none⟩)) (p : Pg) (hc : RowAt w g 22 p.toList) (h : K (a.put (some d) (.agg (pgA p))) w) : Oper.wp Try.prog op a w K Q := by
  refine wp_load_mid 22 x ho g 0 hx (pg p) _ hc.all Try.underlying22 rfl (by rw [pg_length]; exact pg_size) ?_
  rw [hop]
  exact h
theorem wpList_load_pgG {ops : Array Oper} {rest : List Oper} {op : Oper} {a : Act} {w : World} {Q : Exit → Act → World → Prop} (d : Nat) (x : Operand) (hop : op.dst = some d) (ho : op.op = .load 22 x) (hw : Region.wanted op (yielded ops a.tmps) = true)
    (g : Nat) (hx : a.eval x = .pointer (some ⟨g, 0, none⟩)) (p : Pg) (hc : RowAt w g 22 p.toList)
    (h : wpList Try.prog ops Q rest (a.put (some d) (.agg (pgA p))) w) : wpList Try.prog ops Q (op :: rest) a w := by
  rw [wpList, if_pos hw]
  left
  exact wp_load_pg d x hop ho g hx p hc h

set_option maxRecDepth 20000 in
set_option maxHeartbeats 8000000 in
theorem tears_out (base n a b : Int) (f s : Int) (k kc : Nat) (K : Option Addr) (w : World) (h : base < 0 ∨ 8 < base ∨ n < 0 ∨ 3 < n ∨ f = s ∨ 30 < k) :
    Calls Try.prog 4 #[.int .i64 base, .int .i64 n, .int .u8 a, .int .u8 b, .int .u64 f, .int .u64 s, .slice K k kc] w fun e w' => e = .returned (.bool true) ∧ Below w.heap.size w w' := by
  have key : base < 0 ∨ (0 ≤ base ∧ 8 < base) ∨ (0 ≤ base ∧ base ≤ 8 ∧ n < 0) ∨ (0 ≤ base ∧ base ≤ 8 ∧ 0 ≤ n ∧ 3 < n) ∨ (0 ≤ base ∧ base ≤ 8 ∧ 0 ≤ n ∧ n ≤ 3 ∧ (f == s) = true) ∨ (0 ≤ base ∧ base ≤ 8 ∧ 0 ≤ n ∧ n ≤ 3 ∧ (f == s) = false ∧ 30 < k) := by
    simp only [beq_iff_eq, beq_eq_false_iff_ne]
    omega
  clear h
  rcases key with k1 | ⟨k1, k2⟩ | ⟨k1, k2, k3⟩ | ⟨k1, k2, k3, k4⟩ | ⟨k1, k2, k3, k4, k5⟩ | ⟨k1, k2, k3, k4, k5, k6⟩
  all_goals
    (go_enter Try.func4, Try.ntmps4
     go_wp2_with fail
     refine (works_any _).mono ?_
     rintro e w1 ⟨rfl, hb⟩
     go_wp2_with fail
     go_ret
     exact ⟨rfl, hb⟩)

set_option maxRecDepth 20000 in
set_option maxHeartbeats 16000000 in
theorem tears_in (m0 m : Nat) (a b : Int) (f s : Nat) (k kc : Nat) (K : Option Addr) (kl : List Bool) (w : World) (h8 : m0 ≤ 8) (h3 : m ≤ 3) (hne : f ≠ s) (hk : k ≤ 30) (hf : f < 18446744073709551616) (hs : s < 18446744073709551616)
    (ha : 0 ≤ a) (ha2 : a < 256) (hb : 0 ≤ b) (hb2 : b < 256) (hK : Lz (fun _ => False) w 1 K k (BL kl)) (hkc : k ≤ kc) (hkm : kc ≤ maxLen) :
    Calls Try.prog 4 #[.int .i64 m0, .int .i64 m, .int .u8 a, .int .u8 b, .int .u64 f, .int .u64 s, .slice K k kc] w fun e w' => e = .returned (.bool true) ∧ Below w.heap.size w w' := by
  have hzero := (zero_of_info pg_info).1
  have hinfo := Lib.hid (zero_of_info pg_info).2
  have hkl : kl.length = k := by have := hK.len; rw [BL_length] at this; omega
  obtain ⟨be, hbe⟩ : ∃ be : Nat, be = (m + 1) % 4 := ⟨_, rfl⟩
  have e1 : ((m : Int) + 1) % 4 = (be : Int) := by omega
  have e2 : ((m : Int) + 1).tmod 4 = (be : Int) := by rw [Int.tmod_eq_emod_of_nonneg (by omega)]; exact e1
  have hbe3 : be ≤ 3 := by omega
  have hbm : be ≠ m := by omega
  have hfs : (((f : Int)) == (s : Int)) = false := by rw [beq_eq_false_iff_ne]; omega
  have OKA := Lib.hid (fill_ok a 1 ha ha2 (by omega) (by omega))
  have OKB := Lib.hid (fill_ok b 2 hb hb2 (by omega) (by omega))
  have OK9 := Lib.hid (fill_ok 9 9 (by omega) (by omega) (by omega) (by omega))
  have HF := Lib.hid hf
  have HS := Lib.hid hs
  have HNE := Lib.hid hne
  have HK := Lib.hid hK
  have HKL := Lib.hid hkl
  have SL : Hid ((List.replicate 24 zsec).length = 24) := List.length_replicate
  clear hf hs hne hK hkl ha ha2 hb hb2 hbe
  go_enter Try.func4, Try.ntmps4
  go_wp2_with fail
  refine (new_ok (fun _ => False) 24 _ (by omega) (by omega)).mono ?_
  rintro e w1 ⟨g, gs, rfl, hg1, hg2, hp1, hb1⟩
  have P1 := Lib.hid hp1
  have B1 := Lib.hid hb1
  have OWN : Hid (∀ k, own g gs k → w.heap.size ≤ k) := fun k hk => by rcases hk with rfl | rfl; exact hg1; exact hg2
  clear hp1 hb1 hg1 hg2
  go_wp2_with fail
  refine (filled_any a 1 _).mono ?_
  rintro e w2 ⟨rfl, hb2⟩
  have P2 := Lib.hid (P1.out.below hb2)
  have B2 : Hid (Below w.heap.size w w2) := B1.out.trans (hb2.mono B1.out.size)
  clear hb2
  go_wp2_with fail
  refine (lwrite_ok (fun _ => False) g gs (List.replicate 24 zsec) 0 (-1) [] _ m0 m f (fillP a 1) P2.out (by rw [SL.out]; omega) (by rw [SL.out]; omega) (fun _ h => h.elim) (by omega) (by omega) (by omega) (by omega) (by omega)).mono ?_
  rintro e w3 ⟨rfl, hp3, hm3⟩
  rw [if_neg (by omega)] at hp3
  obtain ⟨S1, hS1⟩ : ∃ S1, S1 = upd (List.replicate 24 zsec) (m0 + 4 * m) (puts (fillP a 1) f) (fun _ => true) := ⟨_, rfl⟩
  rw [← hS1] at hp3
  have L1 : Hid (S1.length = 24) := by show _ = _; rw [hS1, upd_length, SL.out]
  have H1 : Hid ((S1.drop (m0 + 4 * m)).take 4 = puts (fillP a 1) f) := by
    show _ = _
    rw [hS1]
    exact upd_here (List.replicate 24 zsec) (m0 + 4 * m) (puts (fillP a 1) f) (by rw [SL.out, show (puts (fillP a 1) f).length = 4 from rfl]; omega)
  have P3 := Lib.hid hp3
  have B3 : Hid (Below w.heap.size w w3) := hm3.below B2.out OWN.out B2.out.size
  clear hp3 hm3 hS1
  go_wp2_with fail
  refine (filled_any 9 9 _).mono ?_
  rintro e w4 ⟨rfl, hb4⟩
  have P4 := Lib.hid (P3.out.below hb4)
  have B4 : Hid (Below w.heap.size w w4) := B3.out.trans (hb4.mono B3.out.size)
  clear hb4
  go_wp2_with fail
  refine (lwrite_ok (fun _ => False) g gs S1 (0 + 1) (-1) [] _ m0 be 9 (fillP 9 9) P4.out (by rw [L1.out]; omega) (by rw [L1.out]; omega) (fun _ h => h.elim) (by omega) (by omega) (by omega) (by omega) (by omega)).mono ?_
  rintro e w5 ⟨rfl, hp5, hm5⟩
  rw [if_neg (by omega)] at hp5
  obtain ⟨S2, hS2⟩ : ∃ S2, S2 = upd S1 (m0 + 4 * be) (puts (fillP 9 9) 9) (fun _ => true) := ⟨_, rfl⟩
  rw [← hS2] at hp5
  have L2 : Hid (S2.length = 24) := by show _ = _; rw [hS2, upd_length, L1.out]
  have H2 : Hid ((S2.drop (m0 + 4 * m)).take 4 = puts (fillP a 1) f) := by
    show _ = _
    rw [hS2, upd_there S1 (m0 + 4 * be) (puts (fillP 9 9) 9) _ (m0 + 4 * m) 4 (by rw [show (puts (fillP 9 9) 9).length = 4 from rfl]; omega)]
    exact H1.out
  have G2 : Hid ((S2.drop (m0 + 4 * be)).take 4 = puts (fillP 9 9) 9) := by
    show _ = _
    rw [hS2]
    exact upd_here S1 (m0 + 4 * be) (puts (fillP 9 9) 9) (by rw [L1.out, show (puts (fillP 9 9) 9).length = 4 from rfl]; omega)
  have P5 := Lib.hid hp5
  have B5 : Hid (Below w.heap.size w w5) := hm5.below B4.out OWN.out B4.out.size
  clear hp5 hm5 hS2
  go_wp2_with fail
  refine (fuse_any (fun _ => False) g gs S2 (0 + 1 + 1) (-1) [] false _ 0 K k kc kl P5.out ((HK.out.below B5.out).spot |> fun hsp => ⟨(HK.out).len, fun hn => by obtain ⟨bb, oo, e, _, hlt, hr⟩ := hsp hn; exact ⟨bb, oo, e, fun ho => by have h1 := OWN.out _ ho; obtain ⟨bb', oo', e', _, hlt', _⟩ := HK.out.spot hn; rw [e] at e'; injection e' with e'; injection e' with e1' _; omega, hlt, hr⟩⟩) hkc hkm (by rw [L2.out]; omega) (fun _ h => h.elim)).mono ?_
  rintro e w6 ⟨rfl, hp6, hm6⟩
  rw [L2.out] at hp6
  have P6 := Lib.hid hp6
  have B6 : Hid (Below w.heap.size w w6) := hm6.below B5.out OWN.out B5.out.size
  clear hp6 hm6
  go_wp2_with fail
  refine (filled_any b 2 _).mono ?_
  rintro e w7 ⟨rfl, hb7⟩
  have P7 := Lib.hid (P6.out.below hb7)
  have B7 : Hid (Below w.heap.size w w7) := B6.out.trans (hb7.mono B6.out.size)
  clear hb7
  go_wp2_with fail
  refine (lwrite_torn (fun _ => False) g gs S2 (0 + 1 + 1) (kl.take 24) _ m0 m s (fillP b 2) P7.out (by rw [L2.out]; omega) (by rw [L2.out]; omega) (fun _ h => h.elim) (by rw [List.length_take]; omega)).mono ?_
  rintro e w8 ⟨rfl, hp8, hm8⟩
  obtain ⟨S3, hS3⟩ : ∃ S3, S3 = upd S2 (m0 + 4 * m) (puts (fillP b 2) s) (fun j => (kl.take 24).getD j false) := ⟨_, rfl⟩
  rw [← hS3] at hp8
  have L3 : Hid (S3.length = 24) := by show _ = _; rw [hS3, upd_length, L2.out]
  have H3 : Hid ((S3.drop (m0 + 4 * m)).take 4 = mix (fillP a 1) (fillP b 2) f s (fun j => kl.getD j false)) := by
    show _ = _
    rw [hS3, torn_mix S2 (m0 + 4 * m) (fillP a 1) (fillP b 2) f s _ (by rw [L2.out]; omega) H2.out]
    exact mix_congr _ _ _ _ _ _ fun j hj => getD_take kl 24 j (by omega)
  have G3 : Hid ((S3.drop (m0 + 4 * be)).take 4 = puts (fillP 9 9) 9) := by
    show _ = _
    rw [hS3, upd_there S2 (m0 + 4 * m) (puts (fillP b 2) s) _ (m0 + 4 * be) 4 (by rw [show (puts (fillP b 2) s).length = 4 from rfl]; omega)]
    exact G2.out
  have P8 := Lib.hid hp8
  have B8 : Hid (Below w.heap.size w w8) := hm8.below B7.out OWN.out B7.out.size
  clear hp8 hm8 hS3
  go_wp2_with fail
  refine (up_any (fun _ => False) g gs S3 _ _ _ _ _ P8.out (by rw [L3.out]; omega) (fun _ h => h.elim)).mono ?_
  rintro e w9 ⟨rfl, hp9, hm9⟩
  have P9 := Lib.hid hp9
  have B9 : Hid (Below w.heap.size w w9) := hm9.below B8.out OWN.out B8.out.size
  clear hp9 hm9
  have HK9 := Lib.hid (HK.out.below B9.out)
  clear P1 P2 P3 P4 P5 P6 P7 P8 B1 B2 B3 B4 B5 B6 B7 B8 H1 H2 G2 L1 L2 SL
  go_wp2_with fail
  go_loopw [18, 19] (fun c i wr => ∃ q : Nat, q ≤ 4 ∧ i = .int .i64 q ∧ c = .int .i64 (cnt (fun j => kl.getD j false) q) ∧ wr = w9) (fun _ i _ => 4 - (intOf i).toNat)
  case atStart => exact ⟨0, Nat.zero_le _, rfl, rfl, rfl⟩
  case round =>
    obtain ⟨q, hq, rfl, rfl, rfl⟩ := hrel
    have hcl := cnt_le (fun j => kl.getD j false) q
    obtain ⟨cq, hcq⟩ : ∃ cq, cq = cnt (fun j => kl.getD j false) q := ⟨_, rfl⟩
    have HCQ := Lib.hid hcq
    rw [← hcq] at hcl ⊢
    clear hcq
    by_cases hlt : q < 4
    · have STEP : Hid (cnt (fun j => kl.getD j false) (q + 1) = cq + if kl.getD q false then 1 else 0) := by
        show _ = _
        rw [cnt, ← HCQ.out]
      by_cases hql : q < k
      · obtain ⟨bK, oK, u, rfl, _, _, hu, hc⟩ := HK9.out.get hql
        have hql2 : q < kl.length := by rw [HKL.out]; exact hql
        rw [BL_get kl q hql2] at hu
        injection hu with hu
        subst hu
        have hgd : kl.getD q false = kl[q] := by simp [List.getD, hql2]
        rw [hgd] at STEP
        generalize kl[q] = z at *
        clear hgd
        cases z with
        | true =>
          have ST := STEP.out
          rw [if_pos rfl] at ST
          have STH := Lib.hid ST
          clear ST STEP
          go_wp2_with fail
          exact ⟨⟨q + 1, by omega, by go_num, by rw [STH.out]; go_num, trivial⟩, by simp [intOf]; omega⟩
        | false =>
          have ST := STEP.out
          rw [if_neg (by simp)] at ST
          have STH := Lib.hid ST
          clear ST STEP
          go_wp2_with fail
          exact ⟨⟨q + 1, by omega, by go_num, by rw [STH.out]; rfl, trivial⟩, by simp [intOf]; omega⟩
      · have hgd : kl.getD q false = false := by rw [List.getD_eq_getElem?_getD, List.getElem?_eq_none (by rw [HKL.out]; omega)]; rfl
        have ST := STEP.out
        rw [hgd, if_neg (by simp)] at ST
        have STH := Lib.hid ST
        clear ST STEP hgd
        go_wp2_with fail
        exact ⟨⟨q + 1, by omega, by go_num, by rw [STH.out]; rfl, trivial⟩, by simp [intOf]; omega⟩
    · obtain rfl : q = 4 := by omega
      go_wp2_with fail
      obtain ⟨T, hT⟩ : ∃ T, T = mix (fillP a 1) (fillP b 2) f s (fun j => kl.getD j false) := ⟨_, rfl⟩
      have OKT : Hid (Oks T) := by rw [hT]; exact mix_oks _ _ _ _ _ OKA.out OKB.out
      rw [← hT] at H3
      have HT := Lib.hid hT
      clear hT
      have HRV : Hid (ReadV T = .tuple #[.agg (pgA (getP T)), .int .u64 (getM T), .bool (whole T), .int .i64 0]) := rfl
      obtain ⟨pp, hpp⟩ : ∃ pp, pp = getP T := ⟨_, rfl⟩
      obtain ⟨mm, hmm⟩ : ∃ mm, mm = getM T := ⟨_, rfl⟩
      obtain ⟨bb, hbb⟩ : ∃ bb, bb = whole T := ⟨_, rfl⟩
      rw [← hpp, ← hmm, ← hbb] at HRV
      have HPP := Lib.hid hpp
      have HMM := Lib.hid hmm
      have HBB := Lib.hid hbb
      clear hpp hmm hbb
      refine (lread_ok (fun _ => False) g gs S3 _ _ _ _ m0 m P9.out (by rw [L3.out]; omega) (by rw [L3.out]; omega) T H3.out OKT.out).mono ?_
      rintro e w10 ⟨rfl, hb10⟩
      rw [HRV.out]
      have P10 := Lib.hid (P9.out.below hb10)
      have B10 : Hid (Below w.heap.size w w10) := B9.out.trans (hb10.mono B9.out.size)
      clear hb10
      obtain ⟨b20, hb20⟩ : ∃ b20, b20 = w10.heap.size := ⟨_, rfl⟩
      have HB20E := Lib.hid hb20
      go_wp2_with (refine wpList_store_pg (.tmp 20) (.tmp 116) rfl rfl rfl w10.heap.size rfl pp zpg rfl (row_pg w10 zpg) ?_; rw [← hb20]; clear hb20; intro w11 h11 m11; have RA11 := Lib.hid h11; rw [HB20E.out] at m11; have HB11 := Lib.hid (below_new m11); clear h11 m11)
      have P11 := Lib.hid (P10.out.below HB11.out)
      have B11 : Hid (Below w.heap.size w w11) := B10.out.trans (HB11.out.mono B10.out.size)
      refine (lread_ok (fun _ => False) g gs S3 _ _ _ _ m0 be P11.out (by rw [L3.out]; omega) (by rw [L3.out]; omega) (puts (fillP 9 9) 9) G3.out (oks_puts _ 9 OK9.out)).mono ?_
      rintro e w12 ⟨rfl, hb12⟩
      rw [ReadV_puts (fillP 9 9) 9 (by omega)]
      have B12 : Hid (Below w.heap.size w w12) := B11.out.trans (hb12.mono B11.out.size)
      have RA12 := Lib.hid (RA11.out.below hb12)
      clear hb12
      obtain ⟨b24, hb24⟩ : ∃ b24, b24 = w12.heap.size := ⟨_, rfl⟩
      have HB24E := Lib.hid hb24
      go_wp2_with (refine wpList_store_pg (.tmp 24) (.tmp 125) rfl rfl rfl w12.heap.size rfl (fillP 9 9) zpg rfl (row_pg w12 zpg) ?_; rw [← hb24]; clear hb24; intro w13 h13 m13; have RB13 := Lib.hid h13; rw [HB24E.out] at m13; have HB13 := Lib.hid (below_new m13); clear h13 m13)
      have TB : Hid (Below w.heap.size w w13.drew) := below_drew (B12.out.trans (HB13.out.mono B12.out.size))
      have RA := Lib.hid ((RA12.out.below HB13.out).drew)
      have RB := Lib.hid RB13.out.drew
      clear P9 P10 P11 B9 B10 B11 B12 RA11 RA12 RB13 HB11 HB13 HB20E HB24E G3 L3 H3 OKT OK9 HK HK9 OWN
      have fin : ∀ wq : World, Below w13.drew.heap.size w13.drew wq → Below w.heap.size w wq := fun wq h => TB.out.trans (h.mono TB.out.size)
      have FIN := Lib.hid fin
      clear fin
      refine wp_region_held_drew (S := fun z => Below w13.drew.heap.size w13.drew z) (by kernel_rfl) (Below.refl _ _) (fun hS => ?_)
      generalize w13.drew = wS at *
      · skip
        refine takeH (i := 0) (d := 129) (v := ?vi0) rfl (by kernel_rfl) (by kernel_rfl) (by kernel_rfl) (fun _ _ _ h => h) rfl (by rfl) ?yi0 hS ?ri0
        case yi0 => (intro wz hz; go_simp <;> with_reducible rfl)
        simp only [List.setIfInBounds_toArray, List.set_cons_zero, List.set_cons_succ]
        refine takeH (i := 1) (d := 130) (v := ?vi1) rfl (by kernel_rfl) (by kernel_rfl) (by kernel_rfl) (fun _ _ _ h => h) rfl (by rfl) ?yi1 hS ?ri1
        case yi1 => (intro wz hz; go_simp <;> with_reducible rfl)
        simp only [List.setIfInBounds_toArray, List.set_cons_zero, List.set_cons_succ]
        refine takeH (i := 2) (d := 131) (v := ?vi2) rfl (by kernel_rfl) (by kernel_rfl) (by kernel_rfl) (fun _ _ _ h => h) rfl (by rfl) ?yi2 hS ?ri2
        case yi2 => (intro wz hz; go_simp <;> with_reducible rfl)
        simp only [List.setIfInBounds_toArray, List.set_cons_zero, List.set_cons_succ]
        refine takeH (i := 3) (d := 132) (v := ?vi3) rfl (by kernel_rfl) (by kernel_rfl) (by kernel_rfl) (fun _ _ _ h => h) rfl (by rfl) ?yi3 hS ?ri3
        case yi3 => (intro wz hz; go_simp <;> with_reducible rfl)
        simp only [List.setIfInBounds_toArray, List.set_cons_zero, List.set_cons_succ]
        refine takeH (i := 4) (d := 133) (v := ?vi4) rfl (by kernel_rfl) (by kernel_rfl) (by kernel_rfl) (fun _ _ _ h => h) rfl (by rfl) ?yi4 hS ?ri4
        case yi4 => (intro wz hz; go_simp <;> with_reducible rfl)
        simp only [List.setIfInBounds_toArray, List.set_cons_zero, List.set_cons_succ]
        refine takeH (i := 5) (d := 134) (v := ?vi5) rfl (by kernel_rfl) (by kernel_rfl) (by kernel_rfl) (fun _ _ _ h => h) rfl (by rfl) ?yi5 hS ?ri5
        case yi5 => (intro wz hz; go_simp <;> with_reducible rfl)
        simp only [List.setIfInBounds_toArray, List.set_cons_zero, List.set_cons_succ]
        refine takeH (i := 6) (d := 135) (v := ?vi6) rfl (by kernel_rfl) (by kernel_rfl) (by kernel_rfl) (fun _ _ _ h => h) rfl (by rfl) ?yi6 hS ?ri6
        case yi6 => (intro wz hz; go_simp <;> with_reducible rfl)
        simp only [List.setIfInBounds_toArray, List.set_cons_zero, List.set_cons_succ]
        refine takeH (i := 7) (d := 136) (v := ?vi7) rfl (by kernel_rfl) (by kernel_rfl) (by kernel_rfl) (fun _ _ _ h => h) rfl (by rfl) ?yi7 hS ?ri7
        case yi7 => (intro wz hz; go_simp <;> with_reducible rfl)
        simp only [List.setIfInBounds_toArray, List.set_cons_zero, List.set_cons_succ]
        refine takeH (i := 8) (d := 137) (v := ?vi8) rfl (by kernel_rfl) (by kernel_rfl) (by kernel_rfl) (fun _ _ _ h => h) rfl (by rfl) ?yi8 hS ?ri8
        case yi8 => (intro wz hz; go_simp <;> with_reducible rfl)
        simp only [List.setIfInBounds_toArray, List.set_cons_zero, List.set_cons_succ]
        refine takeH (i := 9) (d := 138) (v := ?vi9) rfl (by kernel_rfl) (by kernel_rfl) (by kernel_rfl) (fun _ _ _ h => h) rfl (by rfl) ?yi9 hS ?ri9
        case yi9 => (intro wz hz; go_simp <;> with_reducible rfl)
        simp only [List.setIfInBounds_toArray, List.set_cons_zero, List.set_cons_succ]
        refine takeH (i := 10) (d := 139) (v := ?vi10) rfl (by kernel_rfl) (by kernel_rfl) (by kernel_rfl) (fun _ _ _ h => h) rfl (by rfl) ?yi10 hS ?ri10
        case yi10 => (intro wz hz; go_simp <;> with_reducible rfl)
        simp only [List.setIfInBounds_toArray, List.set_cons_zero, List.set_cons_succ]
        refine takeH (i := 11) (d := 140) (v := .agg (pgA (fillP 9 9))) rfl (by kernel_rfl) (by kernel_rfl) (by kernel_rfl) (fun _ _ _ h => h) rfl (by rfl) ?yi11 hS ?ri11
        case yi11 => (intro wz hz; exact exec_load_pg (.tmp 24) rfl b24 rfl (fillP 9 9) (RB.out.under hz RB.out.lt))
        simp only [List.setIfInBounds_toArray, List.set_cons_zero, List.set_cons_succ]
        refine wpAnyH_ready (rs := [12]) (by kernel_rfl) (by simp) ?_
        refine AllReadyH.cons rfl (fun K hK => ?_) AllReadyH.nil
        go_simp
        refine (filled_any 9 9 _).mono ?_
        rintro e w30 ⟨rfl, hb⟩
        refine hK.out _ _ (hS.trans (hb.mono hS.size)) (fun hT => ?_)
        clear hK hb hS
        have hS := hT
        clear hT
        refine takeH (i := 13) (d := 142) (v := .bool false) rfl (by kernel_rfl) (by kernel_rfl) (by kernel_rfl) (fun _ _ _ h => h) rfl (by rfl) ?yi13 hS ?ri13
        case yi13 => (intro wz hz; exact exec_neq_same (.tmp 140) (.tmp 141) rfl (fillP 9 9) _ rfl rfl)
        simp only [List.setIfInBounds_toArray, List.set_cons_zero, List.set_cons_succ]
        refine takeH (i := 14) (d := 143) (v := ?vi14) rfl (by kernel_rfl) (by kernel_rfl) (by kernel_rfl) (fun _ _ _ h => h) rfl (by rfl) ?yi14 hS ?ri14
        case yi14 => (intro wz hz; go_simp <;> with_reducible rfl)
        simp only [List.setIfInBounds_toArray, List.set_cons_zero, List.set_cons_succ]
        refine takeH (i := 15) (d := 144) (v := ?vi15) rfl (by kernel_rfl) (by kernel_rfl) (by kernel_rfl) (fun _ _ _ h => h) rfl (by rfl) ?yi15 hS ?ri15
        case yi15 => (intro wz hz; go_simp <;> with_reducible rfl)
        simp only [List.setIfInBounds_toArray, List.set_cons_zero, List.set_cons_succ]
        refine takeH (i := 16) (d := 145) (v := ?vi16) rfl (by kernel_rfl) (by kernel_rfl) (by kernel_rfl) (fun _ _ _ h => h) rfl (by rfl) ?yi16 hS ?ri16
        case yi16 => (intro wz hz; go_simp <;> with_reducible rfl)
        simp only [List.setIfInBounds_toArray, List.set_cons_zero, List.set_cons_succ]
        refine takeH (i := 17) (d := 146) (v := ?vi17) rfl (by kernel_rfl) (by kernel_rfl) (by kernel_rfl) (fun _ _ _ h => h) rfl (by rfl) ?yi17 hS ?ri17
        case yi17 => (intro wz hz; go_simp <;> with_reducible rfl)
        simp only [List.setIfInBounds_toArray, List.set_cons_zero, List.set_cons_succ]
        refine takeH (i := 18) (d := 147) (v := ?vi18) rfl (by kernel_rfl) (by kernel_rfl) (by kernel_rfl) (fun _ _ _ h => h) rfl (by rfl) ?yi18 hS ?ri18
        case yi18 => (intro wz hz; go_simp <;> with_reducible rfl)
        simp only [List.setIfInBounds_toArray, List.set_cons_zero, List.set_cons_succ]
        refine wpAnyH_done (by kernel_rfl) ?_ _
        have HSX := Lib.hid hS
        clear hS
        have RA2 := Lib.hid (RA.out.below HSX.out)
        have hB2 : Hid (Below w.heap.size w w30) := FIN.out w30 HSX.out
        clear RB RA FIN TB HSX
        by_cases c0 : cq = 0
        · subst c0
          have hp : pp = fillP a 1 := by rw [HPP.out, HT.out, mix_none _ _ _ _ _ HCQ.out.symm, getP_puts _ _ HF.out]
          have hm : mm = f := by rw [HMM.out, HT.out, mix_none _ _ _ _ _ HCQ.out.symm, getM_puts _ _ HF.out]
          have hbq : bb = true := by rw [HBB.out, HT.out, mix_none _ _ _ _ _ HCQ.out.symm, whole_puts _ _ HF.out]
          subst hp hm hbq
          go_wp2_with fail
          have RA2 := Lib.hid RA2.out.drew
          have TB : Hid (Below w.heap.size w w30.drew) := below_drew hB2.out
          refine wp_region_held_drew (S := fun z => Below w30.drew.heap.size w30.drew z) (by kernel_rfl) (Below.refl _ _) (fun hS => ?_)
          generalize w30.drew = wS2 at *
          refine takeH (i := 0) (d := 151) (v := ?vj0) rfl (by kernel_rfl) (by kernel_rfl) (by kernel_rfl) (fun _ _ _ h => h) rfl (by rfl) ?yj0 hS ?rj0
          case yj0 => (intro wz hz; go_simp <;> with_reducible rfl)
          simp only [List.setIfInBounds_toArray, List.set_cons_zero, List.set_cons_succ]
          refine takeH (i := 1) (d := 152) (v := ?vj1) rfl (by kernel_rfl) (by kernel_rfl) (by kernel_rfl) (fun _ _ _ h => h) rfl (by rfl) ?yj1 hS ?rj1
          case yj1 => (intro wz hz; go_simp <;> with_reducible rfl)
          simp only [List.setIfInBounds_toArray, List.set_cons_zero, List.set_cons_succ]
          refine takeH (i := 2) (d := 153) (v := ?vj2) rfl (by kernel_rfl) (by kernel_rfl) (by kernel_rfl) (fun _ _ _ h => h) rfl (by rfl) ?yj2 hS ?rj2
          case yj2 => (intro wz hz; go_simp <;> with_reducible rfl)
          simp only [List.setIfInBounds_toArray, List.set_cons_zero, List.set_cons_succ]
          refine takeH (i := 3) (d := 154) (v := ?vj3) rfl (by kernel_rfl) (by kernel_rfl) (by kernel_rfl) (fun _ _ _ h => h) rfl (by rfl) ?yj3 hS ?rj3
          case yj3 => (intro wz hz; go_simp <;> with_reducible rfl)
          simp only [List.setIfInBounds_toArray, List.set_cons_zero, List.set_cons_succ]
          refine takeH (i := 4) (d := 155) (v := .bool true) rfl (by kernel_rfl) (by kernel_rfl) (by kernel_rfl) (fun _ _ _ h => h) rfl (by rfl) ?yj4 hS ?rj4
          case yj4 => (intro wz hz; go_simp)
          simp only [List.setIfInBounds_toArray, List.set_cons_zero, List.set_cons_succ]
          refine takeH (i := 5) (d := 156) (v := ?vj5) rfl (by kernel_rfl) (by kernel_rfl) (by kernel_rfl) (fun _ _ _ h => h) rfl (by rfl) ?yj5 hS ?rj5
          case yj5 => (intro wz hz; go_simp <;> with_reducible rfl)
          simp only [List.setIfInBounds_toArray, List.set_cons_zero, List.set_cons_succ]
          refine takeH (i := 6) (d := 157) (v := ?vj6) rfl (by kernel_rfl) (by kernel_rfl) (by kernel_rfl) (fun _ _ _ h => h) rfl (by rfl) ?yj6 hS ?rj6
          case yj6 => (intro wz hz; go_simp <;> with_reducible rfl)
          simp only [List.setIfInBounds_toArray, List.set_cons_zero, List.set_cons_succ]
          refine takeH (i := 7) (d := 158) (v := .agg (pgA (fillP a 1))) rfl (by kernel_rfl) (by kernel_rfl) (by kernel_rfl) (fun _ _ _ h => h) rfl (by rfl) ?yj7 hS ?rj7
          case yj7 => (intro wz hz; exact exec_load_pg (.tmp 20) rfl b20 rfl (fillP a 1) (RA2.out.under hz RA2.out.lt))
          simp only [List.setIfInBounds_toArray, List.set_cons_zero, List.set_cons_succ]
          refine takeH (i := 8) (d := 159) (v := ?vj8) rfl (by kernel_rfl) (by kernel_rfl) (by kernel_rfl) (fun _ _ _ h => h) rfl (by rfl) ?yj8 hS ?rj8
          case yj8 => (intro wz hz; go_simp <;> with_reducible rfl)
          simp only [List.setIfInBounds_toArray, List.set_cons_zero, List.set_cons_succ]
          refine wpAnyH_ready (rs := [9]) (by kernel_rfl) (by simp) ?_
          refine AllReadyH.cons rfl (fun K hK => ?_) AllReadyH.nil
          go_simp
          refine (filled_any a 1 _).mono ?_
          rintro e w30 ⟨rfl, hb⟩
          refine hK.out _ _ (hS.trans (hb.mono hS.size)) (fun hT => ?_)
          clear hK hb hS
          have hS := hT
          clear hT
          refine takeH (i := 10) (d := 161) (v := .bool true) rfl (by kernel_rfl) (by kernel_rfl) (by kernel_rfl) (fun _ _ _ h => h) rfl (by rfl) ?yj10 hS ?rj10
          case yj10 => (intro wz hz; exact exec_eql_same (.tmp 158) (.tmp 160) rfl (fillP a 1) _ rfl rfl)
          simp only [List.setIfInBounds_toArray, List.set_cons_zero, List.set_cons_succ]
          refine takeH (i := 11) (d := 162) (v := ?vj11) rfl (by kernel_rfl) (by kernel_rfl) (by kernel_rfl) (fun _ _ _ h => h) rfl (by rfl) ?yj11 hS ?rj11
          case yj11 => (intro wz hz; go_simp <;> with_reducible rfl)
          simp only [List.setIfInBounds_toArray, List.set_cons_zero, List.set_cons_succ]
          refine takeH (i := 12) (d := 163) (v := ?vj12) rfl (by kernel_rfl) (by kernel_rfl) (by kernel_rfl) (fun _ _ _ h => h) rfl (by rfl) ?yj12 hS ?rj12
          case yj12 => (intro wz hz; go_simp <;> with_reducible rfl)
          simp only [List.setIfInBounds_toArray, List.set_cons_zero, List.set_cons_succ]
          refine wpAnyH_ready (rs := [13]) (by kernel_rfl) (by simp) ?_
          refine AllReadyH.cons rfl (fun K hK => ?_) AllReadyH.nil
          go_simp
          refine (works_any _).mono ?_
          rintro e w30 ⟨rfl, hb⟩
          refine hK.out _ _ (hS.trans (hb.mono hS.size)) (fun hT => ?_)
          clear hK hb hS
          have hS := hT
          clear hT
          refine takeH (i := 14) (d := 165) (v := ?vj14) rfl (by kernel_rfl) (by kernel_rfl) (by kernel_rfl) (fun _ _ _ h => h) rfl (by rfl) ?yj14 hS ?rj14
          case yj14 => (intro wz hz; go_simp <;> with_reducible rfl)
          simp only [List.setIfInBounds_toArray, List.set_cons_zero, List.set_cons_succ]
          refine takeH (i := 15) (d := 14) (v := ?vj15) rfl (by kernel_rfl) (by kernel_rfl) (by kernel_rfl) (fun _ _ _ h => h) rfl (by rfl) ?yj15 hS ?rj15
          case yj15 => (intro wz hz; go_simp <;> with_reducible rfl)
          simp only [List.setIfInBounds_toArray, List.set_cons_zero, List.set_cons_succ]
          refine wpAnyH_done (by kernel_rfl) ?_ _
          have HSX := Lib.hid hS
          clear hS
          go_wp2_with fail
          go_ret
          exact ⟨rfl, TB.out.trans (HSX.out.mono TB.out.size)⟩
        by_cases c4 : cq = 4
        · subst c4
          have hp : pp = fillP b 2 := by rw [HPP.out, HT.out, mix_all _ _ _ _ _ HCQ.out.symm, getP_puts _ _ HS.out]
          have hm : mm = s := by rw [HMM.out, HT.out, mix_all _ _ _ _ _ HCQ.out.symm, getM_puts _ _ HS.out]
          have hbq : bb = true := by rw [HBB.out, HT.out, mix_all _ _ _ _ _ HCQ.out.symm, whole_puts _ _ HS.out]
          subst hp hm hbq
          go_wp2_with fail
          have RA2 := Lib.hid RA2.out.drew
          have TB : Hid (Below w.heap.size w w30.drew) := below_drew hB2.out
          refine wp_region_held_drew (S := fun z => Below w30.drew.heap.size w30.drew z) (by kernel_rfl) (Below.refl _ _) (fun hS => ?_)
          generalize w30.drew = wS2 at *
          refine takeH (i := 0) (d := 168) (v := ?vk0) rfl (by kernel_rfl) (by kernel_rfl) (by kernel_rfl) (fun _ _ _ h => h) rfl (by rfl) ?yk0 hS ?rk0
          case yk0 => (intro wz hz; go_simp <;> with_reducible rfl)
          simp only [List.setIfInBounds_toArray, List.set_cons_zero, List.set_cons_succ]
          refine takeH (i := 1) (d := 169) (v := ?vk1) rfl (by kernel_rfl) (by kernel_rfl) (by kernel_rfl) (fun _ _ _ h => h) rfl (by rfl) ?yk1 hS ?rk1
          case yk1 => (intro wz hz; go_simp <;> with_reducible rfl)
          simp only [List.setIfInBounds_toArray, List.set_cons_zero, List.set_cons_succ]
          refine takeH (i := 2) (d := 170) (v := ?vk2) rfl (by kernel_rfl) (by kernel_rfl) (by kernel_rfl) (fun _ _ _ h => h) rfl (by rfl) ?yk2 hS ?rk2
          case yk2 => (intro wz hz; go_simp <;> with_reducible rfl)
          simp only [List.setIfInBounds_toArray, List.set_cons_zero, List.set_cons_succ]
          refine takeH (i := 3) (d := 171) (v := ?vk3) rfl (by kernel_rfl) (by kernel_rfl) (by kernel_rfl) (fun _ _ _ h => h) rfl (by rfl) ?yk3 hS ?rk3
          case yk3 => (intro wz hz; go_simp <;> with_reducible rfl)
          simp only [List.setIfInBounds_toArray, List.set_cons_zero, List.set_cons_succ]
          refine takeH (i := 4) (d := 172) (v := .bool true) rfl (by kernel_rfl) (by kernel_rfl) (by kernel_rfl) (fun _ _ _ h => h) rfl (by rfl) ?yk4 hS ?rk4
          case yk4 => (intro wz hz; go_simp)
          simp only [List.setIfInBounds_toArray, List.set_cons_zero, List.set_cons_succ]
          refine takeH (i := 5) (d := 173) (v := ?vk5) rfl (by kernel_rfl) (by kernel_rfl) (by kernel_rfl) (fun _ _ _ h => h) rfl (by rfl) ?yk5 hS ?rk5
          case yk5 => (intro wz hz; go_simp <;> with_reducible rfl)
          simp only [List.setIfInBounds_toArray, List.set_cons_zero, List.set_cons_succ]
          refine takeH (i := 6) (d := 174) (v := ?vk6) rfl (by kernel_rfl) (by kernel_rfl) (by kernel_rfl) (fun _ _ _ h => h) rfl (by rfl) ?yk6 hS ?rk6
          case yk6 => (intro wz hz; go_simp <;> with_reducible rfl)
          simp only [List.setIfInBounds_toArray, List.set_cons_zero, List.set_cons_succ]
          refine takeH (i := 7) (d := 175) (v := .agg (pgA (fillP b 2))) rfl (by kernel_rfl) (by kernel_rfl) (by kernel_rfl) (fun _ _ _ h => h) rfl (by rfl) ?yk7 hS ?rk7
          case yk7 => (intro wz hz; exact exec_load_pg (.tmp 20) rfl b20 rfl (fillP b 2) (RA2.out.under hz RA2.out.lt))
          simp only [List.setIfInBounds_toArray, List.set_cons_zero, List.set_cons_succ]
          refine takeH (i := 8) (d := 176) (v := ?vk8) rfl (by kernel_rfl) (by kernel_rfl) (by kernel_rfl) (fun _ _ _ h => h) rfl (by rfl) ?yk8 hS ?rk8
          case yk8 => (intro wz hz; go_simp <;> with_reducible rfl)
          simp only [List.setIfInBounds_toArray, List.set_cons_zero, List.set_cons_succ]
          refine wpAnyH_ready (rs := [9]) (by kernel_rfl) (by simp) ?_
          refine AllReadyH.cons rfl (fun K hK => ?_) AllReadyH.nil
          go_simp
          refine (filled_any b 2 _).mono ?_
          rintro e w30 ⟨rfl, hb⟩
          refine hK.out _ _ (hS.trans (hb.mono hS.size)) (fun hT => ?_)
          clear hK hb hS
          have hS := hT
          clear hT
          refine takeH (i := 10) (d := 178) (v := .bool true) rfl (by kernel_rfl) (by kernel_rfl) (by kernel_rfl) (fun _ _ _ h => h) rfl (by rfl) ?yk10 hS ?rk10
          case yk10 => (intro wz hz; exact exec_eql_same (.tmp 175) (.tmp 177) rfl (fillP b 2) _ rfl rfl)
          simp only [List.setIfInBounds_toArray, List.set_cons_zero, List.set_cons_succ]
          refine takeH (i := 11) (d := 179) (v := ?vk11) rfl (by kernel_rfl) (by kernel_rfl) (by kernel_rfl) (fun _ _ _ h => h) rfl (by rfl) ?yk11 hS ?rk11
          case yk11 => (intro wz hz; go_simp <;> with_reducible rfl)
          simp only [List.setIfInBounds_toArray, List.set_cons_zero, List.set_cons_succ]
          refine takeH (i := 12) (d := 180) (v := ?vk12) rfl (by kernel_rfl) (by kernel_rfl) (by kernel_rfl) (fun _ _ _ h => h) rfl (by rfl) ?yk12 hS ?rk12
          case yk12 => (intro wz hz; go_simp <;> with_reducible rfl)
          simp only [List.setIfInBounds_toArray, List.set_cons_zero, List.set_cons_succ]
          refine wpAnyH_ready (rs := [13]) (by kernel_rfl) (by simp) ?_
          refine AllReadyH.cons rfl (fun K hK => ?_) AllReadyH.nil
          go_simp
          refine (works_any _).mono ?_
          rintro e w30 ⟨rfl, hb⟩
          refine hK.out _ _ (hS.trans (hb.mono hS.size)) (fun hT => ?_)
          clear hK hb hS
          have hS := hT
          clear hT
          refine takeH (i := 14) (d := 182) (v := ?vk14) rfl (by kernel_rfl) (by kernel_rfl) (by kernel_rfl) (fun _ _ _ h => h) rfl (by rfl) ?yk14 hS ?rk14
          case yk14 => (intro wz hz; go_simp <;> with_reducible rfl)
          simp only [List.setIfInBounds_toArray, List.set_cons_zero, List.set_cons_succ]
          refine takeH (i := 15) (d := 14) (v := ?vk15) rfl (by kernel_rfl) (by kernel_rfl) (by kernel_rfl) (fun _ _ _ h => h) rfl (by rfl) ?yk15 hS ?rk15
          case yk15 => (intro wz hz; go_simp <;> with_reducible rfl)
          simp only [List.setIfInBounds_toArray, List.set_cons_zero, List.set_cons_succ]
          refine wpAnyH_done (by kernel_rfl) ?_ _
          have HSX := Lib.hid hS
          clear hS
          go_wp2_with fail
          go_ret
          exact ⟨rfl, TB.out.trans (HSX.out.mono TB.out.size)⟩
        · have hw : whole T = false := by
            rw [HT.out]
            exact mix_torn _ _ _ _ _ (by rw [← HCQ.out]; exact c0) (by rw [← HCQ.out]; exact c4) HNE.out HF.out HS.out
          have hp : pp = zpg := by rw [HPP.out, getP, hw]; rfl
          have hm : mm = 0 := by rw [HMM.out, getM, hw]; rfl
          have hbq : bb = false := by rw [HBB.out]; exact hw
          subst hp hm hbq
          have d0 : ((cq : Int) == 0) = false := by rw [beq_eq_false_iff_ne]; omega
          have d4 : ((cq : Int) == 4) = false := by rw [beq_eq_false_iff_ne]; omega
          clear hw
          have ZB : Hid ((zpg == zpg) = true) := beq_self_eq_true _
          go_wp2_with (first
            | refine wpList_load_pgG 190 (.tmp 20) rfl rfl (by rfl) b20 rfl zpg RA2.out ?_
            | (go_at_call 18; refine (blank_any zpg _).mono ?_; rintro e w31 ⟨rfl, hb31⟩; rw [ZB.out]; have HB31 := Lib.hid hb31; clear hb31)
            | (go_at_call 6; refine (works_any _).mono ?_; rintro e w32 ⟨rfl, hb32⟩; have HB32 := Lib.hid hb32; clear hb32))
          go_ret
          have h31 := hB2.out.trans (HB31.out.mono hB2.out.size)
          exact ⟨rfl, h31.trans (HB32.out.mono h31.size)⟩
end Go.Proofs.Ytlanaplnhjdgcaa
