/-
  The walk of the reference's Cut.
  Conditions: at most 10000 bytes, positions of at most 1000000.
-/
import Derived.Test.YthicidpdgggbjaaDoorK3Q
namespace Go.Proofs.YthicidpdgggbjaaDoor
open Go.RowKit
set_option maxRecDepth 8000

theorem cutS_take_succ {l : List UInt8} {p k : Nat} (h : k < numSec l.length) : (cutS l p).take (k + 1) = (cutS l p).take k ++ [secOf (share l k) (p + k + 1) (k == 0) (k + 1 == numSec l.length)] := by
  have hk : k < (cutS l p).length := by rw [cutS_length]; exact h
  rw [List.take_succ_eq_append_getElem hk]
  congr 2
  have := cutS_get l p k h
  rw [List.getElem?_eq_getElem hk] at this
  exact Option.some.inj this
/-- At the head of each round over the sectors. -/
def RCR (w : World) (l : List UInt8) (p N : Nat) (o i : Value) (wr : World) : Prop :=
  ∃ (k : Nat) (A : Option Addr) (c : Nat), k ≤ N ∧ i = .int .i64 (k : Int) ∧ o = .slice A k c ∧ Hid (wr.ownsRow w.heap.size 68 64 (.slice A k c) k (flat ((cutS l p).take k))) ∧ Hid (Below w.heap.size w wr)
def padL (X : List UInt8) (q : Nat) : List Value := BC (X.take q) ++ List.replicate (64 - q) (.int .u8 0)
theorem padL_length {X : List UInt8} {q : Nat} (h : q ≤ X.length) (h2 : X.length ≤ 64) : (padL X q).length = 64 := by
  rw [padL, List.length_append, BC_length, List.length_take, List.length_replicate]
  omega
theorem padL_set {X : List UInt8} {q : Nat} (h : q < X.length) (h2 : X.length ≤ 64) : (padL X q).set q (.int .u8 (X[q].toNat : Int)) = padL X (q + 1) := by
  have hl : (BC (X.take q)).length = q := by rw [BC_length, List.length_take]; omega
  rw [padL, List.set_append_right _ _ (by omega), hl, Nat.sub_self, padL, List.take_succ_eq_append_getElem h, BC_append, List.append_assoc]
  congr 1
  rw [show 64 - q = (64 - (q + 1)) + 1 by omega, List.replicate_succ, List.set_cons_zero]
  simp [BC]
theorem padL_end {X : List UInt8} (h2 : X.length ≤ 64) : padL X X.length = sec (padS X) := by
  rw [padL, List.take_length, sec, padS_toList X h2, CL_append, CL_zero, BC_CL]
theorem padL_zero (X : List UInt8) : padL X 0 = sec zsec := by
  rw [padL, sec_zero]
  simp [BC]
/-- At the head of each round over the bytes of one sector. -/
def RIR (wr : World) (X : List UInt8) (n8 : Nat) (xv : Value) (g : Nat) (i : Value) (z : World) : Prop :=
  ∃ q : Nat, q ≤ n8 ∧ i = .int .i64 (q : Int) ∧ Hid (At z g 68 (padL X q).toArray) ∧ Hid (z.ownsRow wr.heap.size 5 1 xv n8 (BC X)) ∧ Hid (Below wr.heap.size wr z)
/-- What stands in a round: the row of this round's bytes, and nothing older has turned. -/
structure XS (wr : World) (xv : Value) (n8 : Nat) (X : List UInt8) (z : World) : Prop where
  own : z.ownsRow wr.heap.size 5 1 xv n8 (BC X)
  low : Below wr.heap.size wr z

theorem XS.mk' {wr z z' : World} {v v' : Value} {n n' : Nat} {xs ys : List Value} (hb : Below wr.heap.size wr z) (ho : z.ownsRow wr.heap.size 5 1 v n xs) (ho' : z'.ownsRow wr.heap.size 5 1 v' n' ys) (hg : z.grownBy z' v.ownBlock) (hs : wr.heap.size ≤ z.heap.size) :
    z'.ownsRow wr.heap.size 5 1 v' n' ys ∧ Below wr.heap.size wr z' := ⟨ho', below_own hb ho hg (Nat.le_refl _) hs⟩

set_option maxHeartbeats 3200000 in
theorem rcut_any (n c p : Nat) (A : Option Addr) (l : List UInt8) (w : World) (h : Lies w w.heap.size 1 A n (BC l)) (hn : n ≤ 10000) (hc : n ≤ c) (hp : p ≤ 1000000) :
    Calls Tryd.prog 19 #[.slice A n c, .int .i64 (p : Int)] w (RetS' w (cutS l p)) := by
  have hl : l.length = n := by have := h.len; rw [BC_length] at this; omega
  obtain ⟨i0, hi0, hz0, hz1, hz2⟩ := info_parts u8_info
  obtain ⟨i1, hi1, hy0, hy1, hy2⟩ := info_parts arr_info3
  have hzero := (zero_of_info pl_arr_info).1
  have hinfo := Lib.hid (zero_of_info pl_arr_info).2
  have HH := Lib.hid h
  have HL := Lib.hid hl
  obtain ⟨N, hN⟩ : ∃ N, numSec n = N := ⟨_, rfl⟩
  have hNle : N ≤ 200 := by rw [← hN]; unfold numSec; omega
  have e1 : ((n : Int) + 53) / 54 = (N : Int) := by rw [← hN]; unfold numSec; omega
  have HN := Lib.hid hN
  clear h hl hN
  go_enter Tryd.func19, Tryd.ntmps19
  go_wp2_with fail
  go_loopw [5, 7] (fun o i wr => RCR w l p N o i wr) (fun _ i _ => N - (intOf i).toNat)
  case atStart => exact ⟨0, none, 0, Nat.zero_le _, rfl, rfl, World.ownsRow_nil w w.heap.size 68 64, Below.refl _ _⟩
  case round =>
    obtain ⟨k, Ao, co, hk0, rfl, rfl, HO, HB⟩ := hrel
    by_cases hlt : k < N
    · obtain ⟨m, hm⟩ : ∃ m, m = p + k + 1 := ⟨_, rfl⟩
      have u5 : (p : Int) + (k : Int) + 1 = (m : Int) := by rw [hm]; omega
      have u6 : IntKind.u64.wrap (m : Int) = (m : Int) := by rw [IntKind.wrap_u64]; omega
      have hml : m < 18446744073709551616 := by omega
      have HM := Lib.hid hm
      clear hm
      go_upto_if 29 with (go_at_call 43; refine (wrefPut_any 8 m 8 _ (by omega) (by omega) (by omega) hml).mono ?_; rintro e z1 hr; obtain ⟨A1, n1, c1, rfl, ho, hb⟩ := hr.n; have hpl := own_n ho; rw [putL_length] at hpl; obtain rfl : n1 = 8 := hpl.symm; have X1 := Lib.hid (XS.mk ho hb); clear ho hb hr hpl)
      obtain ⟨f, hf⟩ : ∃ f : Bool, f = (k == 0) := ⟨_, rfl⟩
      obtain ⟨la, hla⟩ : ∃ la : Bool, la = (k + 1 == N) := ⟨_, rfl⟩
      have HF := Lib.hid hf
      have HLA := Lib.hid hla
      clear hf hla
      go_cut [9] (fun s9 wx => s9 = .int .u8 ((flagN f false : Nat) : Int) ∧ Hid (XS wr (.slice A1 8 c1) 8 (putL m 8) wx))
      case first =>
        by_cases h0 : k = 0
        · have hd : ((k : Int) == 0) = true := by simp [h0]
          go_wp2_with fail
          go_meet
          exact ⟨by rw [HF.out, h0]; rfl, X1⟩
        · have hd : ((k : Int) == 0) = false := by simp [h0]
          go_wp2_with fail
          go_meet
          exact ⟨by rw [HF.out, show (k == 0) = false by simp [h0]]; rfl, X1⟩
      case rest =>
        obtain ⟨rfl, X2⟩ := hcut
        clear X1
        go_upto_if 35 with fail
        go_cut [9] (fun s9 wx => s9 = .int .u8 ((flagN f la : Nat) : Int) ∧ Hid (XS wr (.slice A1 8 c1) 8 (putL m 8) wx))
        case first =>
          by_cases h0 : k + 1 = N
          · have hd : ((k : Int) == (N : Int) - 1) = true := by simp; omega
            have hla : la = true := by rw [HLA.out]; simp [h0]
            subst hla
            have hfl : IntKind.u8.wrap (((flagN f false : Nat) : Int) + 2) = ((flagN f true : Nat) : Int) := by cases f <;> rfl
            have hfl2 : ((flagN f false : Nat) : Int) + 2 = ((flagN f true : Nat) : Int) := by cases f <;> rfl
            have hfm : ((flagN f true : Nat) : Int) % 256 = ((flagN f true : Nat) : Int) := by cases f <;> rfl
            generalize ((flagN f false : Nat) : Int) = fa at *
            generalize ((flagN f true : Nat) : Int) = fb at *
            go_wp2_with fail
            go_meet
            exact ⟨by first | rfl | rw [hfm], X2⟩
          · have hd : ((k : Int) == (N : Int) - 1) = false := by simp; omega
            have hla : la = false := by rw [HLA.out]; simp [h0]
            subst hla
            go_wp2_with fail
            go_meet
            exact ⟨rfl, X2⟩
        case rest =>
          obtain ⟨rfl, X3⟩ := hcut
          clear X2
          obtain ⟨fl, hfl⟩ : ∃ fl : Nat, fl = flagN f la := ⟨_, rfl⟩
          rw [← hfl]
          have hfl3 : fl ≤ 3 := by rw [hfl]; exact flagN_le f la
          have HFL := Lib.hid hfl
          clear hfl
          obtain ⟨q, hq⟩ : ∃ q, q = 54 * k := ⟨_, rfl⟩
          have e54 : 54 * (k : Int) = (q : Int) := by omega
          have hqn : q < n := by rw [hq]; have := HN.out; unfold numSec at this; omega
          have rt := fun W => run_tail (P := Tryd.prog) 59 5 Tryd.underlying59 u8_size A n c q (by omega) W
          have LT := Lib.hid (show Lies w w.heap.size 1 (tailA A c q) (n - q) (BC (l.drop q)) by have := HH.out.tailA (k := q) (by omega) hc; rw [BC_drop] at this; exact this)
          have HSH := Lib.hid (show share l k = (l.drop q).take 54 by rw [share, hq])
          have HQ := Lib.hid hq
          clear hq
          go_upto_if 44 with fail
          obtain ⟨mc, hmc⟩ : ∃ mc, min 54 (n - q) = mc := ⟨_, rfl⟩
          have hm54 : mc ≤ 54 := by omega
          have hm1 : 1 ≤ mc := by omega
          have HMC := Lib.hid hmc
          clear hmc e54
          go_cut [10] (fun s10 wx => ∃ Ap cp, s10 = .slice Ap mc cp ∧ Hid (Lies w w.heap.size 1 Ap mc (BC (share l k))) ∧ Hid (XS wr (.slice A1 8 c1) 8 (putL m 8) wx))
          case first =>
            by_cases h54 : 54 < n - q
            · have hd : decide ((54 : Int) < ((n - q : Nat) : Int)) = true := by simp; omega
              have rh := fun W => run_head (P := Tryd.prog) 59 5 Tryd.underlying59 u8_size (tailA A c q) (n - q) (c - q) 54 (by omega) W
              have e54 : mc = 54 := by have := HMC.out; omega
              go_wp2_with fail
              go_meet
              refine ⟨tailA A c q, c - q, by rw [e54], ?_, X3⟩
              show Lies _ _ _ _ _ _
              rw [HSH.out, e54]
              have := LT.out.head (k := 54) (by omega)
              simpa [BC] using this
            · have hd : decide ((54 : Int) < ((n - q : Nat) : Int)) = false := by simp; omega
              have e54 : mc = n - q := by have := HMC.out; omega
              go_wp2_with fail
              go_meet
              refine ⟨tailA A c q, c - q, by rw [e54], ?_, X3⟩
              show Lies _ _ _ _ _ _
              rw [HSH.out, e54, List.take_of_length_le (by rw [List.length_drop, HL.out]; omega)]
              exact LT.out
          case rest =>
            obtain ⟨Ap, cp, rfl, LP, X4⟩ := hcut
            clear X3 LT rt
            have u8m : IntKind.u8.wrap (mc : Int) = (mc : Int) := by rw [IntKind.wrap_u8]; omega
            obtain ⟨X, hX⟩ : ∃ X, X = secL (share l k) m f la := ⟨_, rfl⟩
            have hX2 : Hid ((BC (putL m 8) ++ BC ([UInt8.ofNat (fl : Int).toNat] ++ [UInt8.ofNat mc])) ++ BC (share l k) = BC X) := by
              show _ = _
              have hsl : (share l k).length = mc := by rw [share_len, ← HQ.out, HL.out]; exact HMC.out
              rw [hX, secL, hsl, ← HFL.out, ← BC_append, ← BC_append, Int.toNat_natCast, List.append_assoc]
              rfl
            obtain ⟨n8, hn8⟩ : ∃ n8, n8 = 8 + 2 + mc := ⟨_, rfl⟩
            have HXL := Lib.hid (show X.length = n8 by rw [hX, secL_length, hn8, share_len, ← HQ.out, HL.out, HMC.out])
            have HXE := Lib.hid hX
            have h864 : n8 ≤ 64 := by omega
            have HN8 := Lib.hid hn8
            clear hX hn8
            go_wp2_with (first
              | (at_builtin; refine wpList_app2 _ rfl (.tmp 47) (.tmp 52) _ rfl wr.heap.size 5 i0 _ 1 1 Tryd.underlying59 hi0 hz0 hz1 hz2 rfl (by omega) _ 8 _ rfl (X4.out.own.alloc _) _ _ 2 _ _ rfl (lies_b2 _ (fl : Int) mc 5 (by omega) (by omega) (by omega)) (BC_one _) (by omega) (by simp only [maxLen]; omega) (by omega) (by have := X4.out.low.size; simp; omega) ?_
                 intro v2 z2 ho2 hg2 _
                 have X5 := Lib.hid (XS.mk' (X4.out.low.alloc X4.out.low.size _) (X4.out.own.alloc _) ho2 hg2 (by have := X4.out.low.size; simp; omega))
                 clear ho2 hg2)
              | (at_builtin; refine wpList_app2 _ rfl (.tmp 54) (.tmp 55) _ rfl wr.heap.size 5 i0 _ 1 1 Tryd.underlying59 hi0 hz0 hz1 hz2 rfl (by omega) _ _ _ rfl X5.out.1 _ _ mc _ _ rfl (LP.out.under (HB.out.trans (X5.out.2.mono HB.out.size))) (BC_one _) (by omega) (by simp only [maxLen]; omega) (by omega) X5.out.2.size ?_
                 intro v3 z3 ho3 hg3 _
                 rw [hX2.out, ← HN8.out] at ho3
                 have X6 := Lib.hid (XS.mk ho3 (below_own X5.out.2 X5.out.1 hg3 (Nat.le_refl _) X5.out.2.size))
                 clear ho3 hg3))
            obtain ⟨Ax, cx, rfl, hcx, _⟩ := own_slice X6.out.1
            obtain ⟨g, hg⟩ : ∃ g, g = z3.heap.size := ⟨_, rfl⟩
            have R0 : Hid (RIR wr X n8 (.slice Ax n8 cx) g (.int .i64 0) (z3.alloc (.cells (secA zsec) 68))) :=
              ⟨0, Nat.zero_le _, rfl, by rw [hg, padL_zero]; exact At.new z3 68 (secA zsec), X6.out.1.alloc _, X6.out.2.alloc X6.out.2.size _⟩
            rw [← hg]
            have HG := Lib.hid (show wr.heap.size ≤ g by rw [hg]; exact X6.out.2.size)
            generalize z3.alloc (.cells (secA zsec) 68) = z4 at *
            clear hg X6
            go_loopw [12] (fun i z => RIR wr X n8 (.slice Ax n8 cx) g i z) (fun i _ => n8 - (intOf i).toNat)
            case atStart => exact R0
            case round =>
              clear R0
              obtain ⟨q1, hq1, rfl, HA, HO1, HB1⟩ := hrel
              by_cases hl1 : q1 < n8
              · obtain ⟨ax, u, rfl, hax, hu, hcu⟩ := (Lies.of_own HO1.out).get hl1
                have hqX : q1 < X.length := by rw [HXL.out]; exact hl1
                rw [BC_get X q1 hqX] at hu
                injection hu with hu
                subst hu
                have q64 : q1 < 64 := by omega
                have PS := Lib.hid (padL_set hqX (by rw [HXL.out]; exact h864))
                have PL := Lib.hid (padL_length (X := X) (q := q1) (by omega) (by rw [HXL.out]; exact h864))
                generalize (X[q1].toNat : Int) = uv at *
                go_wp2_with (refine wpList_store_cell 5 (.tmp 68) (.tmp 67) rfl rfl rfl g q1 rfl (.int .u8 uv) rfl rfl (by kernel_rfl) (padL X q1).toArray 68 (by rw [List.size_toArray, PL.out]; exact q64) HA.out ?_
                             intro z5 h5 g5
                             rw [List.setIfInBounds_toArray, PS.out] at h5
                             have H5 := Lib.hid h5
                             have O5 := Lib.hid (own_keep HO1.out fun gg hgg => g5.block gg (by obtain ⟨_, cur, hc⟩ := own_cells HO1.out hgg; exact (Array.getElem?_eq_some_iff.1 hc).1) (by rw [← hgg]; exact fun e => own_ne HO1.out HA.out (by decide) e.symm))
                             have B5 := Lib.hid (HB1.out.grown g5 HB1.out.size (fun kk hk => by injection hk with hk; have := HG.out; omega))
                             clear h5 g5)
                exact ⟨⟨q1 + 1, by omega, by go_num, H5, O5, B5⟩, by simp [intOf]; omega⟩
              · obtain rfl : q1 = n8 := by omega
                have SE : Hid (padL X q1 = sec (secOf (share l k) m f la)) := by
                  show _ = _
                  have := padL_end (X := X) (by rw [HXL.out]; exact h864)
                  rw [HXL.out] at this
                  rw [this, HXE.out, secOf]
                have HA2 := Lib.hid (HA.out.eqL SE.out)
                have HOO := Lib.hid (own_under HO.out HB1.out (Nat.le_refl _))
                have TK : Hid (flat ((cutS l p).take k) ++ sec (secOf (share l k) m f la) = flat ((cutS l p).take (k + 1))) := by
                  show _ = _
                  rw [cutS_take_succ (by rw [HL.out, HN.out]; exact hlt), flat_append, flat_single, HM.out, HF.out, HLA.out, HL.out, HN.out]
                clear HA SE
                go_wp2_with (first
                  | (refine wpList_load_at 68 70 (.tmp 11) rfl rfl rfl g rfl (secA (secOf (share l k) m f la)) 64 strS (secA_size _) HA2.out ?_)
                  | refine wpList_lit1 rfl (.tmp 70) 62 68 64 _ (secA (secOf (share l k) m f la)) rfl rfl Tryd.underlying62 pl_arr_info (by omega) (by omega) (secA_size _) ?_
                  | (at_builtin; refine wpList_app2 _ rfl (.tmp 69) (.tmp 71) _ rfl w.heap.size 68 i1 _ 64 64 Tryd.underlying62 hi1 hy0 hy1 hy2 (secA_size _) (by omega) _ k _ rfl (HOO.out.alloc _) _ _ 1 _ _ rfl (lies_newC _ (sec (secOf (share l k) m f la)) 68 64 (sec_length _)) (sec_one _) (by omega) (by simp only [maxLen]; omega) (by omega) (by have := HB.out.size; have := HB1.out.size; simp; omega) ?_
                     intro v6 z6 ho6 hg6 _
                     rw [TK.out] at ho6
                     have O6 := Lib.hid ho6
                     have B6 := Lib.hid (below_own ((HB.out.trans (HB1.out.mono HB.out.size)).alloc (by have := HB.out.size; have := HB1.out.size; omega) _) (HOO.out.alloc _) hg6 (Nat.le_refl _) (by have := HB.out.size; have := HB1.out.size; simp; omega))
                     clear ho6 hg6))
                obtain ⟨A6, c6, rfl, _⟩ := own_slice O6.out
                exact ⟨⟨k + 1, A6, c6, by omega, by go_num, rfl, O6, B6⟩, by simp [intOf]; omega⟩
    · obtain rfl : k = N := by omega
      go_wp2_with fail
      go_ret
      have ho := HO.out
      rw [List.take_of_length_le (by rw [cutS_length, HL.out, HN.out]; exact Nat.le_refl _)] at ho
      have hlen : (cutS l p).length = k := by rw [cutS_length, HL.out, HN.out]
      exact ⟨Ao, co, by rw [hlen]; rfl, by rw [hlen]; exact ho, HB.out⟩
end Go.Proofs.YthicidpdgggbjaaDoor
