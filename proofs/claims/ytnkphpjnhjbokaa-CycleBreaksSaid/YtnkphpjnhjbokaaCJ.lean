/-
  The document's Step, Far, Reach.
  Conditions: at most 1000 arcs.
-/
import Derived.Test.YtnkphpjnhjbokaaCI
namespace Go.Proofs.Ytnkphpjnhjbokaa
open Go.RowKit
attribute [local go_sem] Oper.semAt_some
set_option maxRecDepth 20000

theorem RowS.lift {w0 w1 z : World} {F : List Nat} {v : Value} (hb : Below w0.heap.size w0 w1) (h : RowS w1 F v z) : RowS w0 F v z := ⟨hb.trans (h.below.mono hb.size), own_base h.own hb.size⟩
theorem RetU.lift {w0 w1 z : World} {F : List Nat} {e : Ending} (hb : Below w0.heap.size w0 w1) (h : RetU w1 F e z) : RetU w0 F e z := by
  obtain ⟨A, c, h1, h2⟩ := h
  exact ⟨A, c, h1, h2.lift hb⟩
/-- The same with the length as a name. -/
theorem RetU.named {w z : World} {F : List Nat} {e : Ending} {n : Nat} (h : RetU w F e z) (hn : F.length = n) : ∃ A c, e = .returned (.slice A n c) ∧ RowS w F (.slice A n c) z := by
  obtain ⟨A, c, h1, h2⟩ := h
  rw [hn] at h1 h2
  exact ⟨A, c, h1, h2⟩
theorem in_is (A : Option Addr) (n c : Nat) (l : List Nat) (x : Nat) (b : Bool) (hb : decide (x ∈ l) = b) (w : World) (h : Lz (fun _ => False) w 1 A n (UC l)) (hn : n ≤ 100000) :
    Calls Try.prog 27 #[.slice A n c, .int .u64 (x : Int)] w (RetB w (.bool b)) := by
  rw [← hb]
  exact in_any A n c l x w h hn
set_option maxHeartbeats 3200000 in
theorem Step_any (A : Option Addr) (n c : Nat) (l : List Ar) (AR : Option Addr) (nr cr : Nat) (row : List Nat) (w : World) (h : Lz (fun _ => False) w 2 A n (arL l)) (hr : Lz (fun _ => False) w 1 AR nr (UC row)) (hn : n ≤ 1000) (hnr : nr ≤ 100000) :
    Calls Try.prog 26 #[.slice A n c, .slice AR nr cr] w (RetU w (stepU l row [])) := by
  have hlen := h.arlen
  have HL := Lib.hid h
  have HRW := Lib.hid hr
  clear h hr
  go_enter Try.func26, Try.ntmps26
  go_wp2_with fail
  go_loopw [5, 6] (fun vo vi wr => ∃ (k : Nat) (F : List Nat) (B : Option Addr) (nF cF : Nat), k ≤ n ∧ nF ≤ k ∧ vo = .slice B nF cF ∧ vi = .int .i64 (k : Int) ∧ Hid (stepU (l.take k) row [] = F) ∧ Hid (F.length = nF) ∧ Hid (RowS w F (.slice B nF cF) wr)) (fun _ i _ => n - (intOf i).toNat)
  case atStart => exact ⟨0, [], none, 0, 0, Nat.zero_le _, Nat.le_refl _, rfl, rfl, Lib.hid rfl, Lib.hid rfl, Lib.hid (RowS.nil w)⟩
  case round =>
    obtain ⟨k, F, B, nF, cF, hk, hnF, rfl, rfl, HF, HN, HR⟩ := hrel
    by_cases hlt : k < n
    · obtain ⟨g, o, hl, rfl, hb, hc⟩ := HL.out.ar hlt
      have hst := stepU_take row hl
      rw [HF.out] at hst
      obtain ⟨y, hy⟩ : ∃ y, l[k] = y := ⟨_, rfl⟩
      rw [hy] at hc hst
      obtain ⟨y1, y2⟩ := y
      dsimp only at hst
      have hc1 := hc 0 _ rfl
      have hc2 := hc 1 _ rfl
      dsimp only at hc1 hc2
      have C1 := Lib.hid hc1
      have C2 := Lib.hid hc2
      have p1 : wr.cell? ⟨g, o + k * 2, none⟩ = some (.int .u64 (y1 : Int)) := (HR.out.below.cell (p := ⟨g, o + k * 2, none⟩) hb).trans hc1
      obtain ⟨b1, hb1⟩ : ∃ b1, decide (y1 ∈ row) = b1 := ⟨_, rfl⟩
      obtain ⟨b2, hb2⟩ : ∃ b2, decide (y2 ∈ F) = b2 := ⟨_, rfl⟩
      have HB1 := Lib.hid hb1
      have HB2 := Lib.hid hb2
      have HST := Lib.hid hst
      have HC1 := Lib.hid (in_is AR nr cr row y1 b1 hb1 wr (HRW.out.below HR.out.below) hnr)
      clear hst hc hc1 hc2 hy hb1 hb2
      go_wp2_with fail
      refine HC1.out.mono ?_
      rintro e z1 ⟨rfl, hz1⟩
      have HR1 := Lib.hid (HR.out.under hz1)
      have p2 : z1.cell? ⟨g, o + k * 2 + 1, none⟩ = some (.int .u64 (y2 : Int)) := (HR1.out.below.cell (p := ⟨g, o + k * 2 + 1, none⟩) hb).trans C2.out
      clear hz1 HC1 p1
      cases b1
      · have HE : Hid (stepU (l.take (k + 1)) row [] = F) := by
          show _ = _
          rw [HST.out, if_neg (fun h => by have := HB1.out; simp [h.1] at this)]
        go_wp2_with fail
        exact ⟨⟨k + 1, F, B, nF, cF, by omega, by omega, rfl, by go_num, HE, HN, HR1⟩, by simp [intOf]; omega⟩
      · have HC2 := Lib.hid (in_is B nF cF F y2 b2 HB2.out z1 (HR1.out.lz HN.out) (by omega))
        go_wp2_with fail
        refine HC2.out.mono ?_
        rintro e z2 ⟨rfl, hz2⟩
        have HR2 := Lib.hid (HR1.out.under hz2)
        have p3 : z2.cell? ⟨g, o + k * 2 + 1, none⟩ = some (.int .u64 (y2 : Int)) := (HR2.out.below.cell (p := ⟨g, o + k * 2 + 1, none⟩) hb).trans C2.out
        clear hz2 HC2 p2
        cases b2
        · have HE : Hid (stepU (l.take (k + 1)) row [] = insU F y2) := by
            show _ = _
            rw [HST.out, if_pos ⟨of_decide_eq_true HB1.out, of_decide_eq_false HB2.out⟩]
          have HEL : Hid ((insU F y2).length = nF + 1) := by show _ = _; rw [insU_length, HN.out]
          have HC3 := Lib.hid (insert_any B nF cF F y2 z2 (HR2.out.lz HN.out) (by omega))
          go_wp2_with fail
          refine HC3.out.mono ?_
          intro e z3 h3
          obtain ⟨B3, c3, rfl, h4⟩ := h3.named HEL.out
          have HR3 := Lib.hid (h4.lift HR2.out.below)
          clear h3 h4 HC3
          go_wp2_with fail
          exact ⟨⟨k + 1, insU F y2, B3, nF + 1, c3, by omega, by omega, rfl, by go_num, HE, HEL, HR3⟩, by simp [intOf]; omega⟩
        · have HE : Hid (stepU (l.take (k + 1)) row [] = F) := by
            show _ = _
            rw [HST.out, if_neg (fun h => h.2 (of_decide_eq_true HB2.out))]
          go_wp2_with fail
          exact ⟨⟨k + 1, F, B, nF, cF, by omega, by omega, rfl, by go_num, HE, HN, HR2⟩, by simp [intOf]; omega⟩
    · obtain rfl : k = n := by omega
      have HE : Hid (stepU l row [] = F) := by show _ = _; rw [← HF.out, List.take_of_length_le (by omega)]
      go_wp2_with fail
      go_ret
      exact ⟨B, cF, by rw [HE.out, HN.out]; rfl, by rw [HE.out, HN.out]; exact HR.out⟩
/-- A row of one number, just made. -/
theorem lz_one (w : World) (x : Nat) : Lz (fun _ => False) (w.alloc (.cells #[.int .u64 (x : Int)] 23)) 1 (some ⟨w.heap.size, 0, none⟩) 1 (UC [x]) :=
  Lz.of_own (own_new1 w _ _) (fun _ h => h.elim)
set_option maxHeartbeats 3200000 in
theorem Far_any (A : Option Addr) (n c : Nat) (l : List Ar) (a b : Nat) (w : World) (h : Lz (fun _ => False) w 2 A n (arL l)) (hn : n ≤ 1000) :
    Calls Try.prog 11 #[.slice A n c, .int .u64 (a : Int), .int .u64 (b : Int)] w (RetB w (.int .i64 (farU l a b : Nat))) := by
  have hlen := h.arlen
  have HL := Lib.hid h
  clear h
  have HO := Lib.hid (lz_one w a)
  have HB0 := Lib.hid ((Below.refl w.heap.size w).alloc (Nat.le_refl _) (.cells #[.int .u64 (a : Int)] 23))
  go_enter Try.func11, Try.ntmps11
  go_wp2_with fail
  generalize w.alloc (.cells #[.int .u64 (a : Int)] 23) = z0 at HO HB0 ⊢
  generalize (some ⟨w.heap.size, 0, none⟩ : Option Addr) = A0 at HO ⊢
  go_loopw [7, 8] (fun vo vi wr => ∃ (k k1 : Nat) (B : Option Addr) (nF cF : Nat), k ≤ n ∧ k < k1 ∧ k1 ≤ k + 1 ∧ nF ≤ 1 + n ∧ vo = .slice B nF cF ∧ vi = .int .i64 (k1 : Int) ∧ Hid (Below w.heap.size w wr) ∧ Hid (Lz (fun _ => False) wr 1 B nF (UC (rowU l a k))) ∧ Hid (∀ j, j < k → b ∉ rowU l a (j + 1))) (fun _ i _ => n + 1 - (intOf i).toNat)
  case atStart => exact ⟨0, 1, A0, 1, 1, Nat.zero_le _, by omega, by omega, by omega, rfl, rfl, HB0, HO, Lib.hid fun _ h => absurd h (Nat.not_lt_zero _)⟩
  case round =>
    clear HO HB0
    obtain ⟨k, k1, B, nF, cF, hk, hk1a, hk1b, hnF, rfl, rfl, HB, HR, HN⟩ := hrel
    have hk1 : k + 1 = k1 := by omega
    by_cases hlt : k < n
    · have d1 : decide ((k1 : Int) ≤ (n : Int)) = true := by simp; omega
      have d1n : decide (k1 ≤ n) = true := by simp; omega
      have HC := Lib.hid (Step_any A n c l B nF cF (rowU l a k) wr (HL.out.below HB.out) HR.out hn (by omega))
      obtain ⟨nG, hnG⟩ : ∃ nG, (stepU l (rowU l a k) []).length = nG := ⟨_, rfl⟩
      have hle : nG ≤ n := by
        have := stepU_length (rowU l a k) l []
        simp at this
        omega
      have HNG := Lib.hid hnG
      have HK1 := Lib.hid hk1
      clear hnG hk1
      go_wp2_with fail
      refine HC.out.mono ?_
      intro e z1 h1
      obtain ⟨B1, c1, rfl, h2⟩ := h1.named HNG.out
      have H2 := Lib.hid (h2.lz HNG.out)
      have HB1 := Lib.hid (HB.out.trans (h2.below.mono HB.out.size))
      clear h1 h2 HC
      obtain ⟨bb, hbb⟩ : ∃ bb, decide (b ∈ stepU l (rowU l a k) []) = bb := ⟨_, rfl⟩
      have HBB := Lib.hid hbb
      have HC := Lib.hid (in_is B1 nG c1 (stepU l (rowU l a k) []) b bb hbb z1 H2.out (by omega))
      clear hbb
      go_wp2_with fail
      refine HC.out.mono ?_
      rintro e z2 ⟨rfl, hz2⟩
      have H3 := Lib.hid (H2.out.below hz2)
      have HB2 := Lib.hid (HB1.out.trans (hz2.mono HB1.out.size))
      clear hz2 HC
      cases bb
      · go_wp2_with fail
        refine ⟨⟨k1, k1 + 1, B1, nG, c1, by omega, by omega, by omega, by omega, rfl, by go_num, HB2, ?_, Lib.hid fun j hj => ?_⟩, by simp [intOf]; omega⟩
        · rw [← HK1.out]
          exact H3
        · have := HK1.out
          by_cases e : j = k
          · subst e
            exact of_decide_eq_false HBB.out
          · exact HN.out j (by omega)
      · go_wp2_with fail
        go_ret
        refine ⟨?_, HB2.out⟩
        rw [farU_at (by omega) HN.out (of_decide_eq_true HBB.out), HK1.out]
        rfl
    · clear hk1
      have d1 : decide ((k1 : Int) ≤ (n : Int)) = false := by simp; omega
      have d1n : decide (k1 ≤ n) = false := by simp; omega
      go_wp2_with fail
      go_ret
      refine ⟨?_, HB.out⟩
      rw [farU_none fun j hj => HN.out j (by omega)]
      rfl

set_option maxHeartbeats 3200000 in
theorem rReach_any (A : Option Addr) (n c : Nat) (l : List Ar) (a : Nat) (w : World) (h : Lz (fun _ => False) w 2 A n (arL l)) (hn : n ≤ 1000) :
    Calls Try.prog 16 #[.slice A n c, .int .u64 (a : Int)] w (RetU w (reachU l a l.length)) := by
  have hlen := h.arlen
  have HL := Lib.hid h
  clear h
  have HO := Lib.hid (lz_one w a)
  have HB0 := Lib.hid ((Below.refl w.heap.size w).alloc (Nat.le_refl _) (.cells #[.int .u64 (a : Int)] 23))
  obtain ⟨n0, hn0⟩ : ∃ n0, (reachU l a 0).length = n0 := ⟨_, rfl⟩
  have hn0' : n0 ≤ n := by have := reachU_length l a 0; omega
  have HN0 := Lib.hid hn0
  clear hn0
  go_enter Try.func16, Try.ntmps16
  go_wp2_with fail
  generalize w.alloc (.cells #[.int .u64 (a : Int)] 23) = z0 at HO HB0 ⊢
  generalize (some ⟨w.heap.size, 0, none⟩ : Option Addr) = A0 at HO ⊢
  refine (Step_any A n c l A0 1 1 [a] z0 (HL.out.below HB0.out) HO.out hn (by omega)).mono ?_
  intro e z1 h1
  obtain ⟨B0, c0, rfl, h2⟩ := RetU.named (n := n0) h1 HN0.out
  have HR0 : Hid (RowS w (reachU l a 0) (.slice B0 n0 c0) z1) := h2.lift HB0.out
  clear h1 h2 HO HB0
  go_wp2_with fail
  go_loopw [5, 6] (fun vo vi wr => ∃ (k : Nat) (B : Option Addr) (nF cF : Nat), k ≤ n ∧ nF ≤ n ∧ vo = .slice B nF cF ∧ vi = .int .i64 (k : Int) ∧ Hid ((reachU l a k).length = nF) ∧ Hid (RowS w (reachU l a k) (.slice B nF cF) wr)) (fun _ i _ => n - (intOf i).toNat)
  case atStart => exact ⟨0, B0, n0, c0, Nat.zero_le _, hn0', rfl, rfl, HN0, HR0⟩
  case round =>
    clear HR0 HN0
    obtain ⟨k, B, nF, cF, hk, hnF, rfl, rfl, HN, HR⟩ := hrel
    by_cases hlt : k < n
    · obtain ⟨S, hS⟩ : ∃ S, stepU l (reachU l a k) [] = S := ⟨_, rfl⟩
      obtain ⟨nS, hnS⟩ : ∃ nS, S.length = nS := ⟨_, rfl⟩
      have hSle : nS ≤ n := by
        have := stepU_length (reachU l a k) l []
        rw [hS] at this
        simp at this
        omega
      have hC := Step_any A n c l B nF cF (reachU l a k) wr (HL.out.below HR.out.below) (HR.out.lz HN.out) hn (by omega)
      rw [hS] at hC
      have HC := Lib.hid hC
      have HNS := Lib.hid hnS
      have HSS := Lib.hid hS
      clear hC hnS hS
      go_wp2_with fail
      refine HC.out.mono ?_
      intro e z1 h1
      obtain ⟨BS, cS, rfl, h2⟩ := h1.named HNS.out
      have HS := Lib.hid (h2.lz HNS.out)
      have HR1 := Lib.hid (HR.out.under h2.below)
      clear h1 h2 HC
      go_wp2_with fail
      go_loopw [5, 8] (fun vo vi wr => ∃ (j : Nat) (F : List Nat) (B : Option Addr) (nF cF : Nat), j ≤ nS ∧ nF ≤ n + j ∧ vo = .slice B nF cF ∧ vi = .int .i64 (j : Int) ∧ Hid (insAll (S.take j) (reachU l a k) = F) ∧ Hid (F.length = nF) ∧ Hid (RowS w F (.slice B nF cF) wr) ∧ Hid (Below z1.heap.size z1 wr)) (fun _ i _ => nS - (intOf i).toNat)
      case atStart => exact ⟨0, reachU l a k, B, nF, cF, Nat.zero_le _, by omega, rfl, rfl, Lib.hid rfl, HN, HR1, Lib.hid (Below.refl _ _)⟩
      case round =>
        clear HR1 HN HR
        obtain ⟨j, F, BF, nG, cG, hj, hnG, rfl, rfl, HF, HN, HR, HB⟩ := hrel
        by_cases hjl : j < nS
        · obtain ⟨b, o, hl, rfl, hb, hc⟩ := HS.out.uc hjl
          have hst := insAll_take hl (reachU l a k)
          rw [HF.out] at hst
          obtain ⟨y, hy⟩ : ∃ y, S[j] = y := ⟨_, rfl⟩
          rw [hy] at hc hst
          have C1 := Lib.hid hc
          have p1 : wr.cell? ⟨b, o + j, none⟩ = some (.int .u64 (y : Int)) := (HB.out.cell (p := ⟨b, o + j, none⟩) hb).trans hc
          obtain ⟨b1, hb1⟩ : ∃ b1, decide (y ∈ F) = b1 := ⟨_, rfl⟩
          have HB1 := Lib.hid hb1
          have HST := Lib.hid hst
          have HC1 := Lib.hid (in_is BF nG cG F y b1 hb1 wr (HR.out.lz HN.out) (by omega))
          clear hst hc hy hb1
          go_wp2_with fail
          refine HC1.out.mono ?_
          rintro e z2 ⟨rfl, hz2⟩
          have HR2 := Lib.hid (HR.out.under hz2)
          have HB2 := Lib.hid (HB.out.trans (hz2.mono HB.out.size))
          have p2 : z2.cell? ⟨b, o + j, none⟩ = some (.int .u64 (y : Int)) := (HB2.out.cell (p := ⟨b, o + j, none⟩) hb).trans C1.out
          clear hz2 HC1 p1
          cases b1
          · have HE : Hid (insAll (S.take (j + 1)) (reachU l a k) = insU F y) := by
              show _ = _
              rw [HST.out, if_neg (of_decide_eq_false HB1.out)]
            have HEL : Hid ((insU F y).length = nG + 1) := by show _ = _; rw [insU_length, HN.out]
            have HC3 := Lib.hid (insert_any BF nG cG F y z2 (HR2.out.lz HN.out) (by omega))
            go_wp2_with fail
            refine HC3.out.mono ?_
            intro e z3 h3
            obtain ⟨B3, c3, rfl, h4⟩ := h3.named HEL.out
            have HR3 := Lib.hid (h4.lift HR2.out.below)
            have HB3 := Lib.hid (HB2.out.trans (h4.below.mono HB2.out.size))
            clear h3 h4 HC3
            go_wp2_with fail
            exact ⟨⟨j + 1, insU F y, B3, nG + 1, c3, by omega, by omega, rfl, by go_num, HE, HEL, HR3, HB3⟩, by simp [intOf]; omega⟩
          · have HE : Hid (insAll (S.take (j + 1)) (reachU l a k) = F) := by
              show _ = _
              rw [HST.out, if_pos (of_decide_eq_true HB1.out)]
            go_wp2_with fail
            exact ⟨⟨j + 1, F, BF, nG, cG, by omega, by omega, rfl, by go_num, HE, HN, HR2, HB2⟩, by simp [intOf]; omega⟩
        · obtain rfl : j = nS := by omega
          have HE : Hid (reachU l a (k + 1) = F) := by
            show _ = _
            rw [← HF.out, List.take_of_length_le (by have := HNS.out; omega), ← HSS.out]
            rfl
          have hnG2 : nG ≤ n := by
            have h1 := reachU_length l a (k + 1)
            rw [HE.out] at h1
            have h2 := HN.out
            omega
          go_wp2_with fail
          exact ⟨⟨k + 1, BF, nG, cG, by omega, hnG2, rfl, by go_num, by rw [HE.out]; exact HN, by rw [HE.out]; exact HR⟩, by simp [intOf]; omega⟩
    · obtain rfl : k = n := by omega
      go_wp2_with fail
      go_ret
      rw [hlen]
      exact ⟨B, cF, by rw [HN.out]; rfl, by rw [HN.out]; exact HR.out⟩
end Go.Proofs.Ytnkphpjnhjbokaa
