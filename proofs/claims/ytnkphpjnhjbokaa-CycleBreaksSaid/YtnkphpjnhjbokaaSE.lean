/-
  slices.BinarySearchFunc on a graph.
  Conditions: at most 100000 arcs.
-/
import Derived.Test.YtnkphpjnhjbokaaSD
namespace Go.Proofs.Ytnkphpjnhjbokaa
open Go.RowKit Go.Shelf
attribute [local go_sem] Oper.semAt_some
set_option maxRecDepth 20000

theorem GrD.below {w z : World} (h : GrD w z) : Below w.heap.size w z := by
  obtain ⟨q, os, rfl⟩ := h
  refine ⟨rfl, rfl, rfl, ?_, fun k hk => ?_⟩
  · simp [World.drewN]
  · rw [Go.Sort.heap_grow_old _ _ (by simpa [World.drewN] using hk)]
    rfl
theorem cmp_below (a b : Ar) (r : Int) (hr : cmpA a b = r) (w : World) : Calls Try.prog 35 #[.agg (arA a), .agg (arA b)] w (RetB w (.int .i64 r)) := by
  rw [← hr]
  refine (compare_any a b w).mono ?_
  rintro e w' ⟨rfl, h⟩
  exact ⟨rfl, h.below⟩
theorem ltA_mono {a b t : Ar} (h : arLe a b) (hb : ltA b t = true) : ltA a t = true := by
  have h1 := ltA_iff.1 hb
  refine ltA_iff.2 ?_
  unfold arLe at h
  omega
theorem arLe_at {g : List Ar} (h : g.Pairwise arLe) {i j : Nat} (hi : i < g.length) (hj : j < g.length) (hij : i ≤ j) : arLe g[i] g[j] := by
  by_cases e : i = j
  · subst e
    exact .inr ⟨rfl, Nat.le_refl _⟩
  · exact List.pairwise_iff_getElem.1 h i j hi hj (by omega)
set_option maxHeartbeats 6400000 in
theorem bsf_any (A : Option Addr) (n c : Nat) (g : List Ar) (t : Ar) (w : World) (h : Lz (fun _ => False) w 2 A n (arL g)) (hn : n ≤ 100000) (hu : g.Pairwise arLe) :
    Calls Try.prog 37 #[.slice A n c, .agg (arA t), .func (.func 35) #[] #[]] w (fun e w' => ∃ (i : Nat) (b : Bool), e = .returned (.tuple #[.int .i64 (i : Int), .bool b]) ∧ i ≤ n ∧ (∀ (k : Nat) (hk : k < g.length), k < i → ltA g[k] t = true) ∧ (∀ (k : Nat) (hk : k < g.length), i ≤ k → ltA g[k] t = false) ∧ Below w.heap.size w w') := by
  have hlen := h.arlen
  obtain ⟨b4, hb4⟩ : ∃ b4, w.heap.size = b4 := ⟨_, rfl⟩
  have HB := Lib.hid (show Below w.heap.size w (w.alloc (.cells (arA t) 40)) from (Below.refl _ w).alloc (Nat.le_refl _) _)
  have HL := Lib.hid (h.below HB.out)
  have A4 := Lib.hid (At.new w 40 (arA t))
  have HU := Lib.hid hu
  have EC := ent_cmp
  clear h hu
  go_enter Try.func37, Try.ntmps37
  go_upto_region 1 with fail
  rw [hb4] at A4
  generalize w.alloc (.cells (arA t) 40) = z at HB HL A4 ⊢
  have hbz : b4 < z.heap.size := A4.out.lt
  clear hb4
  go_wp2_with fail
  go_loopw [9, 10] (fun vi vj wr => ∃ i j : Nat, vi = .int .i64 (i : Int) ∧ vj = .int .i64 (j : Int) ∧ i ≤ j ∧ j ≤ n ∧ Hid (Below z.heap.size z wr) ∧ Hid (∀ (k : Nat) (hk : k < g.length), k < i → ltA g[k] t = true) ∧ Hid (∀ (k : Nat) (hk : k < g.length), j ≤ k → ltA g[k] t = false)) (fun vi vj _ => (intOf vj - intOf vi).toNat)
  case atStart => exact ⟨0, n, rfl, rfl, Nat.zero_le _, Nat.le_refl _, Lib.hid (Below.refl _ _), Lib.hid fun _ _ h => absurd h (Nat.not_lt_zero _), Lib.hid fun k hk h => by omega⟩
  case round =>
    obtain ⟨i, j, rfl, rfl, hij, hj, HR, HLO, HHI⟩ := hrel
    have A4R := Lib.hid (A4.out.under HR.out hbz)
    by_cases hlt : i < j
    · obtain ⟨s, hs⟩ : ∃ s, i + j = s := ⟨_, rfl⟩
      obtain ⟨m, hm⟩ : ∃ h, s / 2 = h := ⟨_, rfl⟩
      have es : (i : Int) + (j : Int) = (s : Int) := by omega
      have ws : IntKind.i64.wrap (s : Int) = (s : Int) := by rw [IntKind.wrap_i64]; omega
      have wsu : IntKind.u64.wrap (s : Int) = (s : Int) := by rw [IntKind.wrap_u64]; omega
      have em : (s : Int) / 2 = (m : Int) := by omega
      have hml : i ≤ m ∧ m < j ∧ m < n := by omega
      obtain ⟨hml1, hml2, hml3⟩ := hml
      obtain ⟨b, o, hl, rfl, hb, hr⟩ := HL.out.ar hml3
      have hbr : b < wr.heap.size := Nat.lt_of_lt_of_le hb HR.out.size
      obtain ⟨y, hy⟩ : ∃ y, g[m] = y := ⟨_, rfl⟩
      rw [hy] at hr
      have R1 : Hid (wr.rangeAt b (o + m * 2) (arV y)) := pl_rangeAt_block hr (HR.out.block b hb)
      obtain ⟨r, hrr⟩ : ∃ r, cmpA y t = r := ⟨_, rfl⟩
      have HCM : Hid (∀ W, Calls Try.prog 35 #[.agg (arA y), .agg (arA t)] W (RetB W (.int .i64 r))) := fun W => cmp_below y t r hrr W
      obtain ⟨cg, hcg⟩ : ∃ cg, decide (r < 0) = cg := ⟨_, rfl⟩
      have HLT : Hid (ltA g[m] t = cg) := by
        show _ = _
        rw [hy, ← cmp_lt]
        unfold ltOf
        rw [hrr, hcg]
      clear hr hrr hs hm hy
      go_upto_region 5 with fail
      refine wp_region_held_drew (S := Below wr.heap.size wr) (by kernel_rfl) ((Below.refl _ wr).drew) (fun hS => ?_)
      refine tk 0 hS ?_
      refine tk 1 hS ?_
      refine tk 2 hS ?_
      refine tk 3 hS ?_
      refine tk (v := .agg (arA y)) 4 hS ?_ (hy := by intro wz hz; exact exec_load_in 40 (.tmp 27) rfl b (o + m * 2) rfl (arV y) 2 strA rfl (pl_rangeAt_block R1.out (hz.block b hbr)))
      refine tk (v := .agg (arA t)) 5 hS ?_ (hy := by intro wz hz; exact exec_load_at 40 (.tmp 4) rfl b4 rfl (arA t) 2 strA rfl (A4R.out.under hz A4R.out.lt))
      refine wpAnyH_ready (rs := [6]) (by kernel_rfl) (by simp) ?_
      refine AllReadyH.cons rfl (fun K hK => ?_) AllReadyH.nil
      go_simp
      refine (HCM.out _).mono ?_
      rintro e y9 ⟨rfl, hb⟩
      have Y9 := Lib.hid (hS.trans (hb.mono hS.size))
      refine hK.out _ _ (Y9.out) (fun hT => ?_)
      clear hK hb hS
      have hS := hT
      clear hT
      refine tk 7 hS ?_
      refine wpAnyH_done (by kernel_rfl) ?_ _
      have HS := Lib.hid (HR.out.trans (hS.mono HR.out.size))
      clear hS
      cases cg
      · clear hcg
        go_wp2_with fail
        exact ⟨⟨i, m, rfl, rfl, by omega, by omega, HS, HLO, Lib.hid fun k hk hmk => by
          cases hc : ltA g[k] t with
          | false => rfl
          | true =>
            have h1 := ltA_mono (arLe_at HU.out hl hk hmk) hc
            rw [HLT.out] at h1
            cases h1⟩, by simp [intOf]; omega⟩
      · clear hcg
        go_wp2_with fail
        exact ⟨⟨m + 1, j, by go_num, rfl, by omega, by omega, HS, Lib.hid fun k hk hkm => ltA_mono (arLe_at HU.out hk hl (by omega)) HLT.out, HHI⟩, by simp [intOf]; omega⟩
    · obtain rfl : i = j := by omega
      by_cases hin : i < n
      · obtain ⟨b, o, hl, rfl, hb, hr⟩ := HL.out.ar hin
        have hbr : b < wr.heap.size := Nat.lt_of_lt_of_le hb HR.out.size
        obtain ⟨y, hy⟩ : ∃ y, g[i] = y := ⟨_, rfl⟩
        rw [hy] at hr
        have R1 : Hid (wr.rangeAt b (o + i * 2) (arV y)) := pl_rangeAt_block hr (HR.out.block b hb)
        obtain ⟨r, hrr⟩ : ∃ r, cmpA y t = r := ⟨_, rfl⟩
        have HCM : Hid (∀ W, Calls Try.prog 35 #[.agg (arA y), .agg (arA t)] W (RetB W (.int .i64 r))) := fun W => cmp_below y t r hrr W
        obtain ⟨bz, hbz⟩ : ∃ bz, (r == 0) = bz := ⟨_, rfl⟩
        clear hr hrr hy
        go_upto_region 8 with fail
        refine wp_region_held_drew (S := Below wr.heap.size wr) (by kernel_rfl) ((Below.refl _ wr).drew) (fun hS => ?_)
        refine tk 0 hS ?_
        refine tk 1 hS ?_
        refine tk 2 hS ?_
        refine tk 3 hS ?_
        refine tk 4 hS ?_
        refine tk 5 hS ?_
        refine tk 6 hS ?_
        refine tk 7 hS ?_
        refine tk 8 hS ?_
        refine tk (v := .agg (arA y)) 9 hS ?_ (hy := by intro wz hz; exact exec_load_in 40 (.tmp 43) rfl b (o + i * 2) rfl (arV y) 2 strA rfl (pl_rangeAt_block R1.out (hz.block b hbr)))
        refine tk (v := .agg (arA t)) 10 hS ?_ (hy := by intro wz hz; exact exec_load_at 40 (.tmp 4) rfl b4 rfl (arA t) 2 strA rfl (A4R.out.under hz A4R.out.lt))
        refine wpAnyH_ready (rs := [11]) (by kernel_rfl) (by simp) ?_
        refine AllReadyH.cons rfl (fun K hK => ?_) AllReadyH.nil
        go_simp
        refine (HCM.out _).mono ?_
        rintro e y9 ⟨rfl, hb⟩
        have Y9 := Lib.hid (hS.trans (hb.mono hS.size))
        refine hK.out _ _ (Y9.out) (fun hT => ?_)
        clear hK hb hS
        have hS := hT
        clear hT
        refine tk 12 hS ?_
        refine tk 13 hS ?_
        refine tk 14 hS ?_
        refine tk 15 hS ?_
        refine wpAnyH_done (by kernel_rfl) ?_ _
        have HS := Lib.hid (HB.out.trans ((HR.out.trans (hS.mono HR.out.size)).mono HB.out.size))
        clear hS hbz
        go_wp2_with fail
        go_ret2
        exact ⟨i, bz, rfl, hj, HLO.out, HHI.out, HS.out⟩
      · go_upto_region 8 with fail
        refine wp_region_held_drew (S := Below wr.heap.size wr) (by kernel_rfl) ((Below.refl _ wr).drew) (fun hS => ?_)
        refine tk 0 hS ?_
        refine tk 1 hS ?_
        refine tk 2 hS ?_
        refine tk 3 hS ?_
        refine tk 4 hS ?_
        refine sk 5 hS ?_
        refine sk 6 hS ?_
        refine sk 7 hS ?_
        refine sk 8 hS ?_
        refine sk 9 hS ?_
        refine sk 10 hS ?_
        refine sk 11 hS ?_
        refine sk 12 hS ?_
        refine tk 13 hS ?_
        refine tk 14 hS ?_
        refine tk 15 hS ?_
        refine wpAnyH_done (by kernel_rfl) ?_ _
        have HS := Lib.hid (HB.out.trans ((HR.out.trans (hS.mono HR.out.size)).mono HB.out.size))
        clear hS
        go_wp2_with fail
        go_ret2
        exact ⟨i, false, rfl, hj, HLO.out, HHI.out, HS.out⟩
end Go.Proofs.Ytnkphpjnhjbokaa
