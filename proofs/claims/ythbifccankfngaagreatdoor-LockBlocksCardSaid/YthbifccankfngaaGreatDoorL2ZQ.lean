/-
  The law's claims.
  Conditions: at most 100000 claims.
-/
import Derived.Test.YthbifccankfngaaGreatDoorL1ZQ
namespace Go.Proofs.YthbifccankfngaaGreatDoor
open Go.RowKit Go.Shelf
attribute [local go_sem] Oper.semAt_some
set_option maxRecDepth 20000

set_option maxHeartbeats 3200000 in
theorem claims_any (A1 A2 : Option Addr) (n1 c1 n2 c2 : Nat) (l : List Cm) (m : List Cl) (w : World) (h1 : Lz (fun _ => False) w 2 A1 n1 (cmL l)) (h2 : Lz (fun _ => False) w 4 A2 n2 (rcL m)) (hn : n1 ≤ 100000) :
    Calls Tryz.prog 29 #[.slice A1 n1 c1, .slice A2 n2 c2] w (RetB w (.bool (l == cms m))) := by
  have hl1 := h1.cmlen
  have hl2 := h2.rclen
  have H1 := Lib.hid h1
  have H2 := Lib.hid h2
  clear h1 h2
  have hcl : (cms m).length = n2 := by simp [cms, hl2]
  by_cases hne : n1 = n2
  · subst hne
    have e1 : ((n1 : Int) != (n1 : Int)) = false := by simp
    have HCL := Lib.hid hcl
    clear hcl
    go_enter Tryz.func29, Tryz.ntmps29
    go_wp2_with fail
    go_loopw [5] (fun i wr => ∃ k : Nat, k ≤ n1 ∧ i = .int .i64 (k : Int) ∧ Hid (Below w.heap.size w wr) ∧ Hid (l.take k = (cms m).take k)) (fun i _ => n1 - (intOf i).toNat)
    case atStart => exact ⟨0, Nat.zero_le _, rfl, Lib.hid (Below.refl _ w), Lib.hid rfl⟩
    case round =>
      obtain ⟨k, hk, rfl, HR, HT⟩ := hrel
      by_cases hlt : k < n1
      · obtain ⟨b1, o1, hk1, hA1, _, hb1, hp1⟩ := H1.out.cm hlt
        obtain ⟨b2, o2, hk2, hA2, hb2, hp2⟩ := H2.out.rc hlt
        subst hA1 hA2
        obtain ⟨x, hx⟩ : ∃ x, l[k] = x := ⟨_, rfl⟩
        obtain ⟨y, hy⟩ : ∃ y, m[k] = y := ⟨_, rfl⟩
        rw [hx] at hp1
        rw [hy] at hp2
        have P1 := Lib.hid hp1
        have P2 := Lib.hid hp2
        have HX := Lib.hid hx
        have hk3 : k < (cms m).length := by rw [HCL.out]; exact hlt
        have HY : Hid ((cms m)[k] = y.2) := by show _ = _; simp [cms, hy]
        obtain ⟨bn, hbn⟩ : ∃ bn, ((x.1 : Int) != (y.2.1 : Int)) = bn := ⟨_, rfl⟩
        obtain ⟨bm, hbm⟩ : ∃ bm, (x.2 != y.2.2) = bm := ⟨_, rfl⟩
        have HBN := Lib.hid (show (x.1 != y.2.1) = bn by rw [← hbn, nat_bne])
        have HBM := Lib.hid hbm
        have HNE : Hid (bn = true ∨ bm = true → (l == cms m) = false) := fun h => by
          rw [beq_eq_false_iff_ne]
          intro e
          have hxy : x = y.2 := by
            rw [← HX.out, ← HY.out]
            simp [e]
          rcases h with h | h
          · rw [← HBN.out, hxy] at h; simp at h
          · rw [← HBM.out, hxy] at h; simp at h
        clear hx hy hp1 hp2
        go_upto_region 6 with fail
        cases bn
        · 
          refine wp_region_held_drew (S := Below w.heap.size w) (by kernel_rfl) (HR.out.drew) (fun hS => ?_)
          refine tk 0 hS ?_
          refine tk 1 hS ?_
          refine tk 2 hS ?_
          refine tk 3 hS ?_
          refine tk 4 hS ?_ (hy := by intro wz hz; have q1 : wz.cell? ⟨b1, o1 + k * 2, none⟩ = some (.int .u64 (x.1 : Int)) := (hz.cell (p := ⟨b1, o1 + k * 2, none⟩) hb1).trans (P1.out 0 _ rfl); have q2 : wz.cell? ⟨b1, o1 + k * 2 + 1, none⟩ = some (.int .i64 x.2) := (hz.cell (p := ⟨b1, o1 + k * 2 + 1, none⟩) hb1).trans (P1.out 1 _ rfl); have r1 : wz.cell? ⟨b2, o2 + k * 4 + 2, none⟩ = some (.int .u64 (y.2.1 : Int)) := (hz.cell (p := ⟨b2, o2 + k * 4 + 2, none⟩) hb2).trans (P2.out 2 _ rfl); have r2 : wz.cell? ⟨b2, o2 + k * 4 + 3, none⟩ = some (.int .i64 y.2.2) := (hz.cell (p := ⟨b2, o2 + k * 4 + 3, none⟩) hb2).trans (P2.out 3 _ rfl); go_simp <;> with_reducible rfl)
          refine tk 5 hS ?_
          refine tk 6 hS ?_
          refine tk 7 hS ?_
          refine tk 8 hS ?_
          refine tk 9 hS ?_ (hy := by intro wz hz; have q1 : wz.cell? ⟨b1, o1 + k * 2, none⟩ = some (.int .u64 (x.1 : Int)) := (hz.cell (p := ⟨b1, o1 + k * 2, none⟩) hb1).trans (P1.out 0 _ rfl); have q2 : wz.cell? ⟨b1, o1 + k * 2 + 1, none⟩ = some (.int .i64 x.2) := (hz.cell (p := ⟨b1, o1 + k * 2 + 1, none⟩) hb1).trans (P1.out 1 _ rfl); have r1 : wz.cell? ⟨b2, o2 + k * 4 + 2, none⟩ = some (.int .u64 (y.2.1 : Int)) := (hz.cell (p := ⟨b2, o2 + k * 4 + 2, none⟩) hb2).trans (P2.out 2 _ rfl); have r2 : wz.cell? ⟨b2, o2 + k * 4 + 3, none⟩ = some (.int .i64 y.2.2) := (hz.cell (p := ⟨b2, o2 + k * 4 + 3, none⟩) hb2).trans (P2.out 3 _ rfl); go_simp <;> with_reducible rfl)
          refine tk 10 hS ?_
          refine tk 11 hS ?_
          refine tk 12 hS ?_
          refine tk 13 hS ?_
          refine tk 14 hS ?_
          refine tk 15 hS ?_
          refine tk 16 hS ?_ (hy := by intro wz hz; have q1 : wz.cell? ⟨b1, o1 + k * 2, none⟩ = some (.int .u64 (x.1 : Int)) := (hz.cell (p := ⟨b1, o1 + k * 2, none⟩) hb1).trans (P1.out 0 _ rfl); have q2 : wz.cell? ⟨b1, o1 + k * 2 + 1, none⟩ = some (.int .i64 x.2) := (hz.cell (p := ⟨b1, o1 + k * 2 + 1, none⟩) hb1).trans (P1.out 1 _ rfl); have r1 : wz.cell? ⟨b2, o2 + k * 4 + 2, none⟩ = some (.int .u64 (y.2.1 : Int)) := (hz.cell (p := ⟨b2, o2 + k * 4 + 2, none⟩) hb2).trans (P2.out 2 _ rfl); have r2 : wz.cell? ⟨b2, o2 + k * 4 + 3, none⟩ = some (.int .i64 y.2.2) := (hz.cell (p := ⟨b2, o2 + k * 4 + 3, none⟩) hb2).trans (P2.out 3 _ rfl); go_simp <;> with_reducible rfl)
          refine tk 17 hS ?_
          refine tk 18 hS ?_
          refine tk 19 hS ?_
          refine tk 20 hS ?_
          refine tk 21 hS ?_ (hy := by intro wz hz; have q1 : wz.cell? ⟨b1, o1 + k * 2, none⟩ = some (.int .u64 (x.1 : Int)) := (hz.cell (p := ⟨b1, o1 + k * 2, none⟩) hb1).trans (P1.out 0 _ rfl); have q2 : wz.cell? ⟨b1, o1 + k * 2 + 1, none⟩ = some (.int .i64 x.2) := (hz.cell (p := ⟨b1, o1 + k * 2 + 1, none⟩) hb1).trans (P1.out 1 _ rfl); have r1 : wz.cell? ⟨b2, o2 + k * 4 + 2, none⟩ = some (.int .u64 (y.2.1 : Int)) := (hz.cell (p := ⟨b2, o2 + k * 4 + 2, none⟩) hb2).trans (P2.out 2 _ rfl); have r2 : wz.cell? ⟨b2, o2 + k * 4 + 3, none⟩ = some (.int .i64 y.2.2) := (hz.cell (p := ⟨b2, o2 + k * 4 + 3, none⟩) hb2).trans (P2.out 3 _ rfl); go_simp <;> with_reducible rfl)
          refine tk 22 hS ?_
          refine tk 23 hS ?_
          refine wpAnyH_done (by kernel_rfl) ?_ _
          have HS := Lib.hid hS
          clear hS
          cases bm
          · go_wp2_with fail
            refine ⟨⟨k + 1, by omega, by go_num, HS, Lib.hid ?_⟩, by simp [intOf]; omega⟩
            have hxy : x = y.2 := by
              have e1 : x.1 = y.2.1 := by have := HBN.out; simpa using this
              have e2 : x.2 = y.2.2 := by have := HBM.out; simpa using this
              exact Prod.ext e1 e2
            rw [List.take_add_one, List.take_add_one, HT.out, List.getElem?_eq_getElem hk1, List.getElem?_eq_getElem hk3, HX.out, HY.out, hxy]
          · go_wp2_with fail
            go_ret
            exact ⟨by rw [HNE.out (.inr trivial)]; rfl, HS.out⟩
        · 
          refine wp_region_held_drew (S := Below w.heap.size w) (by kernel_rfl) (HR.out.drew) (fun hS => ?_)
          refine tk 0 hS ?_
          refine tk 1 hS ?_
          refine tk 2 hS ?_
          refine tk 3 hS ?_
          refine tk 4 hS ?_ (hy := by intro wz hz; have q1 : wz.cell? ⟨b1, o1 + k * 2, none⟩ = some (.int .u64 (x.1 : Int)) := (hz.cell (p := ⟨b1, o1 + k * 2, none⟩) hb1).trans (P1.out 0 _ rfl); have q2 : wz.cell? ⟨b1, o1 + k * 2 + 1, none⟩ = some (.int .i64 x.2) := (hz.cell (p := ⟨b1, o1 + k * 2 + 1, none⟩) hb1).trans (P1.out 1 _ rfl); have r1 : wz.cell? ⟨b2, o2 + k * 4 + 2, none⟩ = some (.int .u64 (y.2.1 : Int)) := (hz.cell (p := ⟨b2, o2 + k * 4 + 2, none⟩) hb2).trans (P2.out 2 _ rfl); have r2 : wz.cell? ⟨b2, o2 + k * 4 + 3, none⟩ = some (.int .i64 y.2.2) := (hz.cell (p := ⟨b2, o2 + k * 4 + 3, none⟩) hb2).trans (P2.out 3 _ rfl); go_simp <;> with_reducible rfl)
          refine tk 5 hS ?_
          refine tk 6 hS ?_
          refine tk 7 hS ?_
          refine tk 8 hS ?_
          refine tk 9 hS ?_ (hy := by intro wz hz; have q1 : wz.cell? ⟨b1, o1 + k * 2, none⟩ = some (.int .u64 (x.1 : Int)) := (hz.cell (p := ⟨b1, o1 + k * 2, none⟩) hb1).trans (P1.out 0 _ rfl); have q2 : wz.cell? ⟨b1, o1 + k * 2 + 1, none⟩ = some (.int .i64 x.2) := (hz.cell (p := ⟨b1, o1 + k * 2 + 1, none⟩) hb1).trans (P1.out 1 _ rfl); have r1 : wz.cell? ⟨b2, o2 + k * 4 + 2, none⟩ = some (.int .u64 (y.2.1 : Int)) := (hz.cell (p := ⟨b2, o2 + k * 4 + 2, none⟩) hb2).trans (P2.out 2 _ rfl); have r2 : wz.cell? ⟨b2, o2 + k * 4 + 3, none⟩ = some (.int .i64 y.2.2) := (hz.cell (p := ⟨b2, o2 + k * 4 + 3, none⟩) hb2).trans (P2.out 3 _ rfl); go_simp <;> with_reducible rfl)
          refine tk 10 hS ?_
          refine tk 11 hS ?_
          refine sk 12 hS ?_
          refine sk 13 hS ?_
          refine sk 14 hS ?_
          refine sk 15 hS ?_
          refine sk 16 hS ?_
          refine sk 17 hS ?_
          refine sk 18 hS ?_
          refine sk 19 hS ?_
          refine sk 20 hS ?_
          refine sk 21 hS ?_
          refine sk 22 hS ?_
          refine tk 23 hS ?_
          refine wpAnyH_done (by kernel_rfl) ?_ _
          have HS := Lib.hid hS
          clear hS
          go_wp2_with fail
          go_ret
          exact ⟨by rw [HNE.out (.inl trivial)]; rfl, HS.out⟩
      · obtain rfl : k = n1 := by omega
        go_wp2_with fail
        go_ret
        have e : (l == cms m) = true := by
          have := HT.out
          rw [List.take_of_length_le (by omega), List.take_of_length_le (by rw [HCL.out]; omega)] at this
          rw [this, beq_self_eq_true]
        exact ⟨by rw [e]; rfl, HR.out⟩
  · have e1 : ((n1 : Int) != (n2 : Int)) = true := by rw [nat_bne]; simpa using hne
    have e : (l == cms m) = false := by
      rw [beq_eq_false_iff_ne]
      intro e
      rw [e] at hl1
      exact hne (by omega)
    have HE := Lib.hid e
    have HNE := Lib.hid hne
    clear e hne
    go_enter Tryz.func29, Tryz.ntmps29
    go_wp2_with fail
    go_ret
    exact ⟨by rw [HE.out]; rfl, Below.refl _ w⟩
end Go.Proofs.YthbifccankfngaaGreatDoor
