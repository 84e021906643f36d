/-
  The law's claims.
  Conditions: at most 100000 claims.
-/
import Derived.Test.YthbifccankfngaaGreatDoorL1Q
namespace Go.Proofs.YthbifccankfngaaGreatDoor
open Go.RowKit Go.Shelf
attribute [local go_sem] Oper.semAt_some
set_option maxRecDepth 20000

set_option maxHeartbeats 3200000 in
theorem claims_any (A1 A2 : Option Addr) (n1 c1 n2 c2 : Nat) (l : List Cm) (m : List Cl) (w : World) (h1 : Lz (fun _ => False) w 2 A1 n1 (cmL l)) (h2 : Lz (fun _ => False) w 4 A2 n2 (rcL m)) (hn : n1 ≤ 100000) :
    Calls Tryz.prog 29 #[.slice A1 n1 c1, .slice A2 n2 c2] w (RetB w (.bool (l == cms m))) := by
  have hl1 := h1.cmlen
  have hl2 := h2.rclen
  have H1 := Lib.hid h1
  have H2 := Lib.hid h2
  clear h1 h2
  have hcl : (cms m).length = n2 := by simp [cms, hl2]
  by_cases hne : n1 = n2
  · subst hne
    have e1 : ((n1 : Int) != (n1 : Int)) = false := by simp
    have HCL := Lib.hid hcl
    clear hcl
    go_enter Tryz.func29, Tryz.ntmps29
    go_wp2_with fail
    go_loopw [5] (fun i wr => ∃ k : Nat, k ≤ n1 ∧ i = .int .i64 (k : Int) ∧ Hid (Below w.heap.size w wr) ∧ Hid (l.take k = (cms m).take k)) (fun i _ => n1 - (intOf i).toNat)
    case atStart => exact ⟨0, Nat.zero_le _, rfl, Lib.hid (Below.refl _ w), Lib.hid rfl⟩
    case round =>
      obtain ⟨k, hk, rfl, HR, HT⟩ := hrel
      by_cases hlt : k < n1
      · obtain ⟨b1, o1, hk1, hA1, _, hb1, hp1⟩ := H1.out.cm hlt
        obtain ⟨b2, o2, hk2, hA2, hb2, hp2⟩ := H2.out.rc hlt
        subst hA1 hA2
        obtain ⟨x, hx⟩ : ∃ x, l[k] = x := ⟨_, rfl⟩
        obtain ⟨y, hy⟩ : ∃ y, m[k] = y := ⟨_, rfl⟩
        rw [hx] at hp1
        rw [hy] at hp2
        have P1 := Lib.hid hp1
        have P2 := Lib.hid hp2
        have HX := Lib.hid hx
        have hk3 : k < (cms m).length := by rw [HCL.out]; exact hlt
        have HY : Hid ((cms m)[k] = y.2) := by show _ = _; simp [cms, hy]
        obtain ⟨bn, hbn⟩ : ∃ bn, ((x.1 : Int) != (y.2.1 : Int)) = bn := ⟨_, rfl⟩
        obtain ⟨bm, hbm⟩ : ∃ bm, (x.2 != y.2.2) = bm := ⟨_, rfl⟩
        have HBN := Lib.hid (show (x.1 != y.2.1) = bn by rw [← hbn, nat_bne])
        have HBM := Lib.hid hbm
        have HNE : Hid (bn = true ∨ bm = true → (l == cms m) = false) := fun h => by
          rw [beq_eq_false_iff_ne]
          intro e
          have hxy : x = y.2 := by
            rw [← HX.out, ← HY.out]
            simp [e]
          rcases h with h | h
          · rw [← HBN.out, hxy] at h; simp at h
          · rw [← HBM.out, hxy] at h; simp at h
        clear hx hy hp1 hp2
        go_upto_region 6 with fail
        cases bn
        · 
          refine wp_region_held_drew (S := Below w.heap.size w) (by kernel_rfl) (HR.out.drew) (fun hS => ?_)
          refine takeH (i := 0) (d := 17) (v := ?vcm10) rfl (by kernel_rfl) (by kernel_rfl) (by kernel_rfl) (fun _ _ _ h => h) rfl (by rfl) ?ycm10 hS ?rcm10
          case ycm10 => (intro wz hz; have q1 : wz.cell? ⟨b1, o1 + k * 2, none⟩ = some (.int .u64 (x.1 : Int)) := (hz.cell (p := ⟨b1, o1 + k * 2, none⟩) hb1).trans (P1.out 0 _ rfl); have q2 : wz.cell? ⟨b1, o1 + k * 2 + 1, none⟩ = some (.int .i64 x.2) := (hz.cell (p := ⟨b1, o1 + k * 2 + 1, none⟩) hb1).trans (P1.out 1 _ rfl); have r1 : wz.cell? ⟨b2, o2 + k * 4 + 2, none⟩ = some (.int .u64 (y.2.1 : Int)) := (hz.cell (p := ⟨b2, o2 + k * 4 + 2, none⟩) hb2).trans (P2.out 2 _ rfl); have r2 : wz.cell? ⟨b2, o2 + k * 4 + 3, none⟩ = some (.int .i64 y.2.2) := (hz.cell (p := ⟨b2, o2 + k * 4 + 3, none⟩) hb2).trans (P2.out 3 _ rfl); go_simp <;> with_reducible rfl)
          simp only [List.setIfInBounds_toArray, List.set_cons_zero, List.set_cons_succ]
          refine takeH (i := 1) (d := 18) (v := ?vcm11) rfl (by kernel_rfl) (by kernel_rfl) (by kernel_rfl) (fun _ _ _ h => h) rfl (by rfl) ?ycm11 hS ?rcm11
          case ycm11 => (intro wz hz; have q1 : wz.cell? ⟨b1, o1 + k * 2, none⟩ = some (.int .u64 (x.1 : Int)) := (hz.cell (p := ⟨b1, o1 + k * 2, none⟩) hb1).trans (P1.out 0 _ rfl); have q2 : wz.cell? ⟨b1, o1 + k * 2 + 1, none⟩ = some (.int .i64 x.2) := (hz.cell (p := ⟨b1, o1 + k * 2 + 1, none⟩) hb1).trans (P1.out 1 _ rfl); have r1 : wz.cell? ⟨b2, o2 + k * 4 + 2, none⟩ = some (.int .u64 (y.2.1 : Int)) := (hz.cell (p := ⟨b2, o2 + k * 4 + 2, none⟩) hb2).trans (P2.out 2 _ rfl); have r2 : wz.cell? ⟨b2, o2 + k * 4 + 3, none⟩ = some (.int .i64 y.2.2) := (hz.cell (p := ⟨b2, o2 + k * 4 + 3, none⟩) hb2).trans (P2.out 3 _ rfl); go_simp <;> with_reducible rfl)
          simp only [List.setIfInBounds_toArray, List.set_cons_zero, List.set_cons_succ]
          refine takeH (i := 2) (d := 19) (v := ?vcm12) rfl (by kernel_rfl) (by kernel_rfl) (by kernel_rfl) (fun _ _ _ h => h) rfl (by rfl) ?ycm12 hS ?rcm12
          case ycm12 => (intro wz hz; have q1 : wz.cell? ⟨b1, o1 + k * 2, none⟩ = some (.int .u64 (x.1 : Int)) := (hz.cell (p := ⟨b1, o1 + k * 2, none⟩) hb1).trans (P1.out 0 _ rfl); have q2 : wz.cell? ⟨b1, o1 + k * 2 + 1, none⟩ = some (.int .i64 x.2) := (hz.cell (p := ⟨b1, o1 + k * 2 + 1, none⟩) hb1).trans (P1.out 1 _ rfl); have r1 : wz.cell? ⟨b2, o2 + k * 4 + 2, none⟩ = some (.int .u64 (y.2.1 : Int)) := (hz.cell (p := ⟨b2, o2 + k * 4 + 2, none⟩) hb2).trans (P2.out 2 _ rfl); have r2 : wz.cell? ⟨b2, o2 + k * 4 + 3, none⟩ = some (.int .i64 y.2.2) := (hz.cell (p := ⟨b2, o2 + k * 4 + 3, none⟩) hb2).trans (P2.out 3 _ rfl); go_simp <;> with_reducible rfl)
          simp only [List.setIfInBounds_toArray, List.set_cons_zero, List.set_cons_succ]
          refine takeH (i := 3) (d := 20) (v := ?vcm13) rfl (by kernel_rfl) (by kernel_rfl) (by kernel_rfl) (fun _ _ _ h => h) rfl (by rfl) ?ycm13 hS ?rcm13
          case ycm13 => (intro wz hz; have q1 : wz.cell? ⟨b1, o1 + k * 2, none⟩ = some (.int .u64 (x.1 : Int)) := (hz.cell (p := ⟨b1, o1 + k * 2, none⟩) hb1).trans (P1.out 0 _ rfl); have q2 : wz.cell? ⟨b1, o1 + k * 2 + 1, none⟩ = some (.int .i64 x.2) := (hz.cell (p := ⟨b1, o1 + k * 2 + 1, none⟩) hb1).trans (P1.out 1 _ rfl); have r1 : wz.cell? ⟨b2, o2 + k * 4 + 2, none⟩ = some (.int .u64 (y.2.1 : Int)) := (hz.cell (p := ⟨b2, o2 + k * 4 + 2, none⟩) hb2).trans (P2.out 2 _ rfl); have r2 : wz.cell? ⟨b2, o2 + k * 4 + 3, none⟩ = some (.int .i64 y.2.2) := (hz.cell (p := ⟨b2, o2 + k * 4 + 3, none⟩) hb2).trans (P2.out 3 _ rfl); go_simp <;> with_reducible rfl)
          simp only [List.setIfInBounds_toArray, List.set_cons_zero, List.set_cons_succ]
          refine takeH (i := 4) (d := 21) (v := ?vcm14) rfl (by kernel_rfl) (by kernel_rfl) (by kernel_rfl) (fun _ _ _ h => h) rfl (by rfl) ?ycm14 hS ?rcm14
          case ycm14 => (intro wz hz; have q1 : wz.cell? ⟨b1, o1 + k * 2, none⟩ = some (.int .u64 (x.1 : Int)) := (hz.cell (p := ⟨b1, o1 + k * 2, none⟩) hb1).trans (P1.out 0 _ rfl); have q2 : wz.cell? ⟨b1, o1 + k * 2 + 1, none⟩ = some (.int .i64 x.2) := (hz.cell (p := ⟨b1, o1 + k * 2 + 1, none⟩) hb1).trans (P1.out 1 _ rfl); have r1 : wz.cell? ⟨b2, o2 + k * 4 + 2, none⟩ = some (.int .u64 (y.2.1 : Int)) := (hz.cell (p := ⟨b2, o2 + k * 4 + 2, none⟩) hb2).trans (P2.out 2 _ rfl); have r2 : wz.cell? ⟨b2, o2 + k * 4 + 3, none⟩ = some (.int .i64 y.2.2) := (hz.cell (p := ⟨b2, o2 + k * 4 + 3, none⟩) hb2).trans (P2.out 3 _ rfl); go_simp <;> with_reducible rfl)
          simp only [List.setIfInBounds_toArray, List.set_cons_zero, List.set_cons_succ]
          refine takeH (i := 5) (d := 22) (v := ?vcm15) rfl (by kernel_rfl) (by kernel_rfl) (by kernel_rfl) (fun _ _ _ h => h) rfl (by rfl) ?ycm15 hS ?rcm15
          case ycm15 => (intro wz hz; have q1 : wz.cell? ⟨b1, o1 + k * 2, none⟩ = some (.int .u64 (x.1 : Int)) := (hz.cell (p := ⟨b1, o1 + k * 2, none⟩) hb1).trans (P1.out 0 _ rfl); have q2 : wz.cell? ⟨b1, o1 + k * 2 + 1, none⟩ = some (.int .i64 x.2) := (hz.cell (p := ⟨b1, o1 + k * 2 + 1, none⟩) hb1).trans (P1.out 1 _ rfl); have r1 : wz.cell? ⟨b2, o2 + k * 4 + 2, none⟩ = some (.int .u64 (y.2.1 : Int)) := (hz.cell (p := ⟨b2, o2 + k * 4 + 2, none⟩) hb2).trans (P2.out 2 _ rfl); have r2 : wz.cell? ⟨b2, o2 + k * 4 + 3, none⟩ = some (.int .i64 y.2.2) := (hz.cell (p := ⟨b2, o2 + k * 4 + 3, none⟩) hb2).trans (P2.out 3 _ rfl); go_simp <;> with_reducible rfl)
          simp only [List.setIfInBounds_toArray, List.set_cons_zero, List.set_cons_succ]
          refine takeH (i := 6) (d := 23) (v := ?vcm16) rfl (by kernel_rfl) (by kernel_rfl) (by kernel_rfl) (fun _ _ _ h => h) rfl (by rfl) ?ycm16 hS ?rcm16
          case ycm16 => (intro wz hz; have q1 : wz.cell? ⟨b1, o1 + k * 2, none⟩ = some (.int .u64 (x.1 : Int)) := (hz.cell (p := ⟨b1, o1 + k * 2, none⟩) hb1).trans (P1.out 0 _ rfl); have q2 : wz.cell? ⟨b1, o1 + k * 2 + 1, none⟩ = some (.int .i64 x.2) := (hz.cell (p := ⟨b1, o1 + k * 2 + 1, none⟩) hb1).trans (P1.out 1 _ rfl); have r1 : wz.cell? ⟨b2, o2 + k * 4 + 2, none⟩ = some (.int .u64 (y.2.1 : Int)) := (hz.cell (p := ⟨b2, o2 + k * 4 + 2, none⟩) hb2).trans (P2.out 2 _ rfl); have r2 : wz.cell? ⟨b2, o2 + k * 4 + 3, none⟩ = some (.int .i64 y.2.2) := (hz.cell (p := ⟨b2, o2 + k * 4 + 3, none⟩) hb2).trans (P2.out 3 _ rfl); go_simp <;> with_reducible rfl)
          simp only [List.setIfInBounds_toArray, List.set_cons_zero, List.set_cons_succ]
          refine takeH (i := 7) (d := 24) (v := ?vcm17) rfl (by kernel_rfl) (by kernel_rfl) (by kernel_rfl) (fun _ _ _ h => h) rfl (by rfl) ?ycm17 hS ?rcm17
          case ycm17 => (intro wz hz; have q1 : wz.cell? ⟨b1, o1 + k * 2, none⟩ = some (.int .u64 (x.1 : Int)) := (hz.cell (p := ⟨b1, o1 + k * 2, none⟩) hb1).trans (P1.out 0 _ rfl); have q2 : wz.cell? ⟨b1, o1 + k * 2 + 1, none⟩ = some (.int .i64 x.2) := (hz.cell (p := ⟨b1, o1 + k * 2 + 1, none⟩) hb1).trans (P1.out 1 _ rfl); have r1 : wz.cell? ⟨b2, o2 + k * 4 + 2, none⟩ = some (.int .u64 (y.2.1 : Int)) := (hz.cell (p := ⟨b2, o2 + k * 4 + 2, none⟩) hb2).trans (P2.out 2 _ rfl); have r2 : wz.cell? ⟨b2, o2 + k * 4 + 3, none⟩ = some (.int .i64 y.2.2) := (hz.cell (p := ⟨b2, o2 + k * 4 + 3, none⟩) hb2).trans (P2.out 3 _ rfl); go_simp <;> with_reducible rfl)
          simp only [List.setIfInBounds_toArray, List.set_cons_zero, List.set_cons_succ]
          refine takeH (i := 8) (d := 25) (v := ?vcm18) rfl (by kernel_rfl) (by kernel_rfl) (by kernel_rfl) (fun _ _ _ h => h) rfl (by rfl) ?ycm18 hS ?rcm18
          case ycm18 => (intro wz hz; have q1 : wz.cell? ⟨b1, o1 + k * 2, none⟩ = some (.int .u64 (x.1 : Int)) := (hz.cell (p := ⟨b1, o1 + k * 2, none⟩) hb1).trans (P1.out 0 _ rfl); have q2 : wz.cell? ⟨b1, o1 + k * 2 + 1, none⟩ = some (.int .i64 x.2) := (hz.cell (p := ⟨b1, o1 + k * 2 + 1, none⟩) hb1).trans (P1.out 1 _ rfl); have r1 : wz.cell? ⟨b2, o2 + k * 4 + 2, none⟩ = some (.int .u64 (y.2.1 : Int)) := (hz.cell (p := ⟨b2, o2 + k * 4 + 2, none⟩) hb2).trans (P2.out 2 _ rfl); have r2 : wz.cell? ⟨b2, o2 + k * 4 + 3, none⟩ = some (.int .i64 y.2.2) := (hz.cell (p := ⟨b2, o2 + k * 4 + 3, none⟩) hb2).trans (P2.out 3 _ rfl); go_simp <;> with_reducible rfl)
          simp only [List.setIfInBounds_toArray, List.set_cons_zero, List.set_cons_succ]
          refine takeH (i := 9) (d := 26) (v := ?vcm19) rfl (by kernel_rfl) (by kernel_rfl) (by kernel_rfl) (fun _ _ _ h => h) rfl (by rfl) ?ycm19 hS ?rcm19
          case ycm19 => (intro wz hz; have q1 : wz.cell? ⟨b1, o1 + k * 2, none⟩ = some (.int .u64 (x.1 : Int)) := (hz.cell (p := ⟨b1, o1 + k * 2, none⟩) hb1).trans (P1.out 0 _ rfl); have q2 : wz.cell? ⟨b1, o1 + k * 2 + 1, none⟩ = some (.int .i64 x.2) := (hz.cell (p := ⟨b1, o1 + k * 2 + 1, none⟩) hb1).trans (P1.out 1 _ rfl); have r1 : wz.cell? ⟨b2, o2 + k * 4 + 2, none⟩ = some (.int .u64 (y.2.1 : Int)) := (hz.cell (p := ⟨b2, o2 + k * 4 + 2, none⟩) hb2).trans (P2.out 2 _ rfl); have r2 : wz.cell? ⟨b2, o2 + k * 4 + 3, none⟩ = some (.int .i64 y.2.2) := (hz.cell (p := ⟨b2, o2 + k * 4 + 3, none⟩) hb2).trans (P2.out 3 _ rfl); go_simp <;> with_reducible rfl)
          simp only [List.setIfInBounds_toArray, List.set_cons_zero, List.set_cons_succ]
          refine takeH (i := 10) (d := 27) (v := ?vcm110) rfl (by kernel_rfl) (by kernel_rfl) (by kernel_rfl) (fun _ _ _ h => h) rfl (by rfl) ?ycm110 hS ?rcm110
          case ycm110 => (intro wz hz; have q1 : wz.cell? ⟨b1, o1 + k * 2, none⟩ = some (.int .u64 (x.1 : Int)) := (hz.cell (p := ⟨b1, o1 + k * 2, none⟩) hb1).trans (P1.out 0 _ rfl); have q2 : wz.cell? ⟨b1, o1 + k * 2 + 1, none⟩ = some (.int .i64 x.2) := (hz.cell (p := ⟨b1, o1 + k * 2 + 1, none⟩) hb1).trans (P1.out 1 _ rfl); have r1 : wz.cell? ⟨b2, o2 + k * 4 + 2, none⟩ = some (.int .u64 (y.2.1 : Int)) := (hz.cell (p := ⟨b2, o2 + k * 4 + 2, none⟩) hb2).trans (P2.out 2 _ rfl); have r2 : wz.cell? ⟨b2, o2 + k * 4 + 3, none⟩ = some (.int .i64 y.2.2) := (hz.cell (p := ⟨b2, o2 + k * 4 + 3, none⟩) hb2).trans (P2.out 3 _ rfl); go_simp <;> with_reducible rfl)
          simp only [List.setIfInBounds_toArray, List.set_cons_zero, List.set_cons_succ]
          refine takeH (i := 11) (d := 28) (v := ?vcm111) rfl (by kernel_rfl) (by kernel_rfl) (by kernel_rfl) (fun _ _ _ h => h) rfl (by rfl) ?ycm111 hS ?rcm111
          case ycm111 => (intro wz hz; have q1 : wz.cell? ⟨b1, o1 + k * 2, none⟩ = some (.int .u64 (x.1 : Int)) := (hz.cell (p := ⟨b1, o1 + k * 2, none⟩) hb1).trans (P1.out 0 _ rfl); have q2 : wz.cell? ⟨b1, o1 + k * 2 + 1, none⟩ = some (.int .i64 x.2) := (hz.cell (p := ⟨b1, o1 + k * 2 + 1, none⟩) hb1).trans (P1.out 1 _ rfl); have r1 : wz.cell? ⟨b2, o2 + k * 4 + 2, none⟩ = some (.int .u64 (y.2.1 : Int)) := (hz.cell (p := ⟨b2, o2 + k * 4 + 2, none⟩) hb2).trans (P2.out 2 _ rfl); have r2 : wz.cell? ⟨b2, o2 + k * 4 + 3, none⟩ = some (.int .i64 y.2.2) := (hz.cell (p := ⟨b2, o2 + k * 4 + 3, none⟩) hb2).trans (P2.out 3 _ rfl); go_simp <;> with_reducible rfl)
          simp only [List.setIfInBounds_toArray, List.set_cons_zero, List.set_cons_succ]
          refine takeH (i := 12) (d := 29) (v := ?vcm112) rfl (by kernel_rfl) (by kernel_rfl) (by kernel_rfl) (fun _ _ _ h => h) rfl (by rfl) ?ycm112 hS ?rcm112
          case ycm112 => (intro wz hz; have q1 : wz.cell? ⟨b1, o1 + k * 2, none⟩ = some (.int .u64 (x.1 : Int)) := (hz.cell (p := ⟨b1, o1 + k * 2, none⟩) hb1).trans (P1.out 0 _ rfl); have q2 : wz.cell? ⟨b1, o1 + k * 2 + 1, none⟩ = some (.int .i64 x.2) := (hz.cell (p := ⟨b1, o1 + k * 2 + 1, none⟩) hb1).trans (P1.out 1 _ rfl); have r1 : wz.cell? ⟨b2, o2 + k * 4 + 2, none⟩ = some (.int .u64 (y.2.1 : Int)) := (hz.cell (p := ⟨b2, o2 + k * 4 + 2, none⟩) hb2).trans (P2.out 2 _ rfl); have r2 : wz.cell? ⟨b2, o2 + k * 4 + 3, none⟩ = some (.int .i64 y.2.2) := (hz.cell (p := ⟨b2, o2 + k * 4 + 3, none⟩) hb2).trans (P2.out 3 _ rfl); go_simp <;> with_reducible rfl)
          simp only [List.setIfInBounds_toArray, List.set_cons_zero, List.set_cons_succ]
          refine takeH (i := 13) (d := 30) (v := ?vcm113) rfl (by kernel_rfl) (by kernel_rfl) (by kernel_rfl) (fun _ _ _ h => h) rfl (by rfl) ?ycm113 hS ?rcm113
          case ycm113 => (intro wz hz; have q1 : wz.cell? ⟨b1, o1 + k * 2, none⟩ = some (.int .u64 (x.1 : Int)) := (hz.cell (p := ⟨b1, o1 + k * 2, none⟩) hb1).trans (P1.out 0 _ rfl); have q2 : wz.cell? ⟨b1, o1 + k * 2 + 1, none⟩ = some (.int .i64 x.2) := (hz.cell (p := ⟨b1, o1 + k * 2 + 1, none⟩) hb1).trans (P1.out 1 _ rfl); have r1 : wz.cell? ⟨b2, o2 + k * 4 + 2, none⟩ = some (.int .u64 (y.2.1 : Int)) := (hz.cell (p := ⟨b2, o2 + k * 4 + 2, none⟩) hb2).trans (P2.out 2 _ rfl); have r2 : wz.cell? ⟨b2, o2 + k * 4 + 3, none⟩ = some (.int .i64 y.2.2) := (hz.cell (p := ⟨b2, o2 + k * 4 + 3, none⟩) hb2).trans (P2.out 3 _ rfl); go_simp <;> with_reducible rfl)
          simp only [List.setIfInBounds_toArray, List.set_cons_zero, List.set_cons_succ]
          refine takeH (i := 14) (d := 31) (v := ?vcm114) rfl (by kernel_rfl) (by kernel_rfl) (by kernel_rfl) (fun _ _ _ h => h) rfl (by rfl) ?ycm114 hS ?rcm114
          case ycm114 => (intro wz hz; have q1 : wz.cell? ⟨b1, o1 + k * 2, none⟩ = some (.int .u64 (x.1 : Int)) := (hz.cell (p := ⟨b1, o1 + k * 2, none⟩) hb1).trans (P1.out 0 _ rfl); have q2 : wz.cell? ⟨b1, o1 + k * 2 + 1, none⟩ = some (.int .i64 x.2) := (hz.cell (p := ⟨b1, o1 + k * 2 + 1, none⟩) hb1).trans (P1.out 1 _ rfl); have r1 : wz.cell? ⟨b2, o2 + k * 4 + 2, none⟩ = some (.int .u64 (y.2.1 : Int)) := (hz.cell (p := ⟨b2, o2 + k * 4 + 2, none⟩) hb2).trans (P2.out 2 _ rfl); have r2 : wz.cell? ⟨b2, o2 + k * 4 + 3, none⟩ = some (.int .i64 y.2.2) := (hz.cell (p := ⟨b2, o2 + k * 4 + 3, none⟩) hb2).trans (P2.out 3 _ rfl); go_simp <;> with_reducible rfl)
          simp only [List.setIfInBounds_toArray, List.set_cons_zero, List.set_cons_succ]
          refine takeH (i := 15) (d := 32) (v := ?vcm115) rfl (by kernel_rfl) (by kernel_rfl) (by kernel_rfl) (fun _ _ _ h => h) rfl (by rfl) ?ycm115 hS ?rcm115
          case ycm115 => (intro wz hz; have q1 : wz.cell? ⟨b1, o1 + k * 2, none⟩ = some (.int .u64 (x.1 : Int)) := (hz.cell (p := ⟨b1, o1 + k * 2, none⟩) hb1).trans (P1.out 0 _ rfl); have q2 : wz.cell? ⟨b1, o1 + k * 2 + 1, none⟩ = some (.int .i64 x.2) := (hz.cell (p := ⟨b1, o1 + k * 2 + 1, none⟩) hb1).trans (P1.out 1 _ rfl); have r1 : wz.cell? ⟨b2, o2 + k * 4 + 2, none⟩ = some (.int .u64 (y.2.1 : Int)) := (hz.cell (p := ⟨b2, o2 + k * 4 + 2, none⟩) hb2).trans (P2.out 2 _ rfl); have r2 : wz.cell? ⟨b2, o2 + k * 4 + 3, none⟩ = some (.int .i64 y.2.2) := (hz.cell (p := ⟨b2, o2 + k * 4 + 3, none⟩) hb2).trans (P2.out 3 _ rfl); go_simp <;> with_reducible rfl)
          simp only [List.setIfInBounds_toArray, List.set_cons_zero, List.set_cons_succ]
          refine takeH (i := 16) (d := 33) (v := ?vcm116) rfl (by kernel_rfl) (by kernel_rfl) (by kernel_rfl) (fun _ _ _ h => h) rfl (by rfl) ?ycm116 hS ?rcm116
          case ycm116 => (intro wz hz; have q1 : wz.cell? ⟨b1, o1 + k * 2, none⟩ = some (.int .u64 (x.1 : Int)) := (hz.cell (p := ⟨b1, o1 + k * 2, none⟩) hb1).trans (P1.out 0 _ rfl); have q2 : wz.cell? ⟨b1, o1 + k * 2 + 1, none⟩ = some (.int .i64 x.2) := (hz.cell (p := ⟨b1, o1 + k * 2 + 1, none⟩) hb1).trans (P1.out 1 _ rfl); have r1 : wz.cell? ⟨b2, o2 + k * 4 + 2, none⟩ = some (.int .u64 (y.2.1 : Int)) := (hz.cell (p := ⟨b2, o2 + k * 4 + 2, none⟩) hb2).trans (P2.out 2 _ rfl); have r2 : wz.cell? ⟨b2, o2 + k * 4 + 3, none⟩ = some (.int .i64 y.2.2) := (hz.cell (p := ⟨b2, o2 + k * 4 + 3, none⟩) hb2).trans (P2.out 3 _ rfl); go_simp <;> with_reducible rfl)
          simp only [List.setIfInBounds_toArray, List.set_cons_zero, List.set_cons_succ]
          refine takeH (i := 17) (d := 34) (v := ?vcm117) rfl (by kernel_rfl) (by kernel_rfl) (by kernel_rfl) (fun _ _ _ h => h) rfl (by rfl) ?ycm117 hS ?rcm117
          case ycm117 => (intro wz hz; have q1 : wz.cell? ⟨b1, o1 + k * 2, none⟩ = some (.int .u64 (x.1 : Int)) := (hz.cell (p := ⟨b1, o1 + k * 2, none⟩) hb1).trans (P1.out 0 _ rfl); have q2 : wz.cell? ⟨b1, o1 + k * 2 + 1, none⟩ = some (.int .i64 x.2) := (hz.cell (p := ⟨b1, o1 + k * 2 + 1, none⟩) hb1).trans (P1.out 1 _ rfl); have r1 : wz.cell? ⟨b2, o2 + k * 4 + 2, none⟩ = some (.int .u64 (y.2.1 : Int)) := (hz.cell (p := ⟨b2, o2 + k * 4 + 2, none⟩) hb2).trans (P2.out 2 _ rfl); have r2 : wz.cell? ⟨b2, o2 + k * 4 + 3, none⟩ = some (.int .i64 y.2.2) := (hz.cell (p := ⟨b2, o2 + k * 4 + 3, none⟩) hb2).trans (P2.out 3 _ rfl); go_simp <;> with_reducible rfl)
          simp only [List.setIfInBounds_toArray, List.set_cons_zero, List.set_cons_succ]
          refine takeH (i := 18) (d := 35) (v := ?vcm118) rfl (by kernel_rfl) (by kernel_rfl) (by kernel_rfl) (fun _ _ _ h => h) rfl (by rfl) ?ycm118 hS ?rcm118
          case ycm118 => (intro wz hz; have q1 : wz.cell? ⟨b1, o1 + k * 2, none⟩ = some (.int .u64 (x.1 : Int)) := (hz.cell (p := ⟨b1, o1 + k * 2, none⟩) hb1).trans (P1.out 0 _ rfl); have q2 : wz.cell? ⟨b1, o1 + k * 2 + 1, none⟩ = some (.int .i64 x.2) := (hz.cell (p := ⟨b1, o1 + k * 2 + 1, none⟩) hb1).trans (P1.out 1 _ rfl); have r1 : wz.cell? ⟨b2, o2 + k * 4 + 2, none⟩ = some (.int .u64 (y.2.1 : Int)) := (hz.cell (p := ⟨b2, o2 + k * 4 + 2, none⟩) hb2).trans (P2.out 2 _ rfl); have r2 : wz.cell? ⟨b2, o2 + k * 4 + 3, none⟩ = some (.int .i64 y.2.2) := (hz.cell (p := ⟨b2, o2 + k * 4 + 3, none⟩) hb2).trans (P2.out 3 _ rfl); go_simp <;> with_reducible rfl)
          simp only [List.setIfInBounds_toArray, List.set_cons_zero, List.set_cons_succ]
          refine takeH (i := 19) (d := 36) (v := ?vcm119) rfl (by kernel_rfl) (by kernel_rfl) (by kernel_rfl) (fun _ _ _ h => h) rfl (by rfl) ?ycm119 hS ?rcm119
          case ycm119 => (intro wz hz; have q1 : wz.cell? ⟨b1, o1 + k * 2, none⟩ = some (.int .u64 (x.1 : Int)) := (hz.cell (p := ⟨b1, o1 + k * 2, none⟩) hb1).trans (P1.out 0 _ rfl); have q2 : wz.cell? ⟨b1, o1 + k * 2 + 1, none⟩ = some (.int .i64 x.2) := (hz.cell (p := ⟨b1, o1 + k * 2 + 1, none⟩) hb1).trans (P1.out 1 _ rfl); have r1 : wz.cell? ⟨b2, o2 + k * 4 + 2, none⟩ = some (.int .u64 (y.2.1 : Int)) := (hz.cell (p := ⟨b2, o2 + k * 4 + 2, none⟩) hb2).trans (P2.out 2 _ rfl); have r2 : wz.cell? ⟨b2, o2 + k * 4 + 3, none⟩ = some (.int .i64 y.2.2) := (hz.cell (p := ⟨b2, o2 + k * 4 + 3, none⟩) hb2).trans (P2.out 3 _ rfl); go_simp <;> with_reducible rfl)
          simp only [List.setIfInBounds_toArray, List.set_cons_zero, List.set_cons_succ]
          refine takeH (i := 20) (d := 37) (v := ?vcm120) rfl (by kernel_rfl) (by kernel_rfl) (by kernel_rfl) (fun _ _ _ h => h) rfl (by rfl) ?ycm120 hS ?rcm120
          case ycm120 => (intro wz hz; have q1 : wz.cell? ⟨b1, o1 + k * 2, none⟩ = some (.int .u64 (x.1 : Int)) := (hz.cell (p := ⟨b1, o1 + k * 2, none⟩) hb1).trans (P1.out 0 _ rfl); have q2 : wz.cell? ⟨b1, o1 + k * 2 + 1, none⟩ = some (.int .i64 x.2) := (hz.cell (p := ⟨b1, o1 + k * 2 + 1, none⟩) hb1).trans (P1.out 1 _ rfl); have r1 : wz.cell? ⟨b2, o2 + k * 4 + 2, none⟩ = some (.int .u64 (y.2.1 : Int)) := (hz.cell (p := ⟨b2, o2 + k * 4 + 2, none⟩) hb2).trans (P2.out 2 _ rfl); have r2 : wz.cell? ⟨b2, o2 + k * 4 + 3, none⟩ = some (.int .i64 y.2.2) := (hz.cell (p := ⟨b2, o2 + k * 4 + 3, none⟩) hb2).trans (P2.out 3 _ rfl); go_simp <;> with_reducible rfl)
          simp only [List.setIfInBounds_toArray, List.set_cons_zero, List.set_cons_succ]
          refine takeH (i := 21) (d := 38) (v := ?vcm121) rfl (by kernel_rfl) (by kernel_rfl) (by kernel_rfl) (fun _ _ _ h => h) rfl (by rfl) ?ycm121 hS ?rcm121
          case ycm121 => (intro wz hz; have q1 : wz.cell? ⟨b1, o1 + k * 2, none⟩ = some (.int .u64 (x.1 : Int)) := (hz.cell (p := ⟨b1, o1 + k * 2, none⟩) hb1).trans (P1.out 0 _ rfl); have q2 : wz.cell? ⟨b1, o1 + k * 2 + 1, none⟩ = some (.int .i64 x.2) := (hz.cell (p := ⟨b1, o1 + k * 2 + 1, none⟩) hb1).trans (P1.out 1 _ rfl); have r1 : wz.cell? ⟨b2, o2 + k * 4 + 2, none⟩ = some (.int .u64 (y.2.1 : Int)) := (hz.cell (p := ⟨b2, o2 + k * 4 + 2, none⟩) hb2).trans (P2.out 2 _ rfl); have r2 : wz.cell? ⟨b2, o2 + k * 4 + 3, none⟩ = some (.int .i64 y.2.2) := (hz.cell (p := ⟨b2, o2 + k * 4 + 3, none⟩) hb2).trans (P2.out 3 _ rfl); go_simp <;> with_reducible rfl)
          simp only [List.setIfInBounds_toArray, List.set_cons_zero, List.set_cons_succ]
          refine takeH (i := 22) (d := 39) (v := ?vcm122) rfl (by kernel_rfl) (by kernel_rfl) (by kernel_rfl) (fun _ _ _ h => h) rfl (by rfl) ?ycm122 hS ?rcm122
          case ycm122 => (intro wz hz; have q1 : wz.cell? ⟨b1, o1 + k * 2, none⟩ = some (.int .u64 (x.1 : Int)) := (hz.cell (p := ⟨b1, o1 + k * 2, none⟩) hb1).trans (P1.out 0 _ rfl); have q2 : wz.cell? ⟨b1, o1 + k * 2 + 1, none⟩ = some (.int .i64 x.2) := (hz.cell (p := ⟨b1, o1 + k * 2 + 1, none⟩) hb1).trans (P1.out 1 _ rfl); have r1 : wz.cell? ⟨b2, o2 + k * 4 + 2, none⟩ = some (.int .u64 (y.2.1 : Int)) := (hz.cell (p := ⟨b2, o2 + k * 4 + 2, none⟩) hb2).trans (P2.out 2 _ rfl); have r2 : wz.cell? ⟨b2, o2 + k * 4 + 3, none⟩ = some (.int .i64 y.2.2) := (hz.cell (p := ⟨b2, o2 + k * 4 + 3, none⟩) hb2).trans (P2.out 3 _ rfl); go_simp <;> with_reducible rfl)
          simp only [List.setIfInBounds_toArray, List.set_cons_zero, List.set_cons_succ]
          refine takeH (i := 23) (d := 40) (v := ?vcm123) rfl (by kernel_rfl) (by kernel_rfl) (by kernel_rfl) (fun _ _ _ h => h) rfl (by rfl) ?ycm123 hS ?rcm123
          case ycm123 => (intro wz hz; have q1 : wz.cell? ⟨b1, o1 + k * 2, none⟩ = some (.int .u64 (x.1 : Int)) := (hz.cell (p := ⟨b1, o1 + k * 2, none⟩) hb1).trans (P1.out 0 _ rfl); have q2 : wz.cell? ⟨b1, o1 + k * 2 + 1, none⟩ = some (.int .i64 x.2) := (hz.cell (p := ⟨b1, o1 + k * 2 + 1, none⟩) hb1).trans (P1.out 1 _ rfl); have r1 : wz.cell? ⟨b2, o2 + k * 4 + 2, none⟩ = some (.int .u64 (y.2.1 : Int)) := (hz.cell (p := ⟨b2, o2 + k * 4 + 2, none⟩) hb2).trans (P2.out 2 _ rfl); have r2 : wz.cell? ⟨b2, o2 + k * 4 + 3, none⟩ = some (.int .i64 y.2.2) := (hz.cell (p := ⟨b2, o2 + k * 4 + 3, none⟩) hb2).trans (P2.out 3 _ rfl); go_simp <;> with_reducible rfl)
          simp only [List.setIfInBounds_toArray, List.set_cons_zero, List.set_cons_succ]
          refine wpAnyH_done (by kernel_rfl) ?_ _
          have HS := Lib.hid hS
          clear hS
          cases bm
          · go_wp2_with fail
            refine ⟨⟨k + 1, by omega, by go_num, HS, Lib.hid ?_⟩, by simp [intOf]; omega⟩
            have hxy : x = y.2 := by
              have e1 : x.1 = y.2.1 := by have := HBN.out; simpa using this
              have e2 : x.2 = y.2.2 := by have := HBM.out; simpa using this
              exact Prod.ext e1 e2
            rw [List.take_add_one, List.take_add_one, HT.out, List.getElem?_eq_getElem hk1, List.getElem?_eq_getElem hk3, HX.out, HY.out, hxy]
          · go_wp2_with fail
            go_ret
            exact ⟨by rw [HNE.out (.inr trivial)]; rfl, HS.out⟩
        · 
          refine wp_region_held_drew (S := Below w.heap.size w) (by kernel_rfl) (HR.out.drew) (fun hS => ?_)
          refine takeH (i := 0) (d := 17) (v := ?vcm00) rfl (by kernel_rfl) (by kernel_rfl) (by kernel_rfl) (fun _ _ _ h => h) rfl (by rfl) ?ycm00 hS ?rcm00
          case ycm00 => (intro wz hz; have q1 : wz.cell? ⟨b1, o1 + k * 2, none⟩ = some (.int .u64 (x.1 : Int)) := (hz.cell (p := ⟨b1, o1 + k * 2, none⟩) hb1).trans (P1.out 0 _ rfl); have q2 : wz.cell? ⟨b1, o1 + k * 2 + 1, none⟩ = some (.int .i64 x.2) := (hz.cell (p := ⟨b1, o1 + k * 2 + 1, none⟩) hb1).trans (P1.out 1 _ rfl); have r1 : wz.cell? ⟨b2, o2 + k * 4 + 2, none⟩ = some (.int .u64 (y.2.1 : Int)) := (hz.cell (p := ⟨b2, o2 + k * 4 + 2, none⟩) hb2).trans (P2.out 2 _ rfl); have r2 : wz.cell? ⟨b2, o2 + k * 4 + 3, none⟩ = some (.int .i64 y.2.2) := (hz.cell (p := ⟨b2, o2 + k * 4 + 3, none⟩) hb2).trans (P2.out 3 _ rfl); go_simp <;> with_reducible rfl)
          simp only [List.setIfInBounds_toArray, List.set_cons_zero, List.set_cons_succ]
          refine takeH (i := 1) (d := 18) (v := ?vcm01) rfl (by kernel_rfl) (by kernel_rfl) (by kernel_rfl) (fun _ _ _ h => h) rfl (by rfl) ?ycm01 hS ?rcm01
          case ycm01 => (intro wz hz; have q1 : wz.cell? ⟨b1, o1 + k * 2, none⟩ = some (.int .u64 (x.1 : Int)) := (hz.cell (p := ⟨b1, o1 + k * 2, none⟩) hb1).trans (P1.out 0 _ rfl); have q2 : wz.cell? ⟨b1, o1 + k * 2 + 1, none⟩ = some (.int .i64 x.2) := (hz.cell (p := ⟨b1, o1 + k * 2 + 1, none⟩) hb1).trans (P1.out 1 _ rfl); have r1 : wz.cell? ⟨b2, o2 + k * 4 + 2, none⟩ = some (.int .u64 (y.2.1 : Int)) := (hz.cell (p := ⟨b2, o2 + k * 4 + 2, none⟩) hb2).trans (P2.out 2 _ rfl); have r2 : wz.cell? ⟨b2, o2 + k * 4 + 3, none⟩ = some (.int .i64 y.2.2) := (hz.cell (p := ⟨b2, o2 + k * 4 + 3, none⟩) hb2).trans (P2.out 3 _ rfl); go_simp <;> with_reducible rfl)
          simp only [List.setIfInBounds_toArray, List.set_cons_zero, List.set_cons_succ]
          refine takeH (i := 2) (d := 19) (v := ?vcm02) rfl (by kernel_rfl) (by kernel_rfl) (by kernel_rfl) (fun _ _ _ h => h) rfl (by rfl) ?ycm02 hS ?rcm02
          case ycm02 => (intro wz hz; have q1 : wz.cell? ⟨b1, o1 + k * 2, none⟩ = some (.int .u64 (x.1 : Int)) := (hz.cell (p := ⟨b1, o1 + k * 2, none⟩) hb1).trans (P1.out 0 _ rfl); have q2 : wz.cell? ⟨b1, o1 + k * 2 + 1, none⟩ = some (.int .i64 x.2) := (hz.cell (p := ⟨b1, o1 + k * 2 + 1, none⟩) hb1).trans (P1.out 1 _ rfl); have r1 : wz.cell? ⟨b2, o2 + k * 4 + 2, none⟩ = some (.int .u64 (y.2.1 : Int)) := (hz.cell (p := ⟨b2, o2 + k * 4 + 2, none⟩) hb2).trans (P2.out 2 _ rfl); have r2 : wz.cell? ⟨b2, o2 + k * 4 + 3, none⟩ = some (.int .i64 y.2.2) := (hz.cell (p := ⟨b2, o2 + k * 4 + 3, none⟩) hb2).trans (P2.out 3 _ rfl); go_simp <;> with_reducible rfl)
          simp only [List.setIfInBounds_toArray, List.set_cons_zero, List.set_cons_succ]
          refine takeH (i := 3) (d := 20) (v := ?vcm03) rfl (by kernel_rfl) (by kernel_rfl) (by kernel_rfl) (fun _ _ _ h => h) rfl (by rfl) ?ycm03 hS ?rcm03
          case ycm03 => (intro wz hz; have q1 : wz.cell? ⟨b1, o1 + k * 2, none⟩ = some (.int .u64 (x.1 : Int)) := (hz.cell (p := ⟨b1, o1 + k * 2, none⟩) hb1).trans (P1.out 0 _ rfl); have q2 : wz.cell? ⟨b1, o1 + k * 2 + 1, none⟩ = some (.int .i64 x.2) := (hz.cell (p := ⟨b1, o1 + k * 2 + 1, none⟩) hb1).trans (P1.out 1 _ rfl); have r1 : wz.cell? ⟨b2, o2 + k * 4 + 2, none⟩ = some (.int .u64 (y.2.1 : Int)) := (hz.cell (p := ⟨b2, o2 + k * 4 + 2, none⟩) hb2).trans (P2.out 2 _ rfl); have r2 : wz.cell? ⟨b2, o2 + k * 4 + 3, none⟩ = some (.int .i64 y.2.2) := (hz.cell (p := ⟨b2, o2 + k * 4 + 3, none⟩) hb2).trans (P2.out 3 _ rfl); go_simp <;> with_reducible rfl)
          simp only [List.setIfInBounds_toArray, List.set_cons_zero, List.set_cons_succ]
          refine takeH (i := 4) (d := 21) (v := ?vcm04) rfl (by kernel_rfl) (by kernel_rfl) (by kernel_rfl) (fun _ _ _ h => h) rfl (by rfl) ?ycm04 hS ?rcm04
          case ycm04 => (intro wz hz; have q1 : wz.cell? ⟨b1, o1 + k * 2, none⟩ = some (.int .u64 (x.1 : Int)) := (hz.cell (p := ⟨b1, o1 + k * 2, none⟩) hb1).trans (P1.out 0 _ rfl); have q2 : wz.cell? ⟨b1, o1 + k * 2 + 1, none⟩ = some (.int .i64 x.2) := (hz.cell (p := ⟨b1, o1 + k * 2 + 1, none⟩) hb1).trans (P1.out 1 _ rfl); have r1 : wz.cell? ⟨b2, o2 + k * 4 + 2, none⟩ = some (.int .u64 (y.2.1 : Int)) := (hz.cell (p := ⟨b2, o2 + k * 4 + 2, none⟩) hb2).trans (P2.out 2 _ rfl); have r2 : wz.cell? ⟨b2, o2 + k * 4 + 3, none⟩ = some (.int .i64 y.2.2) := (hz.cell (p := ⟨b2, o2 + k * 4 + 3, none⟩) hb2).trans (P2.out 3 _ rfl); go_simp <;> with_reducible rfl)
          simp only [List.setIfInBounds_toArray, List.set_cons_zero, List.set_cons_succ]
          refine takeH (i := 5) (d := 22) (v := ?vcm05) rfl (by kernel_rfl) (by kernel_rfl) (by kernel_rfl) (fun _ _ _ h => h) rfl (by rfl) ?ycm05 hS ?rcm05
          case ycm05 => (intro wz hz; have q1 : wz.cell? ⟨b1, o1 + k * 2, none⟩ = some (.int .u64 (x.1 : Int)) := (hz.cell (p := ⟨b1, o1 + k * 2, none⟩) hb1).trans (P1.out 0 _ rfl); have q2 : wz.cell? ⟨b1, o1 + k * 2 + 1, none⟩ = some (.int .i64 x.2) := (hz.cell (p := ⟨b1, o1 + k * 2 + 1, none⟩) hb1).trans (P1.out 1 _ rfl); have r1 : wz.cell? ⟨b2, o2 + k * 4 + 2, none⟩ = some (.int .u64 (y.2.1 : Int)) := (hz.cell (p := ⟨b2, o2 + k * 4 + 2, none⟩) hb2).trans (P2.out 2 _ rfl); have r2 : wz.cell? ⟨b2, o2 + k * 4 + 3, none⟩ = some (.int .i64 y.2.2) := (hz.cell (p := ⟨b2, o2 + k * 4 + 3, none⟩) hb2).trans (P2.out 3 _ rfl); go_simp <;> with_reducible rfl)
          simp only [List.setIfInBounds_toArray, List.set_cons_zero, List.set_cons_succ]
          refine takeH (i := 6) (d := 23) (v := ?vcm06) rfl (by kernel_rfl) (by kernel_rfl) (by kernel_rfl) (fun _ _ _ h => h) rfl (by rfl) ?ycm06 hS ?rcm06
          case ycm06 => (intro wz hz; have q1 : wz.cell? ⟨b1, o1 + k * 2, none⟩ = some (.int .u64 (x.1 : Int)) := (hz.cell (p := ⟨b1, o1 + k * 2, none⟩) hb1).trans (P1.out 0 _ rfl); have q2 : wz.cell? ⟨b1, o1 + k * 2 + 1, none⟩ = some (.int .i64 x.2) := (hz.cell (p := ⟨b1, o1 + k * 2 + 1, none⟩) hb1).trans (P1.out 1 _ rfl); have r1 : wz.cell? ⟨b2, o2 + k * 4 + 2, none⟩ = some (.int .u64 (y.2.1 : Int)) := (hz.cell (p := ⟨b2, o2 + k * 4 + 2, none⟩) hb2).trans (P2.out 2 _ rfl); have r2 : wz.cell? ⟨b2, o2 + k * 4 + 3, none⟩ = some (.int .i64 y.2.2) := (hz.cell (p := ⟨b2, o2 + k * 4 + 3, none⟩) hb2).trans (P2.out 3 _ rfl); go_simp <;> with_reducible rfl)
          simp only [List.setIfInBounds_toArray, List.set_cons_zero, List.set_cons_succ]
          refine takeH (i := 7) (d := 24) (v := ?vcm07) rfl (by kernel_rfl) (by kernel_rfl) (by kernel_rfl) (fun _ _ _ h => h) rfl (by rfl) ?ycm07 hS ?rcm07
          case ycm07 => (intro wz hz; have q1 : wz.cell? ⟨b1, o1 + k * 2, none⟩ = some (.int .u64 (x.1 : Int)) := (hz.cell (p := ⟨b1, o1 + k * 2, none⟩) hb1).trans (P1.out 0 _ rfl); have q2 : wz.cell? ⟨b1, o1 + k * 2 + 1, none⟩ = some (.int .i64 x.2) := (hz.cell (p := ⟨b1, o1 + k * 2 + 1, none⟩) hb1).trans (P1.out 1 _ rfl); have r1 : wz.cell? ⟨b2, o2 + k * 4 + 2, none⟩ = some (.int .u64 (y.2.1 : Int)) := (hz.cell (p := ⟨b2, o2 + k * 4 + 2, none⟩) hb2).trans (P2.out 2 _ rfl); have r2 : wz.cell? ⟨b2, o2 + k * 4 + 3, none⟩ = some (.int .i64 y.2.2) := (hz.cell (p := ⟨b2, o2 + k * 4 + 3, none⟩) hb2).trans (P2.out 3 _ rfl); go_simp <;> with_reducible rfl)
          simp only [List.setIfInBounds_toArray, List.set_cons_zero, List.set_cons_succ]
          refine takeH (i := 8) (d := 25) (v := ?vcm08) rfl (by kernel_rfl) (by kernel_rfl) (by kernel_rfl) (fun _ _ _ h => h) rfl (by rfl) ?ycm08 hS ?rcm08
          case ycm08 => (intro wz hz; have q1 : wz.cell? ⟨b1, o1 + k * 2, none⟩ = some (.int .u64 (x.1 : Int)) := (hz.cell (p := ⟨b1, o1 + k * 2, none⟩) hb1).trans (P1.out 0 _ rfl); have q2 : wz.cell? ⟨b1, o1 + k * 2 + 1, none⟩ = some (.int .i64 x.2) := (hz.cell (p := ⟨b1, o1 + k * 2 + 1, none⟩) hb1).trans (P1.out 1 _ rfl); have r1 : wz.cell? ⟨b2, o2 + k * 4 + 2, none⟩ = some (.int .u64 (y.2.1 : Int)) := (hz.cell (p := ⟨b2, o2 + k * 4 + 2, none⟩) hb2).trans (P2.out 2 _ rfl); have r2 : wz.cell? ⟨b2, o2 + k * 4 + 3, none⟩ = some (.int .i64 y.2.2) := (hz.cell (p := ⟨b2, o2 + k * 4 + 3, none⟩) hb2).trans (P2.out 3 _ rfl); go_simp <;> with_reducible rfl)
          simp only [List.setIfInBounds_toArray, List.set_cons_zero, List.set_cons_succ]
          refine takeH (i := 9) (d := 26) (v := ?vcm09) rfl (by kernel_rfl) (by kernel_rfl) (by kernel_rfl) (fun _ _ _ h => h) rfl (by rfl) ?ycm09 hS ?rcm09
          case ycm09 => (intro wz hz; have q1 : wz.cell? ⟨b1, o1 + k * 2, none⟩ = some (.int .u64 (x.1 : Int)) := (hz.cell (p := ⟨b1, o1 + k * 2, none⟩) hb1).trans (P1.out 0 _ rfl); have q2 : wz.cell? ⟨b1, o1 + k * 2 + 1, none⟩ = some (.int .i64 x.2) := (hz.cell (p := ⟨b1, o1 + k * 2 + 1, none⟩) hb1).trans (P1.out 1 _ rfl); have r1 : wz.cell? ⟨b2, o2 + k * 4 + 2, none⟩ = some (.int .u64 (y.2.1 : Int)) := (hz.cell (p := ⟨b2, o2 + k * 4 + 2, none⟩) hb2).trans (P2.out 2 _ rfl); have r2 : wz.cell? ⟨b2, o2 + k * 4 + 3, none⟩ = some (.int .i64 y.2.2) := (hz.cell (p := ⟨b2, o2 + k * 4 + 3, none⟩) hb2).trans (P2.out 3 _ rfl); go_simp <;> with_reducible rfl)
          simp only [List.setIfInBounds_toArray, List.set_cons_zero, List.set_cons_succ]
          refine takeH (i := 10) (d := 27) (v := ?vcm010) rfl (by kernel_rfl) (by kernel_rfl) (by kernel_rfl) (fun _ _ _ h => h) rfl (by rfl) ?ycm010 hS ?rcm010
          case ycm010 => (intro wz hz; have q1 : wz.cell? ⟨b1, o1 + k * 2, none⟩ = some (.int .u64 (x.1 : Int)) := (hz.cell (p := ⟨b1, o1 + k * 2, none⟩) hb1).trans (P1.out 0 _ rfl); have q2 : wz.cell? ⟨b1, o1 + k * 2 + 1, none⟩ = some (.int .i64 x.2) := (hz.cell (p := ⟨b1, o1 + k * 2 + 1, none⟩) hb1).trans (P1.out 1 _ rfl); have r1 : wz.cell? ⟨b2, o2 + k * 4 + 2, none⟩ = some (.int .u64 (y.2.1 : Int)) := (hz.cell (p := ⟨b2, o2 + k * 4 + 2, none⟩) hb2).trans (P2.out 2 _ rfl); have r2 : wz.cell? ⟨b2, o2 + k * 4 + 3, none⟩ = some (.int .i64 y.2.2) := (hz.cell (p := ⟨b2, o2 + k * 4 + 3, none⟩) hb2).trans (P2.out 3 _ rfl); go_simp <;> with_reducible rfl)
          simp only [List.setIfInBounds_toArray, List.set_cons_zero, List.set_cons_succ]
          refine takeH (i := 11) (d := 28) (v := ?vcm011) rfl (by kernel_rfl) (by kernel_rfl) (by kernel_rfl) (fun _ _ _ h => h) rfl (by rfl) ?ycm011 hS ?rcm011
          case ycm011 => (intro wz hz; have q1 : wz.cell? ⟨b1, o1 + k * 2, none⟩ = some (.int .u64 (x.1 : Int)) := (hz.cell (p := ⟨b1, o1 + k * 2, none⟩) hb1).trans (P1.out 0 _ rfl); have q2 : wz.cell? ⟨b1, o1 + k * 2 + 1, none⟩ = some (.int .i64 x.2) := (hz.cell (p := ⟨b1, o1 + k * 2 + 1, none⟩) hb1).trans (P1.out 1 _ rfl); have r1 : wz.cell? ⟨b2, o2 + k * 4 + 2, none⟩ = some (.int .u64 (y.2.1 : Int)) := (hz.cell (p := ⟨b2, o2 + k * 4 + 2, none⟩) hb2).trans (P2.out 2 _ rfl); have r2 : wz.cell? ⟨b2, o2 + k * 4 + 3, none⟩ = some (.int .i64 y.2.2) := (hz.cell (p := ⟨b2, o2 + k * 4 + 3, none⟩) hb2).trans (P2.out 3 _ rfl); go_simp <;> with_reducible rfl)
          simp only [List.setIfInBounds_toArray, List.set_cons_zero, List.set_cons_succ]
          refine skipH (i := 12) (d := 29) rfl (by kernel_rfl) (by kernel_rfl) (by kernel_rfl) (fun _ _ _ h => h) rfl (by rfl) hS ?_
          simp only [List.setIfInBounds_toArray, List.set_cons_zero, List.set_cons_succ]
          refine skipH (i := 13) (d := 30) rfl (by kernel_rfl) (by kernel_rfl) (by kernel_rfl) (fun _ _ _ h => h) rfl (by rfl) hS ?_
          simp only [List.setIfInBounds_toArray, List.set_cons_zero, List.set_cons_succ]
          refine skipH (i := 14) (d := 31) rfl (by kernel_rfl) (by kernel_rfl) (by kernel_rfl) (fun _ _ _ h => h) rfl (by rfl) hS ?_
          simp only [List.setIfInBounds_toArray, List.set_cons_zero, List.set_cons_succ]
          refine skipH (i := 15) (d := 32) rfl (by kernel_rfl) (by kernel_rfl) (by kernel_rfl) (fun _ _ _ h => h) rfl (by rfl) hS ?_
          simp only [List.setIfInBounds_toArray, List.set_cons_zero, List.set_cons_succ]
          refine skipH (i := 16) (d := 33) rfl (by kernel_rfl) (by kernel_rfl) (by kernel_rfl) (fun _ _ _ h => h) rfl (by rfl) hS ?_
          simp only [List.setIfInBounds_toArray, List.set_cons_zero, List.set_cons_succ]
          refine skipH (i := 17) (d := 34) rfl (by kernel_rfl) (by kernel_rfl) (by kernel_rfl) (fun _ _ _ h => h) rfl (by rfl) hS ?_
          simp only [List.setIfInBounds_toArray, List.set_cons_zero, List.set_cons_succ]
          refine skipH (i := 18) (d := 35) rfl (by kernel_rfl) (by kernel_rfl) (by kernel_rfl) (fun _ _ _ h => h) rfl (by rfl) hS ?_
          simp only [List.setIfInBounds_toArray, List.set_cons_zero, List.set_cons_succ]
          refine skipH (i := 19) (d := 36) rfl (by kernel_rfl) (by kernel_rfl) (by kernel_rfl) (fun _ _ _ h => h) rfl (by rfl) hS ?_
          simp only [List.setIfInBounds_toArray, List.set_cons_zero, List.set_cons_succ]
          refine skipH (i := 20) (d := 37) rfl (by kernel_rfl) (by kernel_rfl) (by kernel_rfl) (fun _ _ _ h => h) rfl (by rfl) hS ?_
          simp only [List.setIfInBounds_toArray, List.set_cons_zero, List.set_cons_succ]
          refine skipH (i := 21) (d := 38) rfl (by kernel_rfl) (by kernel_rfl) (by kernel_rfl) (fun _ _ _ h => h) rfl (by rfl) hS ?_
          simp only [List.setIfInBounds_toArray, List.set_cons_zero, List.set_cons_succ]
          refine skipH (i := 22) (d := 39) rfl (by kernel_rfl) (by kernel_rfl) (by kernel_rfl) (fun _ _ _ h => h) rfl (by rfl) hS ?_
          simp only [List.setIfInBounds_toArray, List.set_cons_zero, List.set_cons_succ]
          refine takeH (i := 23) (d := 40) (v := ?vcm023) rfl (by kernel_rfl) (by kernel_rfl) (by kernel_rfl) (fun _ _ _ h => h) rfl (by rfl) ?ycm023 hS ?rcm023
          case ycm023 => (intro wz hz; have q1 : wz.cell? ⟨b1, o1 + k * 2, none⟩ = some (.int .u64 (x.1 : Int)) := (hz.cell (p := ⟨b1, o1 + k * 2, none⟩) hb1).trans (P1.out 0 _ rfl); have q2 : wz.cell? ⟨b1, o1 + k * 2 + 1, none⟩ = some (.int .i64 x.2) := (hz.cell (p := ⟨b1, o1 + k * 2 + 1, none⟩) hb1).trans (P1.out 1 _ rfl); have r1 : wz.cell? ⟨b2, o2 + k * 4 + 2, none⟩ = some (.int .u64 (y.2.1 : Int)) := (hz.cell (p := ⟨b2, o2 + k * 4 + 2, none⟩) hb2).trans (P2.out 2 _ rfl); have r2 : wz.cell? ⟨b2, o2 + k * 4 + 3, none⟩ = some (.int .i64 y.2.2) := (hz.cell (p := ⟨b2, o2 + k * 4 + 3, none⟩) hb2).trans (P2.out 3 _ rfl); go_simp <;> with_reducible rfl)
          simp only [List.setIfInBounds_toArray, List.set_cons_zero, List.set_cons_succ]
          refine wpAnyH_done (by kernel_rfl) ?_ _
          have HS := Lib.hid hS
          clear hS
          go_wp2_with fail
          go_ret
          exact ⟨by rw [HNE.out (.inl trivial)]; rfl, HS.out⟩
      · obtain rfl : k = n1 := by omega
        go_wp2_with fail
        go_ret
        have e : (l == cms m) = true := by
          have := HT.out
          rw [List.take_of_length_le (by omega), List.take_of_length_le (by rw [HCL.out]; omega)] at this
          rw [this, beq_self_eq_true]
        exact ⟨by rw [e]; rfl, HR.out⟩
  · have e1 : ((n1 : Int) != (n2 : Int)) = true := by rw [nat_bne]; simpa using hne
    have e : (l == cms m) = false := by
      rw [beq_eq_false_iff_ne]
      intro e
      rw [e] at hl1
      exact hne (by omega)
    have HE := Lib.hid e
    have HNE := Lib.hid hne
    clear e hne
    go_enter Tryz.func29, Tryz.ntmps29
    go_wp2_with fail
    go_ret
    exact ⟨by rw [HE.out]; rfl, Below.refl _ w⟩
end Go.Proofs.YthbifccankfngaaGreatDoor
