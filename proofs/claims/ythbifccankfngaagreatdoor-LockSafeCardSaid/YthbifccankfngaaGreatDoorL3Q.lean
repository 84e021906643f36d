/-
  The law's safe, where it says yes.
  Conditions: at most 100000 claims.
-/
import Derived.Test.YthbifccankfngaaGreatDoorL2Q
namespace Go.Proofs.YthbifccankfngaaGreatDoor
open Go.RowKit Go.Shelf
attribute [local go_sem] Oper.semAt_some
set_option maxRecDepth 20000

set_option maxHeartbeats 6400000 in
theorem safe_any (A1 A2 : Option Addr) (n1 c1 n2 c2 : Nat) (l q : List Cm) (w : World) (h1 : Lz (fun _ => False) w 2 A1 n1 (cmL l)) (h2 : Lz (fun _ => False) w 2 A2 n2 (cmL q)) (hn : n1 ≤ 100000)
    (hp : ∀ (i k : Nat) (hi : i < l.length) (hk : k < i), l[i].1 ≠ (l[k]'(by omega)).1 ∧ tog l[i].2 (l[k]'(by omega)).2 = true) (h0 : l ≠ []) (hq : ∀ c, q.head? = some c → ∃ x ∈ l, hind x c = true) :
    Calls Tryz.prog 12 #[.slice A1 n1 c1, .slice A2 n2 c2] w (RetB w (.bool true)) := by
  have hl1 := h1.cmlen
  have hl2 := h2.cmlen
  have hn0 : 0 < n1 := by rw [← hl1]; exact List.length_pos_iff.2 h0
  have H1 := Lib.hid h1
  have H2 := Lib.hid h2
  have HP := Lib.hid hp
  have HQ := Lib.hid hq
  obtain ⟨bb, oo, _, hA1, _, hbb, _⟩ := h1.cm hn0
  subst hA1
  have HC : Hid (∀ k (hk : k < l.length), w.rangeAt bb (oo + k * 2) (cmV l[k])) := fun k hk => by
    obtain ⟨b, o, _, hA, _, _, hr⟩ := H1.out.cm (k := k) (by omega)
    injection hA with hA
    injection hA with hA hB
    subst hA hB
    exact hr
  clear h1 h2 hp hq h0
  go_enter Tryz.func12, Tryz.ntmps12
  go_wp2_with fail
  go_loopw [5] (fun i wr => ∃ i0 : Nat, i0 ≤ n1 ∧ i = .int .i64 (i0 : Int) ∧ Hid (Below w.heap.size w wr)) (fun i _ => n1 - (intOf i).toNat)
  case atStart => exact ⟨0, Nat.zero_le _, rfl, Lib.hid (Below.refl _ w)⟩
  case round =>
    obtain ⟨i, hi, rfl, HR0⟩ := hrel
    by_cases hlt : i < n1
    · go_wp2_with fail
      go_loopw [6] (fun j wr => ∃ k : Nat, k ≤ i ∧ j = .int .i64 (k : Int) ∧ Hid (Below w.heap.size w wr)) (fun j _ => i - (intOf j).toNat)
      case atStart => exact ⟨0, Nat.zero_le _, rfl, HR0⟩
      case round =>
        obtain ⟨k, hk, rfl, HR⟩ := hrel
        by_cases hki : k < i
        · have hil : i < l.length := by omega
          have hkl : k < l.length := by omega
          have hkn : k < n1 := by omega
          obtain ⟨x, hx⟩ : ∃ x, l[i] = x := ⟨_, rfl⟩
          obtain ⟨y, hy⟩ : ∃ y, l[k] = y := ⟨_, rfl⟩
          have P1 : Hid (w.rangeAt bb (oo + i * 2) (cmV x)) := hx ▸ HC.out i hil
          have P2 : Hid (w.rangeAt bb (oo + k * 2) (cmV y)) := hy ▸ HC.out k hkl
          have hpp := HP.out i k hil hki
          rw [hx, hy] at hpp
          have e1 : ((x.1 : Int) == (y.1 : Int)) = false := by rw [nat_beq]; simpa using hpp.1
          have HTG := Lib.hid hpp.2
          clear hx hy hpp
          go_upto_region 7 with fail
          refine wp_region_held_drew (S := Below w.heap.size w) (by kernel_rfl) (HR.out.drew) (fun hS => ?_)
          refine takeH (i := 0) (d := 19) (v := ?vsa0) rfl (by kernel_rfl) (by kernel_rfl) (by kernel_rfl) (fun _ _ _ h => h) rfl (by rfl) ?ysa0 hS ?rsa0
          case ysa0 => (intro wz hz; have vax : wz.cell? ⟨bb, oo + i * 2, none⟩ = some (.int .u64 (x.1 : Int)) := (hz.cell (p := ⟨bb, oo + i * 2, none⟩) hbb).trans (P1.out 0 _ rfl); have vbx : wz.cell? ⟨bb, oo + i * 2 + 1, none⟩ = some (.int .i64 x.2) := (hz.cell (p := ⟨bb, oo + i * 2 + 1, none⟩) hbb).trans (P1.out 1 _ rfl); have vay : wz.cell? ⟨bb, oo + k * 2, none⟩ = some (.int .u64 (y.1 : Int)) := (hz.cell (p := ⟨bb, oo + k * 2, none⟩) hbb).trans (P2.out 0 _ rfl); have vby : wz.cell? ⟨bb, oo + k * 2 + 1, none⟩ = some (.int .i64 y.2) := (hz.cell (p := ⟨bb, oo + k * 2 + 1, none⟩) hbb).trans (P2.out 1 _ rfl); go_simp <;> with_reducible rfl)
          simp only [List.setIfInBounds_toArray, List.set_cons_zero, List.set_cons_succ]
          refine takeH (i := 1) (d := 20) (v := ?vsa1) rfl (by kernel_rfl) (by kernel_rfl) (by kernel_rfl) (fun _ _ _ h => h) rfl (by rfl) ?ysa1 hS ?rsa1
          case ysa1 => (intro wz hz; have vax : wz.cell? ⟨bb, oo + i * 2, none⟩ = some (.int .u64 (x.1 : Int)) := (hz.cell (p := ⟨bb, oo + i * 2, none⟩) hbb).trans (P1.out 0 _ rfl); have vbx : wz.cell? ⟨bb, oo + i * 2 + 1, none⟩ = some (.int .i64 x.2) := (hz.cell (p := ⟨bb, oo + i * 2 + 1, none⟩) hbb).trans (P1.out 1 _ rfl); have vay : wz.cell? ⟨bb, oo + k * 2, none⟩ = some (.int .u64 (y.1 : Int)) := (hz.cell (p := ⟨bb, oo + k * 2, none⟩) hbb).trans (P2.out 0 _ rfl); have vby : wz.cell? ⟨bb, oo + k * 2 + 1, none⟩ = some (.int .i64 y.2) := (hz.cell (p := ⟨bb, oo + k * 2 + 1, none⟩) hbb).trans (P2.out 1 _ rfl); go_simp <;> with_reducible rfl)
          simp only [List.setIfInBounds_toArray, List.set_cons_zero, List.set_cons_succ]
          refine takeH (i := 2) (d := 21) (v := ?vsa2) rfl (by kernel_rfl) (by kernel_rfl) (by kernel_rfl) (fun _ _ _ h => h) rfl (by rfl) ?ysa2 hS ?rsa2
          case ysa2 => (intro wz hz; have vax : wz.cell? ⟨bb, oo + i * 2, none⟩ = some (.int .u64 (x.1 : Int)) := (hz.cell (p := ⟨bb, oo + i * 2, none⟩) hbb).trans (P1.out 0 _ rfl); have vbx : wz.cell? ⟨bb, oo + i * 2 + 1, none⟩ = some (.int .i64 x.2) := (hz.cell (p := ⟨bb, oo + i * 2 + 1, none⟩) hbb).trans (P1.out 1 _ rfl); have vay : wz.cell? ⟨bb, oo + k * 2, none⟩ = some (.int .u64 (y.1 : Int)) := (hz.cell (p := ⟨bb, oo + k * 2, none⟩) hbb).trans (P2.out 0 _ rfl); have vby : wz.cell? ⟨bb, oo + k * 2 + 1, none⟩ = some (.int .i64 y.2) := (hz.cell (p := ⟨bb, oo + k * 2 + 1, none⟩) hbb).trans (P2.out 1 _ rfl); go_simp <;> with_reducible rfl)
          simp only [List.setIfInBounds_toArray, List.set_cons_zero, List.set_cons_succ]
          refine takeH (i := 3) (d := 22) (v := ?vsa3) rfl (by kernel_rfl) (by kernel_rfl) (by kernel_rfl) (fun _ _ _ h => h) rfl (by rfl) ?ysa3 hS ?rsa3
          case ysa3 => (intro wz hz; have vax : wz.cell? ⟨bb, oo + i * 2, none⟩ = some (.int .u64 (x.1 : Int)) := (hz.cell (p := ⟨bb, oo + i * 2, none⟩) hbb).trans (P1.out 0 _ rfl); have vbx : wz.cell? ⟨bb, oo + i * 2 + 1, none⟩ = some (.int .i64 x.2) := (hz.cell (p := ⟨bb, oo + i * 2 + 1, none⟩) hbb).trans (P1.out 1 _ rfl); have vay : wz.cell? ⟨bb, oo + k * 2, none⟩ = some (.int .u64 (y.1 : Int)) := (hz.cell (p := ⟨bb, oo + k * 2, none⟩) hbb).trans (P2.out 0 _ rfl); have vby : wz.cell? ⟨bb, oo + k * 2 + 1, none⟩ = some (.int .i64 y.2) := (hz.cell (p := ⟨bb, oo + k * 2 + 1, none⟩) hbb).trans (P2.out 1 _ rfl); go_simp <;> with_reducible rfl)
          simp only [List.setIfInBounds_toArray, List.set_cons_zero, List.set_cons_succ]
          refine takeH (i := 4) (d := 23) (v := ?vsa4) rfl (by kernel_rfl) (by kernel_rfl) (by kernel_rfl) (fun _ _ _ h => h) rfl (by rfl) ?ysa4 hS ?rsa4
          case ysa4 => (intro wz hz; have vax : wz.cell? ⟨bb, oo + i * 2, none⟩ = some (.int .u64 (x.1 : Int)) := (hz.cell (p := ⟨bb, oo + i * 2, none⟩) hbb).trans (P1.out 0 _ rfl); have vbx : wz.cell? ⟨bb, oo + i * 2 + 1, none⟩ = some (.int .i64 x.2) := (hz.cell (p := ⟨bb, oo + i * 2 + 1, none⟩) hbb).trans (P1.out 1 _ rfl); have vay : wz.cell? ⟨bb, oo + k * 2, none⟩ = some (.int .u64 (y.1 : Int)) := (hz.cell (p := ⟨bb, oo + k * 2, none⟩) hbb).trans (P2.out 0 _ rfl); have vby : wz.cell? ⟨bb, oo + k * 2 + 1, none⟩ = some (.int .i64 y.2) := (hz.cell (p := ⟨bb, oo + k * 2 + 1, none⟩) hbb).trans (P2.out 1 _ rfl); go_simp <;> with_reducible rfl)
          simp only [List.setIfInBounds_toArray, List.set_cons_zero, List.set_cons_succ]
          refine takeH (i := 5) (d := 24) (v := ?vsa5) rfl (by kernel_rfl) (by kernel_rfl) (by kernel_rfl) (fun _ _ _ h => h) rfl (by rfl) ?ysa5 hS ?rsa5
          case ysa5 => (intro wz hz; have vax : wz.cell? ⟨bb, oo + i * 2, none⟩ = some (.int .u64 (x.1 : Int)) := (hz.cell (p := ⟨bb, oo + i * 2, none⟩) hbb).trans (P1.out 0 _ rfl); have vbx : wz.cell? ⟨bb, oo + i * 2 + 1, none⟩ = some (.int .i64 x.2) := (hz.cell (p := ⟨bb, oo + i * 2 + 1, none⟩) hbb).trans (P1.out 1 _ rfl); have vay : wz.cell? ⟨bb, oo + k * 2, none⟩ = some (.int .u64 (y.1 : Int)) := (hz.cell (p := ⟨bb, oo + k * 2, none⟩) hbb).trans (P2.out 0 _ rfl); have vby : wz.cell? ⟨bb, oo + k * 2 + 1, none⟩ = some (.int .i64 y.2) := (hz.cell (p := ⟨bb, oo + k * 2 + 1, none⟩) hbb).trans (P2.out 1 _ rfl); go_simp <;> with_reducible rfl)
          simp only [List.setIfInBounds_toArray, List.set_cons_zero, List.set_cons_succ]
          refine takeH (i := 6) (d := 25) (v := ?vsa6) rfl (by kernel_rfl) (by kernel_rfl) (by kernel_rfl) (fun _ _ _ h => h) rfl (by rfl) ?ysa6 hS ?rsa6
          case ysa6 => (intro wz hz; have vax : wz.cell? ⟨bb, oo + i * 2, none⟩ = some (.int .u64 (x.1 : Int)) := (hz.cell (p := ⟨bb, oo + i * 2, none⟩) hbb).trans (P1.out 0 _ rfl); have vbx : wz.cell? ⟨bb, oo + i * 2 + 1, none⟩ = some (.int .i64 x.2) := (hz.cell (p := ⟨bb, oo + i * 2 + 1, none⟩) hbb).trans (P1.out 1 _ rfl); have vay : wz.cell? ⟨bb, oo + k * 2, none⟩ = some (.int .u64 (y.1 : Int)) := (hz.cell (p := ⟨bb, oo + k * 2, none⟩) hbb).trans (P2.out 0 _ rfl); have vby : wz.cell? ⟨bb, oo + k * 2 + 1, none⟩ = some (.int .i64 y.2) := (hz.cell (p := ⟨bb, oo + k * 2 + 1, none⟩) hbb).trans (P2.out 1 _ rfl); go_simp <;> with_reducible rfl)
          simp only [List.setIfInBounds_toArray, List.set_cons_zero, List.set_cons_succ]
          refine takeH (i := 7) (d := 26) (v := ?vsa7) rfl (by kernel_rfl) (by kernel_rfl) (by kernel_rfl) (fun _ _ _ h => h) rfl (by rfl) ?ysa7 hS ?rsa7
          case ysa7 => (intro wz hz; have vax : wz.cell? ⟨bb, oo + i * 2, none⟩ = some (.int .u64 (x.1 : Int)) := (hz.cell (p := ⟨bb, oo + i * 2, none⟩) hbb).trans (P1.out 0 _ rfl); have vbx : wz.cell? ⟨bb, oo + i * 2 + 1, none⟩ = some (.int .i64 x.2) := (hz.cell (p := ⟨bb, oo + i * 2 + 1, none⟩) hbb).trans (P1.out 1 _ rfl); have vay : wz.cell? ⟨bb, oo + k * 2, none⟩ = some (.int .u64 (y.1 : Int)) := (hz.cell (p := ⟨bb, oo + k * 2, none⟩) hbb).trans (P2.out 0 _ rfl); have vby : wz.cell? ⟨bb, oo + k * 2 + 1, none⟩ = some (.int .i64 y.2) := (hz.cell (p := ⟨bb, oo + k * 2 + 1, none⟩) hbb).trans (P2.out 1 _ rfl); go_simp <;> with_reducible rfl)
          simp only [List.setIfInBounds_toArray, List.set_cons_zero, List.set_cons_succ]
          refine takeH (i := 8) (d := 27) (v := ?vsa8) rfl (by kernel_rfl) (by kernel_rfl) (by kernel_rfl) (fun _ _ _ h => h) rfl (by rfl) ?ysa8 hS ?rsa8
          case ysa8 => (intro wz hz; have vax : wz.cell? ⟨bb, oo + i * 2, none⟩ = some (.int .u64 (x.1 : Int)) := (hz.cell (p := ⟨bb, oo + i * 2, none⟩) hbb).trans (P1.out 0 _ rfl); have vbx : wz.cell? ⟨bb, oo + i * 2 + 1, none⟩ = some (.int .i64 x.2) := (hz.cell (p := ⟨bb, oo + i * 2 + 1, none⟩) hbb).trans (P1.out 1 _ rfl); have vay : wz.cell? ⟨bb, oo + k * 2, none⟩ = some (.int .u64 (y.1 : Int)) := (hz.cell (p := ⟨bb, oo + k * 2, none⟩) hbb).trans (P2.out 0 _ rfl); have vby : wz.cell? ⟨bb, oo + k * 2 + 1, none⟩ = some (.int .i64 y.2) := (hz.cell (p := ⟨bb, oo + k * 2 + 1, none⟩) hbb).trans (P2.out 1 _ rfl); go_simp <;> with_reducible rfl)
          simp only [List.setIfInBounds_toArray, List.set_cons_zero, List.set_cons_succ]
          refine takeH (i := 9) (d := 28) (v := ?vsa9) rfl (by kernel_rfl) (by kernel_rfl) (by kernel_rfl) (fun _ _ _ h => h) rfl (by rfl) ?ysa9 hS ?rsa9
          case ysa9 => (intro wz hz; have vax : wz.cell? ⟨bb, oo + i * 2, none⟩ = some (.int .u64 (x.1 : Int)) := (hz.cell (p := ⟨bb, oo + i * 2, none⟩) hbb).trans (P1.out 0 _ rfl); have vbx : wz.cell? ⟨bb, oo + i * 2 + 1, none⟩ = some (.int .i64 x.2) := (hz.cell (p := ⟨bb, oo + i * 2 + 1, none⟩) hbb).trans (P1.out 1 _ rfl); have vay : wz.cell? ⟨bb, oo + k * 2, none⟩ = some (.int .u64 (y.1 : Int)) := (hz.cell (p := ⟨bb, oo + k * 2, none⟩) hbb).trans (P2.out 0 _ rfl); have vby : wz.cell? ⟨bb, oo + k * 2 + 1, none⟩ = some (.int .i64 y.2) := (hz.cell (p := ⟨bb, oo + k * 2 + 1, none⟩) hbb).trans (P2.out 1 _ rfl); go_simp <;> with_reducible rfl)
          simp only [List.setIfInBounds_toArray, List.set_cons_zero, List.set_cons_succ]
          refine takeH (i := 10) (d := 29) (v := ?vsa10) rfl (by kernel_rfl) (by kernel_rfl) (by kernel_rfl) (fun _ _ _ h => h) rfl (by rfl) ?ysa10 hS ?rsa10
          case ysa10 => (intro wz hz; have vax : wz.cell? ⟨bb, oo + i * 2, none⟩ = some (.int .u64 (x.1 : Int)) := (hz.cell (p := ⟨bb, oo + i * 2, none⟩) hbb).trans (P1.out 0 _ rfl); have vbx : wz.cell? ⟨bb, oo + i * 2 + 1, none⟩ = some (.int .i64 x.2) := (hz.cell (p := ⟨bb, oo + i * 2 + 1, none⟩) hbb).trans (P1.out 1 _ rfl); have vay : wz.cell? ⟨bb, oo + k * 2, none⟩ = some (.int .u64 (y.1 : Int)) := (hz.cell (p := ⟨bb, oo + k * 2, none⟩) hbb).trans (P2.out 0 _ rfl); have vby : wz.cell? ⟨bb, oo + k * 2 + 1, none⟩ = some (.int .i64 y.2) := (hz.cell (p := ⟨bb, oo + k * 2 + 1, none⟩) hbb).trans (P2.out 1 _ rfl); go_simp <;> with_reducible rfl)
          simp only [List.setIfInBounds_toArray, List.set_cons_zero, List.set_cons_succ]
          refine takeH (i := 11) (d := 30) (v := ?vsa11) rfl (by kernel_rfl) (by kernel_rfl) (by kernel_rfl) (fun _ _ _ h => h) rfl (by rfl) ?ysa11 hS ?rsa11
          case ysa11 => (intro wz hz; have vax : wz.cell? ⟨bb, oo + i * 2, none⟩ = some (.int .u64 (x.1 : Int)) := (hz.cell (p := ⟨bb, oo + i * 2, none⟩) hbb).trans (P1.out 0 _ rfl); have vbx : wz.cell? ⟨bb, oo + i * 2 + 1, none⟩ = some (.int .i64 x.2) := (hz.cell (p := ⟨bb, oo + i * 2 + 1, none⟩) hbb).trans (P1.out 1 _ rfl); have vay : wz.cell? ⟨bb, oo + k * 2, none⟩ = some (.int .u64 (y.1 : Int)) := (hz.cell (p := ⟨bb, oo + k * 2, none⟩) hbb).trans (P2.out 0 _ rfl); have vby : wz.cell? ⟨bb, oo + k * 2 + 1, none⟩ = some (.int .i64 y.2) := (hz.cell (p := ⟨bb, oo + k * 2 + 1, none⟩) hbb).trans (P2.out 1 _ rfl); go_simp <;> with_reducible rfl)
          simp only [List.setIfInBounds_toArray, List.set_cons_zero, List.set_cons_succ]
          refine takeH (i := 12) (d := 31) (v := ?vsa12) rfl (by kernel_rfl) (by kernel_rfl) (by kernel_rfl) (fun _ _ _ h => h) rfl (by rfl) ?ysa12 hS ?rsa12
          case ysa12 => (intro wz hz; have vax : wz.cell? ⟨bb, oo + i * 2, none⟩ = some (.int .u64 (x.1 : Int)) := (hz.cell (p := ⟨bb, oo + i * 2, none⟩) hbb).trans (P1.out 0 _ rfl); have vbx : wz.cell? ⟨bb, oo + i * 2 + 1, none⟩ = some (.int .i64 x.2) := (hz.cell (p := ⟨bb, oo + i * 2 + 1, none⟩) hbb).trans (P1.out 1 _ rfl); have vay : wz.cell? ⟨bb, oo + k * 2, none⟩ = some (.int .u64 (y.1 : Int)) := (hz.cell (p := ⟨bb, oo + k * 2, none⟩) hbb).trans (P2.out 0 _ rfl); have vby : wz.cell? ⟨bb, oo + k * 2 + 1, none⟩ = some (.int .i64 y.2) := (hz.cell (p := ⟨bb, oo + k * 2 + 1, none⟩) hbb).trans (P2.out 1 _ rfl); go_simp <;> with_reducible rfl)
          simp only [List.setIfInBounds_toArray, List.set_cons_zero, List.set_cons_succ]
          refine takeH (i := 13) (d := 32) (v := ?vsa13) rfl (by kernel_rfl) (by kernel_rfl) (by kernel_rfl) (fun _ _ _ h => h) rfl (by rfl) ?ysa13 hS ?rsa13
          case ysa13 => (intro wz hz; have vax : wz.cell? ⟨bb, oo + i * 2, none⟩ = some (.int .u64 (x.1 : Int)) := (hz.cell (p := ⟨bb, oo + i * 2, none⟩) hbb).trans (P1.out 0 _ rfl); have vbx : wz.cell? ⟨bb, oo + i * 2 + 1, none⟩ = some (.int .i64 x.2) := (hz.cell (p := ⟨bb, oo + i * 2 + 1, none⟩) hbb).trans (P1.out 1 _ rfl); have vay : wz.cell? ⟨bb, oo + k * 2, none⟩ = some (.int .u64 (y.1 : Int)) := (hz.cell (p := ⟨bb, oo + k * 2, none⟩) hbb).trans (P2.out 0 _ rfl); have vby : wz.cell? ⟨bb, oo + k * 2 + 1, none⟩ = some (.int .i64 y.2) := (hz.cell (p := ⟨bb, oo + k * 2 + 1, none⟩) hbb).trans (P2.out 1 _ rfl); go_simp <;> with_reducible rfl)
          simp only [List.setIfInBounds_toArray, List.set_cons_zero, List.set_cons_succ]
          refine takeH (i := 14) (d := 33) (v := ?vsa14) rfl (by kernel_rfl) (by kernel_rfl) (by kernel_rfl) (fun _ _ _ h => h) rfl (by rfl) ?ysa14 hS ?rsa14
          case ysa14 => (intro wz hz; have vax : wz.cell? ⟨bb, oo + i * 2, none⟩ = some (.int .u64 (x.1 : Int)) := (hz.cell (p := ⟨bb, oo + i * 2, none⟩) hbb).trans (P1.out 0 _ rfl); have vbx : wz.cell? ⟨bb, oo + i * 2 + 1, none⟩ = some (.int .i64 x.2) := (hz.cell (p := ⟨bb, oo + i * 2 + 1, none⟩) hbb).trans (P1.out 1 _ rfl); have vay : wz.cell? ⟨bb, oo + k * 2, none⟩ = some (.int .u64 (y.1 : Int)) := (hz.cell (p := ⟨bb, oo + k * 2, none⟩) hbb).trans (P2.out 0 _ rfl); have vby : wz.cell? ⟨bb, oo + k * 2 + 1, none⟩ = some (.int .i64 y.2) := (hz.cell (p := ⟨bb, oo + k * 2 + 1, none⟩) hbb).trans (P2.out 1 _ rfl); go_simp <;> with_reducible rfl)
          simp only [List.setIfInBounds_toArray, List.set_cons_zero, List.set_cons_succ]
          refine takeH (i := 15) (d := 34) (v := ?vsa15) rfl (by kernel_rfl) (by kernel_rfl) (by kernel_rfl) (fun _ _ _ h => h) rfl (by rfl) ?ysa15 hS ?rsa15
          case ysa15 => (intro wz hz; have vax : wz.cell? ⟨bb, oo + i * 2, none⟩ = some (.int .u64 (x.1 : Int)) := (hz.cell (p := ⟨bb, oo + i * 2, none⟩) hbb).trans (P1.out 0 _ rfl); have vbx : wz.cell? ⟨bb, oo + i * 2 + 1, none⟩ = some (.int .i64 x.2) := (hz.cell (p := ⟨bb, oo + i * 2 + 1, none⟩) hbb).trans (P1.out 1 _ rfl); have vay : wz.cell? ⟨bb, oo + k * 2, none⟩ = some (.int .u64 (y.1 : Int)) := (hz.cell (p := ⟨bb, oo + k * 2, none⟩) hbb).trans (P2.out 0 _ rfl); have vby : wz.cell? ⟨bb, oo + k * 2 + 1, none⟩ = some (.int .i64 y.2) := (hz.cell (p := ⟨bb, oo + k * 2 + 1, none⟩) hbb).trans (P2.out 1 _ rfl); go_simp <;> with_reducible rfl)
          simp only [List.setIfInBounds_toArray, List.set_cons_zero, List.set_cons_succ]
          refine takeH (i := 16) (d := 35) (v := ?vsa16) rfl (by kernel_rfl) (by kernel_rfl) (by kernel_rfl) (fun _ _ _ h => h) rfl (by rfl) ?ysa16 hS ?rsa16
          case ysa16 => (intro wz hz; have vax : wz.cell? ⟨bb, oo + i * 2, none⟩ = some (.int .u64 (x.1 : Int)) := (hz.cell (p := ⟨bb, oo + i * 2, none⟩) hbb).trans (P1.out 0 _ rfl); have vbx : wz.cell? ⟨bb, oo + i * 2 + 1, none⟩ = some (.int .i64 x.2) := (hz.cell (p := ⟨bb, oo + i * 2 + 1, none⟩) hbb).trans (P1.out 1 _ rfl); have vay : wz.cell? ⟨bb, oo + k * 2, none⟩ = some (.int .u64 (y.1 : Int)) := (hz.cell (p := ⟨bb, oo + k * 2, none⟩) hbb).trans (P2.out 0 _ rfl); have vby : wz.cell? ⟨bb, oo + k * 2 + 1, none⟩ = some (.int .i64 y.2) := (hz.cell (p := ⟨bb, oo + k * 2 + 1, none⟩) hbb).trans (P2.out 1 _ rfl); go_simp <;> with_reducible rfl)
          simp only [List.setIfInBounds_toArray, List.set_cons_zero, List.set_cons_succ]
          refine takeH (i := 17) (d := 36) (v := ?vsa17) rfl (by kernel_rfl) (by kernel_rfl) (by kernel_rfl) (fun _ _ _ h => h) rfl (by rfl) ?ysa17 hS ?rsa17
          case ysa17 => (intro wz hz; have vax : wz.cell? ⟨bb, oo + i * 2, none⟩ = some (.int .u64 (x.1 : Int)) := (hz.cell (p := ⟨bb, oo + i * 2, none⟩) hbb).trans (P1.out 0 _ rfl); have vbx : wz.cell? ⟨bb, oo + i * 2 + 1, none⟩ = some (.int .i64 x.2) := (hz.cell (p := ⟨bb, oo + i * 2 + 1, none⟩) hbb).trans (P1.out 1 _ rfl); have vay : wz.cell? ⟨bb, oo + k * 2, none⟩ = some (.int .u64 (y.1 : Int)) := (hz.cell (p := ⟨bb, oo + k * 2, none⟩) hbb).trans (P2.out 0 _ rfl); have vby : wz.cell? ⟨bb, oo + k * 2 + 1, none⟩ = some (.int .i64 y.2) := (hz.cell (p := ⟨bb, oo + k * 2 + 1, none⟩) hbb).trans (P2.out 1 _ rfl); go_simp <;> with_reducible rfl)
          simp only [List.setIfInBounds_toArray, List.set_cons_zero, List.set_cons_succ]
          refine takeH (i := 18) (d := 37) (v := ?vsa18) rfl (by kernel_rfl) (by kernel_rfl) (by kernel_rfl) (fun _ _ _ h => h) rfl (by rfl) ?ysa18 hS ?rsa18
          case ysa18 => (intro wz hz; have vax : wz.cell? ⟨bb, oo + i * 2, none⟩ = some (.int .u64 (x.1 : Int)) := (hz.cell (p := ⟨bb, oo + i * 2, none⟩) hbb).trans (P1.out 0 _ rfl); have vbx : wz.cell? ⟨bb, oo + i * 2 + 1, none⟩ = some (.int .i64 x.2) := (hz.cell (p := ⟨bb, oo + i * 2 + 1, none⟩) hbb).trans (P1.out 1 _ rfl); have vay : wz.cell? ⟨bb, oo + k * 2, none⟩ = some (.int .u64 (y.1 : Int)) := (hz.cell (p := ⟨bb, oo + k * 2, none⟩) hbb).trans (P2.out 0 _ rfl); have vby : wz.cell? ⟨bb, oo + k * 2 + 1, none⟩ = some (.int .i64 y.2) := (hz.cell (p := ⟨bb, oo + k * 2 + 1, none⟩) hbb).trans (P2.out 1 _ rfl); go_simp <;> with_reducible rfl)
          simp only [List.setIfInBounds_toArray, List.set_cons_zero, List.set_cons_succ]
          refine takeH (i := 19) (d := 38) (v := ?vsa19) rfl (by kernel_rfl) (by kernel_rfl) (by kernel_rfl) (fun _ _ _ h => h) rfl (by rfl) ?ysa19 hS ?rsa19
          case ysa19 => (intro wz hz; have vax : wz.cell? ⟨bb, oo + i * 2, none⟩ = some (.int .u64 (x.1 : Int)) := (hz.cell (p := ⟨bb, oo + i * 2, none⟩) hbb).trans (P1.out 0 _ rfl); have vbx : wz.cell? ⟨bb, oo + i * 2 + 1, none⟩ = some (.int .i64 x.2) := (hz.cell (p := ⟨bb, oo + i * 2 + 1, none⟩) hbb).trans (P1.out 1 _ rfl); have vay : wz.cell? ⟨bb, oo + k * 2, none⟩ = some (.int .u64 (y.1 : Int)) := (hz.cell (p := ⟨bb, oo + k * 2, none⟩) hbb).trans (P2.out 0 _ rfl); have vby : wz.cell? ⟨bb, oo + k * 2 + 1, none⟩ = some (.int .i64 y.2) := (hz.cell (p := ⟨bb, oo + k * 2 + 1, none⟩) hbb).trans (P2.out 1 _ rfl); go_simp <;> with_reducible rfl)
          simp only [List.setIfInBounds_toArray, List.set_cons_zero, List.set_cons_succ]
          refine takeH (i := 20) (d := 39) (v := ?vsa20) rfl (by kernel_rfl) (by kernel_rfl) (by kernel_rfl) (fun _ _ _ h => h) rfl (by rfl) ?ysa20 hS ?rsa20
          case ysa20 => (intro wz hz; have vax : wz.cell? ⟨bb, oo + i * 2, none⟩ = some (.int .u64 (x.1 : Int)) := (hz.cell (p := ⟨bb, oo + i * 2, none⟩) hbb).trans (P1.out 0 _ rfl); have vbx : wz.cell? ⟨bb, oo + i * 2 + 1, none⟩ = some (.int .i64 x.2) := (hz.cell (p := ⟨bb, oo + i * 2 + 1, none⟩) hbb).trans (P1.out 1 _ rfl); have vay : wz.cell? ⟨bb, oo + k * 2, none⟩ = some (.int .u64 (y.1 : Int)) := (hz.cell (p := ⟨bb, oo + k * 2, none⟩) hbb).trans (P2.out 0 _ rfl); have vby : wz.cell? ⟨bb, oo + k * 2 + 1, none⟩ = some (.int .i64 y.2) := (hz.cell (p := ⟨bb, oo + k * 2 + 1, none⟩) hbb).trans (P2.out 1 _ rfl); go_simp <;> with_reducible rfl)
          simp only [List.setIfInBounds_toArray, List.set_cons_zero, List.set_cons_succ]
          refine takeH (i := 21) (d := 40) (v := ?vsa21) rfl (by kernel_rfl) (by kernel_rfl) (by kernel_rfl) (fun _ _ _ h => h) rfl (by rfl) ?ysa21 hS ?rsa21
          case ysa21 => (intro wz hz; have vax : wz.cell? ⟨bb, oo + i * 2, none⟩ = some (.int .u64 (x.1 : Int)) := (hz.cell (p := ⟨bb, oo + i * 2, none⟩) hbb).trans (P1.out 0 _ rfl); have vbx : wz.cell? ⟨bb, oo + i * 2 + 1, none⟩ = some (.int .i64 x.2) := (hz.cell (p := ⟨bb, oo + i * 2 + 1, none⟩) hbb).trans (P1.out 1 _ rfl); have vay : wz.cell? ⟨bb, oo + k * 2, none⟩ = some (.int .u64 (y.1 : Int)) := (hz.cell (p := ⟨bb, oo + k * 2, none⟩) hbb).trans (P2.out 0 _ rfl); have vby : wz.cell? ⟨bb, oo + k * 2 + 1, none⟩ = some (.int .i64 y.2) := (hz.cell (p := ⟨bb, oo + k * 2 + 1, none⟩) hbb).trans (P2.out 1 _ rfl); go_simp <;> with_reducible rfl)
          simp only [List.setIfInBounds_toArray, List.set_cons_zero, List.set_cons_succ]
          refine wpAnyH_ready (rs := [22]) (by kernel_rfl) (by simp) ?_
          refine AllReadyH.cons rfl (fun K hK => ?_) AllReadyH.nil
          go_simp
          refine (refTog_any x.2 y.2 _).mono ?_
          rintro e y9 ⟨rfl, hy9⟩
          subst hy9
          have hb9 : True := trivial
          rw [HTG.out]
          refine hK.out _ _ (hS) (fun hT => ?_)
          clear hK hb9 hS
          have hS := hT
          clear hT
          refine takeH (i := 23) (d := 42) (v := ?vsa23) rfl (by kernel_rfl) (by kernel_rfl) (by kernel_rfl) (fun _ _ _ h => h) rfl (by rfl) ?ysa23 hS ?rsa23
          case ysa23 => (intro wz hz; have vax : wz.cell? ⟨bb, oo + i * 2, none⟩ = some (.int .u64 (x.1 : Int)) := (hz.cell (p := ⟨bb, oo + i * 2, none⟩) hbb).trans (P1.out 0 _ rfl); have vbx : wz.cell? ⟨bb, oo + i * 2 + 1, none⟩ = some (.int .i64 x.2) := (hz.cell (p := ⟨bb, oo + i * 2 + 1, none⟩) hbb).trans (P1.out 1 _ rfl); have vay : wz.cell? ⟨bb, oo + k * 2, none⟩ = some (.int .u64 (y.1 : Int)) := (hz.cell (p := ⟨bb, oo + k * 2, none⟩) hbb).trans (P2.out 0 _ rfl); have vby : wz.cell? ⟨bb, oo + k * 2 + 1, none⟩ = some (.int .i64 y.2) := (hz.cell (p := ⟨bb, oo + k * 2 + 1, none⟩) hbb).trans (P2.out 1 _ rfl); go_simp <;> with_reducible rfl)
          simp only [List.setIfInBounds_toArray, List.set_cons_zero, List.set_cons_succ]
          refine takeH (i := 24) (d := 43) (v := ?vsa24) rfl (by kernel_rfl) (by kernel_rfl) (by kernel_rfl) (fun _ _ _ h => h) rfl (by rfl) ?ysa24 hS ?rsa24
          case ysa24 => (intro wz hz; have vax : wz.cell? ⟨bb, oo + i * 2, none⟩ = some (.int .u64 (x.1 : Int)) := (hz.cell (p := ⟨bb, oo + i * 2, none⟩) hbb).trans (P1.out 0 _ rfl); have vbx : wz.cell? ⟨bb, oo + i * 2 + 1, none⟩ = some (.int .i64 x.2) := (hz.cell (p := ⟨bb, oo + i * 2 + 1, none⟩) hbb).trans (P1.out 1 _ rfl); have vay : wz.cell? ⟨bb, oo + k * 2, none⟩ = some (.int .u64 (y.1 : Int)) := (hz.cell (p := ⟨bb, oo + k * 2, none⟩) hbb).trans (P2.out 0 _ rfl); have vby : wz.cell? ⟨bb, oo + k * 2 + 1, none⟩ = some (.int .i64 y.2) := (hz.cell (p := ⟨bb, oo + k * 2 + 1, none⟩) hbb).trans (P2.out 1 _ rfl); go_simp <;> with_reducible rfl)
          simp only [List.setIfInBounds_toArray, List.set_cons_zero, List.set_cons_succ]
          refine wpAnyH_done (by kernel_rfl) ?_ _
          have HS := Lib.hid hS
          clear hS
          go_wp2_with fail
          exact ⟨⟨k + 1, by omega, by go_num, HS⟩, by simp [intOf]; omega⟩
        · obtain rfl : k = i := by omega
          go_wp2_with fail
          exact ⟨⟨k + 1, by omega, by go_num, HR⟩, by simp [intOf]; omega⟩
    · obtain rfl : i = n1 := by omega
      by_cases hz : n2 = 0
      · have ez : ((n2 : Int) == 0) = true := by simp [hz]
        have HZ := Lib.hid hz
        clear hz
        have e3 : (0 : Int) < (i : Int) := by omega
        go_wp2_with fail
        go_ret
        exact ⟨rfl, HR0.out⟩
      · have ez : ((n2 : Int) == 0) = false := by simp [hz]
        obtain ⟨bc, oc, hcl, hA2, _, hbc, hrc⟩ := H2.out.cm (k := 0) (by omega)
        subst hA2
        obtain ⟨c, hc⟩ : ∃ c, q[0] = c := ⟨_, rfl⟩
        rw [hc, Nat.zero_mul, Nat.add_zero] at hrc
        have P2 := Lib.hid hrc
        have hhd : q.head? = some c := by
          rw [← hc]
          cases q with
          | nil => simp at hcl
          | cons a r => rfl
        have HEX := Lib.hid (HQ.out c hhd)
        have e6 : 0 < n2 := by omega
        have HZ := Lib.hid hz
        clear hz hc hrc hhd
        go_wp2_with fail
        go_loopw [7] (fun j wr => ∃ k : Nat, k ≤ i ∧ j = .int .i64 (k : Int) ∧ Hid (Below w.heap.size w wr) ∧ Hid (∀ (j : Nat) (hj : j < l.length), j < k → hind l[j] c = false)) (fun j _ => i - (intOf j).toNat)
        case atStart => exact ⟨0, Nat.zero_le _, rfl, HR0, Lib.hid (fun _ _ h => absurd h (Nat.not_lt_zero _))⟩
        case round =>
          obtain ⟨k, hk, rfl, HR, HN⟩ := hrel
          by_cases hki : k < i
          · have hkl : k < l.length := by omega
            obtain ⟨x, hx⟩ : ∃ x, l[k] = x := ⟨_, rfl⟩
            have P1 : Hid (w.rangeAt bb (oo + k * 2) (cmV x)) := hx ▸ HC.out k hkl
            have HX := Lib.hid hx
            obtain ⟨bn, hbn⟩ : ∃ bn, ((x.1 : Int) != (c.1 : Int)) = bn := ⟨_, rfl⟩
            obtain ⟨tg, htg⟩ : ∃ tg, tog x.2 c.2 = tg := ⟨_, rfl⟩
            have HTG := Lib.hid htg
            have HH : Hid (hind x c = (bn && !tg)) := by show _ = _; unfold hind; rw [← nat_bne, hbn, htg]
            clear hx htg
            go_upto_region 14 with fail
            cases bn
            · 
              refine wp_region_held_drew (S := Below w.heap.size w) (by kernel_rfl) (HR.out.drew) (fun hS => ?_)
              refine takeH (i := 0) (d := 56) (v := ?vsg00) rfl (by kernel_rfl) (by kernel_rfl) (by kernel_rfl) (fun _ _ _ h => h) rfl (by rfl) ?ysg00 hS ?rsg00
              case ysg00 => (intro wz hz; have vax : wz.cell? ⟨bb, oo + k * 2, none⟩ = some (.int .u64 (x.1 : Int)) := (hz.cell (p := ⟨bb, oo + k * 2, none⟩) hbb).trans (P1.out 0 _ rfl); have vbx : wz.cell? ⟨bb, oo + k * 2 + 1, none⟩ = some (.int .i64 x.2) := (hz.cell (p := ⟨bb, oo + k * 2 + 1, none⟩) hbb).trans (P1.out 1 _ rfl); have ac : wz.cell? ⟨bc, oc, none⟩ = some (.int .u64 (c.1 : Int)) := (hz.cell (p := ⟨bc, oc, none⟩) hbc).trans (P2.out 0 _ rfl); have bcc : wz.cell? ⟨bc, oc + 1, none⟩ = some (.int .i64 c.2) := (hz.cell (p := ⟨bc, oc + 1, none⟩) hbc).trans (P2.out 1 _ rfl); go_simp <;> with_reducible rfl)
              simp only [List.setIfInBounds_toArray, List.set_cons_zero, List.set_cons_succ]
              refine takeH (i := 1) (d := 57) (v := ?vsg01) rfl (by kernel_rfl) (by kernel_rfl) (by kernel_rfl) (fun _ _ _ h => h) rfl (by rfl) ?ysg01 hS ?rsg01
              case ysg01 => (intro wz hz; have vax : wz.cell? ⟨bb, oo + k * 2, none⟩ = some (.int .u64 (x.1 : Int)) := (hz.cell (p := ⟨bb, oo + k * 2, none⟩) hbb).trans (P1.out 0 _ rfl); have vbx : wz.cell? ⟨bb, oo + k * 2 + 1, none⟩ = some (.int .i64 x.2) := (hz.cell (p := ⟨bb, oo + k * 2 + 1, none⟩) hbb).trans (P1.out 1 _ rfl); have ac : wz.cell? ⟨bc, oc, none⟩ = some (.int .u64 (c.1 : Int)) := (hz.cell (p := ⟨bc, oc, none⟩) hbc).trans (P2.out 0 _ rfl); have bcc : wz.cell? ⟨bc, oc + 1, none⟩ = some (.int .i64 c.2) := (hz.cell (p := ⟨bc, oc + 1, none⟩) hbc).trans (P2.out 1 _ rfl); go_simp <;> with_reducible rfl)
              simp only [List.setIfInBounds_toArray, List.set_cons_zero, List.set_cons_succ]
              refine takeH (i := 2) (d := 58) (v := ?vsg02) rfl (by kernel_rfl) (by kernel_rfl) (by kernel_rfl) (fun _ _ _ h => h) rfl (by rfl) ?ysg02 hS ?rsg02
              case ysg02 => (intro wz hz; have vax : wz.cell? ⟨bb, oo + k * 2, none⟩ = some (.int .u64 (x.1 : Int)) := (hz.cell (p := ⟨bb, oo + k * 2, none⟩) hbb).trans (P1.out 0 _ rfl); have vbx : wz.cell? ⟨bb, oo + k * 2 + 1, none⟩ = some (.int .i64 x.2) := (hz.cell (p := ⟨bb, oo + k * 2 + 1, none⟩) hbb).trans (P1.out 1 _ rfl); have ac : wz.cell? ⟨bc, oc, none⟩ = some (.int .u64 (c.1 : Int)) := (hz.cell (p := ⟨bc, oc, none⟩) hbc).trans (P2.out 0 _ rfl); have bcc : wz.cell? ⟨bc, oc + 1, none⟩ = some (.int .i64 c.2) := (hz.cell (p := ⟨bc, oc + 1, none⟩) hbc).trans (P2.out 1 _ rfl); go_simp <;> with_reducible rfl)
              simp only [List.setIfInBounds_toArray, List.set_cons_zero, List.set_cons_succ]
              refine takeH (i := 3) (d := 59) (v := ?vsg03) rfl (by kernel_rfl) (by kernel_rfl) (by kernel_rfl) (fun _ _ _ h => h) rfl (by rfl) ?ysg03 hS ?rsg03
              case ysg03 => (intro wz hz; have vax : wz.cell? ⟨bb, oo + k * 2, none⟩ = some (.int .u64 (x.1 : Int)) := (hz.cell (p := ⟨bb, oo + k * 2, none⟩) hbb).trans (P1.out 0 _ rfl); have vbx : wz.cell? ⟨bb, oo + k * 2 + 1, none⟩ = some (.int .i64 x.2) := (hz.cell (p := ⟨bb, oo + k * 2 + 1, none⟩) hbb).trans (P1.out 1 _ rfl); have ac : wz.cell? ⟨bc, oc, none⟩ = some (.int .u64 (c.1 : Int)) := (hz.cell (p := ⟨bc, oc, none⟩) hbc).trans (P2.out 0 _ rfl); have bcc : wz.cell? ⟨bc, oc + 1, none⟩ = some (.int .i64 c.2) := (hz.cell (p := ⟨bc, oc + 1, none⟩) hbc).trans (P2.out 1 _ rfl); go_simp <;> with_reducible rfl)
              simp only [List.setIfInBounds_toArray, List.set_cons_zero, List.set_cons_succ]
              refine takeH (i := 4) (d := 60) (v := ?vsg04) rfl (by kernel_rfl) (by kernel_rfl) (by kernel_rfl) (fun _ _ _ h => h) rfl (by rfl) ?ysg04 hS ?rsg04
              case ysg04 => (intro wz hz; have vax : wz.cell? ⟨bb, oo + k * 2, none⟩ = some (.int .u64 (x.1 : Int)) := (hz.cell (p := ⟨bb, oo + k * 2, none⟩) hbb).trans (P1.out 0 _ rfl); have vbx : wz.cell? ⟨bb, oo + k * 2 + 1, none⟩ = some (.int .i64 x.2) := (hz.cell (p := ⟨bb, oo + k * 2 + 1, none⟩) hbb).trans (P1.out 1 _ rfl); have ac : wz.cell? ⟨bc, oc, none⟩ = some (.int .u64 (c.1 : Int)) := (hz.cell (p := ⟨bc, oc, none⟩) hbc).trans (P2.out 0 _ rfl); have bcc : wz.cell? ⟨bc, oc + 1, none⟩ = some (.int .i64 c.2) := (hz.cell (p := ⟨bc, oc + 1, none⟩) hbc).trans (P2.out 1 _ rfl); go_simp <;> with_reducible rfl)
              simp only [List.setIfInBounds_toArray, List.set_cons_zero, List.set_cons_succ]
              refine takeH (i := 5) (d := 61) (v := ?vsg05) rfl (by kernel_rfl) (by kernel_rfl) (by kernel_rfl) (fun _ _ _ h => h) rfl (by rfl) ?ysg05 hS ?rsg05
              case ysg05 => (intro wz hz; have vax : wz.cell? ⟨bb, oo + k * 2, none⟩ = some (.int .u64 (x.1 : Int)) := (hz.cell (p := ⟨bb, oo + k * 2, none⟩) hbb).trans (P1.out 0 _ rfl); have vbx : wz.cell? ⟨bb, oo + k * 2 + 1, none⟩ = some (.int .i64 x.2) := (hz.cell (p := ⟨bb, oo + k * 2 + 1, none⟩) hbb).trans (P1.out 1 _ rfl); have ac : wz.cell? ⟨bc, oc, none⟩ = some (.int .u64 (c.1 : Int)) := (hz.cell (p := ⟨bc, oc, none⟩) hbc).trans (P2.out 0 _ rfl); have bcc : wz.cell? ⟨bc, oc + 1, none⟩ = some (.int .i64 c.2) := (hz.cell (p := ⟨bc, oc + 1, none⟩) hbc).trans (P2.out 1 _ rfl); go_simp <;> with_reducible rfl)
              simp only [List.setIfInBounds_toArray, List.set_cons_zero, List.set_cons_succ]
              refine takeH (i := 6) (d := 62) (v := ?vsg06) rfl (by kernel_rfl) (by kernel_rfl) (by kernel_rfl) (fun _ _ _ h => h) rfl (by rfl) ?ysg06 hS ?rsg06
              case ysg06 => (intro wz hz; have vax : wz.cell? ⟨bb, oo + k * 2, none⟩ = some (.int .u64 (x.1 : Int)) := (hz.cell (p := ⟨bb, oo + k * 2, none⟩) hbb).trans (P1.out 0 _ rfl); have vbx : wz.cell? ⟨bb, oo + k * 2 + 1, none⟩ = some (.int .i64 x.2) := (hz.cell (p := ⟨bb, oo + k * 2 + 1, none⟩) hbb).trans (P1.out 1 _ rfl); have ac : wz.cell? ⟨bc, oc, none⟩ = some (.int .u64 (c.1 : Int)) := (hz.cell (p := ⟨bc, oc, none⟩) hbc).trans (P2.out 0 _ rfl); have bcc : wz.cell? ⟨bc, oc + 1, none⟩ = some (.int .i64 c.2) := (hz.cell (p := ⟨bc, oc + 1, none⟩) hbc).trans (P2.out 1 _ rfl); go_simp <;> with_reducible rfl)
              simp only [List.setIfInBounds_toArray, List.set_cons_zero, List.set_cons_succ]
              refine takeH (i := 7) (d := 63) (v := ?vsg07) rfl (by kernel_rfl) (by kernel_rfl) (by kernel_rfl) (fun _ _ _ h => h) rfl (by rfl) ?ysg07 hS ?rsg07
              case ysg07 => (intro wz hz; have vax : wz.cell? ⟨bb, oo + k * 2, none⟩ = some (.int .u64 (x.1 : Int)) := (hz.cell (p := ⟨bb, oo + k * 2, none⟩) hbb).trans (P1.out 0 _ rfl); have vbx : wz.cell? ⟨bb, oo + k * 2 + 1, none⟩ = some (.int .i64 x.2) := (hz.cell (p := ⟨bb, oo + k * 2 + 1, none⟩) hbb).trans (P1.out 1 _ rfl); have ac : wz.cell? ⟨bc, oc, none⟩ = some (.int .u64 (c.1 : Int)) := (hz.cell (p := ⟨bc, oc, none⟩) hbc).trans (P2.out 0 _ rfl); have bcc : wz.cell? ⟨bc, oc + 1, none⟩ = some (.int .i64 c.2) := (hz.cell (p := ⟨bc, oc + 1, none⟩) hbc).trans (P2.out 1 _ rfl); go_simp <;> with_reducible rfl)
              simp only [List.setIfInBounds_toArray, List.set_cons_zero, List.set_cons_succ]
              refine takeH (i := 8) (d := 64) (v := ?vsg08) rfl (by kernel_rfl) (by kernel_rfl) (by kernel_rfl) (fun _ _ _ h => h) rfl (by rfl) ?ysg08 hS ?rsg08
              case ysg08 => (intro wz hz; have vax : wz.cell? ⟨bb, oo + k * 2, none⟩ = some (.int .u64 (x.1 : Int)) := (hz.cell (p := ⟨bb, oo + k * 2, none⟩) hbb).trans (P1.out 0 _ rfl); have vbx : wz.cell? ⟨bb, oo + k * 2 + 1, none⟩ = some (.int .i64 x.2) := (hz.cell (p := ⟨bb, oo + k * 2 + 1, none⟩) hbb).trans (P1.out 1 _ rfl); have ac : wz.cell? ⟨bc, oc, none⟩ = some (.int .u64 (c.1 : Int)) := (hz.cell (p := ⟨bc, oc, none⟩) hbc).trans (P2.out 0 _ rfl); have bcc : wz.cell? ⟨bc, oc + 1, none⟩ = some (.int .i64 c.2) := (hz.cell (p := ⟨bc, oc + 1, none⟩) hbc).trans (P2.out 1 _ rfl); go_simp <;> with_reducible rfl)
              simp only [List.setIfInBounds_toArray, List.set_cons_zero, List.set_cons_succ]
              refine takeH (i := 9) (d := 65) (v := ?vsg09) rfl (by kernel_rfl) (by kernel_rfl) (by kernel_rfl) (fun _ _ _ h => h) rfl (by rfl) ?ysg09 hS ?rsg09
              case ysg09 => (intro wz hz; have vax : wz.cell? ⟨bb, oo + k * 2, none⟩ = some (.int .u64 (x.1 : Int)) := (hz.cell (p := ⟨bb, oo + k * 2, none⟩) hbb).trans (P1.out 0 _ rfl); have vbx : wz.cell? ⟨bb, oo + k * 2 + 1, none⟩ = some (.int .i64 x.2) := (hz.cell (p := ⟨bb, oo + k * 2 + 1, none⟩) hbb).trans (P1.out 1 _ rfl); have ac : wz.cell? ⟨bc, oc, none⟩ = some (.int .u64 (c.1 : Int)) := (hz.cell (p := ⟨bc, oc, none⟩) hbc).trans (P2.out 0 _ rfl); have bcc : wz.cell? ⟨bc, oc + 1, none⟩ = some (.int .i64 c.2) := (hz.cell (p := ⟨bc, oc + 1, none⟩) hbc).trans (P2.out 1 _ rfl); go_simp <;> with_reducible rfl)
              simp only [List.setIfInBounds_toArray, List.set_cons_zero, List.set_cons_succ]
              refine takeH (i := 10) (d := 66) (v := ?vsg010) rfl (by kernel_rfl) (by kernel_rfl) (by kernel_rfl) (fun _ _ _ h => h) rfl (by rfl) ?ysg010 hS ?rsg010
              case ysg010 => (intro wz hz; have vax : wz.cell? ⟨bb, oo + k * 2, none⟩ = some (.int .u64 (x.1 : Int)) := (hz.cell (p := ⟨bb, oo + k * 2, none⟩) hbb).trans (P1.out 0 _ rfl); have vbx : wz.cell? ⟨bb, oo + k * 2 + 1, none⟩ = some (.int .i64 x.2) := (hz.cell (p := ⟨bb, oo + k * 2 + 1, none⟩) hbb).trans (P1.out 1 _ rfl); have ac : wz.cell? ⟨bc, oc, none⟩ = some (.int .u64 (c.1 : Int)) := (hz.cell (p := ⟨bc, oc, none⟩) hbc).trans (P2.out 0 _ rfl); have bcc : wz.cell? ⟨bc, oc + 1, none⟩ = some (.int .i64 c.2) := (hz.cell (p := ⟨bc, oc + 1, none⟩) hbc).trans (P2.out 1 _ rfl); go_simp <;> with_reducible rfl)
              simp only [List.setIfInBounds_toArray, List.set_cons_zero, List.set_cons_succ]
              refine skipH (i := 11) (d := 67) rfl (by kernel_rfl) (by kernel_rfl) (by kernel_rfl) (fun _ _ _ h => h) rfl (by rfl) hS ?_
              simp only [List.setIfInBounds_toArray, List.set_cons_zero, List.set_cons_succ]
              refine skipH (i := 12) (d := 68) rfl (by kernel_rfl) (by kernel_rfl) (by kernel_rfl) (fun _ _ _ h => h) rfl (by rfl) hS ?_
              simp only [List.setIfInBounds_toArray, List.set_cons_zero, List.set_cons_succ]
              refine skipH (i := 13) (d := 69) rfl (by kernel_rfl) (by kernel_rfl) (by kernel_rfl) (fun _ _ _ h => h) rfl (by rfl) hS ?_
              simp only [List.setIfInBounds_toArray, List.set_cons_zero, List.set_cons_succ]
              refine skipH (i := 14) (d := 70) rfl (by kernel_rfl) (by kernel_rfl) (by kernel_rfl) (fun _ _ _ h => h) rfl (by rfl) hS ?_
              simp only [List.setIfInBounds_toArray, List.set_cons_zero, List.set_cons_succ]
              refine skipH (i := 15) (d := 71) rfl (by kernel_rfl) (by kernel_rfl) (by kernel_rfl) (fun _ _ _ h => h) rfl (by rfl) hS ?_
              simp only [List.setIfInBounds_toArray, List.set_cons_zero, List.set_cons_succ]
              refine skipH (i := 16) (d := 72) rfl (by kernel_rfl) (by kernel_rfl) (by kernel_rfl) (fun _ _ _ h => h) rfl (by rfl) hS ?_
              simp only [List.setIfInBounds_toArray, List.set_cons_zero, List.set_cons_succ]
              refine skipH (i := 17) (d := 73) rfl (by kernel_rfl) (by kernel_rfl) (by kernel_rfl) (fun _ _ _ h => h) rfl (by rfl) hS ?_
              simp only [List.setIfInBounds_toArray, List.set_cons_zero, List.set_cons_succ]
              refine skipH (i := 18) (d := 74) rfl (by kernel_rfl) (by kernel_rfl) (by kernel_rfl) (fun _ _ _ h => h) rfl (by rfl) hS ?_
              simp only [List.setIfInBounds_toArray, List.set_cons_zero, List.set_cons_succ]
              refine skipH (i := 19) (d := 75) rfl (by kernel_rfl) (by kernel_rfl) (by kernel_rfl) (fun _ _ _ h => h) rfl (by rfl) hS ?_
              simp only [List.setIfInBounds_toArray, List.set_cons_zero, List.set_cons_succ]
              refine skipH (i := 20) (d := 76) rfl (by kernel_rfl) (by kernel_rfl) (by kernel_rfl) (fun _ _ _ h => h) rfl (by rfl) hS ?_
              simp only [List.setIfInBounds_toArray, List.set_cons_zero, List.set_cons_succ]
              refine skipH (i := 21) (d := 77) rfl (by kernel_rfl) (by kernel_rfl) (by kernel_rfl) (fun _ _ _ h => h) rfl (by rfl) hS ?_
              simp only [List.setIfInBounds_toArray, List.set_cons_zero, List.set_cons_succ]
              refine takeH (i := 22) (d := 78) (v := ?vsg022) rfl (by kernel_rfl) (by kernel_rfl) (by kernel_rfl) (fun _ _ _ h => h) rfl (by rfl) ?ysg022 hS ?rsg022
              case ysg022 => (intro wz hz; have vax : wz.cell? ⟨bb, oo + k * 2, none⟩ = some (.int .u64 (x.1 : Int)) := (hz.cell (p := ⟨bb, oo + k * 2, none⟩) hbb).trans (P1.out 0 _ rfl); have vbx : wz.cell? ⟨bb, oo + k * 2 + 1, none⟩ = some (.int .i64 x.2) := (hz.cell (p := ⟨bb, oo + k * 2 + 1, none⟩) hbb).trans (P1.out 1 _ rfl); have ac : wz.cell? ⟨bc, oc, none⟩ = some (.int .u64 (c.1 : Int)) := (hz.cell (p := ⟨bc, oc, none⟩) hbc).trans (P2.out 0 _ rfl); have bcc : wz.cell? ⟨bc, oc + 1, none⟩ = some (.int .i64 c.2) := (hz.cell (p := ⟨bc, oc + 1, none⟩) hbc).trans (P2.out 1 _ rfl); go_simp <;> with_reducible rfl)
              simp only [List.setIfInBounds_toArray, List.set_cons_zero, List.set_cons_succ]
              refine wpAnyH_done (by kernel_rfl) ?_ _
              have HS := Lib.hid hS
              clear hS
              go_wp2_with fail
              exact ⟨⟨k + 1, by omega, by go_num, HS, Lib.hid (fun j hj hjk => by
                rcases Nat.lt_succ_iff_lt_or_eq.1 hjk with h2 | rfl
                · exact HN.out j hj h2
                · rw [HX.out, HH.out]; rfl)⟩, by simp [intOf]; omega⟩
            · 
              refine wp_region_held_drew (S := Below w.heap.size w) (by kernel_rfl) (HR.out.drew) (fun hS => ?_)
              refine takeH (i := 0) (d := 56) (v := ?vsg10) rfl (by kernel_rfl) (by kernel_rfl) (by kernel_rfl) (fun _ _ _ h => h) rfl (by rfl) ?ysg10 hS ?rsg10
              case ysg10 => (intro wz hz; have vax : wz.cell? ⟨bb, oo + k * 2, none⟩ = some (.int .u64 (x.1 : Int)) := (hz.cell (p := ⟨bb, oo + k * 2, none⟩) hbb).trans (P1.out 0 _ rfl); have vbx : wz.cell? ⟨bb, oo + k * 2 + 1, none⟩ = some (.int .i64 x.2) := (hz.cell (p := ⟨bb, oo + k * 2 + 1, none⟩) hbb).trans (P1.out 1 _ rfl); have ac : wz.cell? ⟨bc, oc, none⟩ = some (.int .u64 (c.1 : Int)) := (hz.cell (p := ⟨bc, oc, none⟩) hbc).trans (P2.out 0 _ rfl); have bcc : wz.cell? ⟨bc, oc + 1, none⟩ = some (.int .i64 c.2) := (hz.cell (p := ⟨bc, oc + 1, none⟩) hbc).trans (P2.out 1 _ rfl); go_simp <;> with_reducible rfl)
              simp only [List.setIfInBounds_toArray, List.set_cons_zero, List.set_cons_succ]
              refine takeH (i := 1) (d := 57) (v := ?vsg11) rfl (by kernel_rfl) (by kernel_rfl) (by kernel_rfl) (fun _ _ _ h => h) rfl (by rfl) ?ysg11 hS ?rsg11
              case ysg11 => (intro wz hz; have vax : wz.cell? ⟨bb, oo + k * 2, none⟩ = some (.int .u64 (x.1 : Int)) := (hz.cell (p := ⟨bb, oo + k * 2, none⟩) hbb).trans (P1.out 0 _ rfl); have vbx : wz.cell? ⟨bb, oo + k * 2 + 1, none⟩ = some (.int .i64 x.2) := (hz.cell (p := ⟨bb, oo + k * 2 + 1, none⟩) hbb).trans (P1.out 1 _ rfl); have ac : wz.cell? ⟨bc, oc, none⟩ = some (.int .u64 (c.1 : Int)) := (hz.cell (p := ⟨bc, oc, none⟩) hbc).trans (P2.out 0 _ rfl); have bcc : wz.cell? ⟨bc, oc + 1, none⟩ = some (.int .i64 c.2) := (hz.cell (p := ⟨bc, oc + 1, none⟩) hbc).trans (P2.out 1 _ rfl); go_simp <;> with_reducible rfl)
              simp only [List.setIfInBounds_toArray, List.set_cons_zero, List.set_cons_succ]
              refine takeH (i := 2) (d := 58) (v := ?vsg12) rfl (by kernel_rfl) (by kernel_rfl) (by kernel_rfl) (fun _ _ _ h => h) rfl (by rfl) ?ysg12 hS ?rsg12
              case ysg12 => (intro wz hz; have vax : wz.cell? ⟨bb, oo + k * 2, none⟩ = some (.int .u64 (x.1 : Int)) := (hz.cell (p := ⟨bb, oo + k * 2, none⟩) hbb).trans (P1.out 0 _ rfl); have vbx : wz.cell? ⟨bb, oo + k * 2 + 1, none⟩ = some (.int .i64 x.2) := (hz.cell (p := ⟨bb, oo + k * 2 + 1, none⟩) hbb).trans (P1.out 1 _ rfl); have ac : wz.cell? ⟨bc, oc, none⟩ = some (.int .u64 (c.1 : Int)) := (hz.cell (p := ⟨bc, oc, none⟩) hbc).trans (P2.out 0 _ rfl); have bcc : wz.cell? ⟨bc, oc + 1, none⟩ = some (.int .i64 c.2) := (hz.cell (p := ⟨bc, oc + 1, none⟩) hbc).trans (P2.out 1 _ rfl); go_simp <;> with_reducible rfl)
              simp only [List.setIfInBounds_toArray, List.set_cons_zero, List.set_cons_succ]
              refine takeH (i := 3) (d := 59) (v := ?vsg13) rfl (by kernel_rfl) (by kernel_rfl) (by kernel_rfl) (fun _ _ _ h => h) rfl (by rfl) ?ysg13 hS ?rsg13
              case ysg13 => (intro wz hz; have vax : wz.cell? ⟨bb, oo + k * 2, none⟩ = some (.int .u64 (x.1 : Int)) := (hz.cell (p := ⟨bb, oo + k * 2, none⟩) hbb).trans (P1.out 0 _ rfl); have vbx : wz.cell? ⟨bb, oo + k * 2 + 1, none⟩ = some (.int .i64 x.2) := (hz.cell (p := ⟨bb, oo + k * 2 + 1, none⟩) hbb).trans (P1.out 1 _ rfl); have ac : wz.cell? ⟨bc, oc, none⟩ = some (.int .u64 (c.1 : Int)) := (hz.cell (p := ⟨bc, oc, none⟩) hbc).trans (P2.out 0 _ rfl); have bcc : wz.cell? ⟨bc, oc + 1, none⟩ = some (.int .i64 c.2) := (hz.cell (p := ⟨bc, oc + 1, none⟩) hbc).trans (P2.out 1 _ rfl); go_simp <;> with_reducible rfl)
              simp only [List.setIfInBounds_toArray, List.set_cons_zero, List.set_cons_succ]
              refine takeH (i := 4) (d := 60) (v := ?vsg14) rfl (by kernel_rfl) (by kernel_rfl) (by kernel_rfl) (fun _ _ _ h => h) rfl (by rfl) ?ysg14 hS ?rsg14
              case ysg14 => (intro wz hz; have vax : wz.cell? ⟨bb, oo + k * 2, none⟩ = some (.int .u64 (x.1 : Int)) := (hz.cell (p := ⟨bb, oo + k * 2, none⟩) hbb).trans (P1.out 0 _ rfl); have vbx : wz.cell? ⟨bb, oo + k * 2 + 1, none⟩ = some (.int .i64 x.2) := (hz.cell (p := ⟨bb, oo + k * 2 + 1, none⟩) hbb).trans (P1.out 1 _ rfl); have ac : wz.cell? ⟨bc, oc, none⟩ = some (.int .u64 (c.1 : Int)) := (hz.cell (p := ⟨bc, oc, none⟩) hbc).trans (P2.out 0 _ rfl); have bcc : wz.cell? ⟨bc, oc + 1, none⟩ = some (.int .i64 c.2) := (hz.cell (p := ⟨bc, oc + 1, none⟩) hbc).trans (P2.out 1 _ rfl); go_simp <;> with_reducible rfl)
              simp only [List.setIfInBounds_toArray, List.set_cons_zero, List.set_cons_succ]
              refine takeH (i := 5) (d := 61) (v := ?vsg15) rfl (by kernel_rfl) (by kernel_rfl) (by kernel_rfl) (fun _ _ _ h => h) rfl (by rfl) ?ysg15 hS ?rsg15
              case ysg15 => (intro wz hz; have vax : wz.cell? ⟨bb, oo + k * 2, none⟩ = some (.int .u64 (x.1 : Int)) := (hz.cell (p := ⟨bb, oo + k * 2, none⟩) hbb).trans (P1.out 0 _ rfl); have vbx : wz.cell? ⟨bb, oo + k * 2 + 1, none⟩ = some (.int .i64 x.2) := (hz.cell (p := ⟨bb, oo + k * 2 + 1, none⟩) hbb).trans (P1.out 1 _ rfl); have ac : wz.cell? ⟨bc, oc, none⟩ = some (.int .u64 (c.1 : Int)) := (hz.cell (p := ⟨bc, oc, none⟩) hbc).trans (P2.out 0 _ rfl); have bcc : wz.cell? ⟨bc, oc + 1, none⟩ = some (.int .i64 c.2) := (hz.cell (p := ⟨bc, oc + 1, none⟩) hbc).trans (P2.out 1 _ rfl); go_simp <;> with_reducible rfl)
              simp only [List.setIfInBounds_toArray, List.set_cons_zero, List.set_cons_succ]
              refine takeH (i := 6) (d := 62) (v := ?vsg16) rfl (by kernel_rfl) (by kernel_rfl) (by kernel_rfl) (fun _ _ _ h => h) rfl (by rfl) ?ysg16 hS ?rsg16
              case ysg16 => (intro wz hz; have vax : wz.cell? ⟨bb, oo + k * 2, none⟩ = some (.int .u64 (x.1 : Int)) := (hz.cell (p := ⟨bb, oo + k * 2, none⟩) hbb).trans (P1.out 0 _ rfl); have vbx : wz.cell? ⟨bb, oo + k * 2 + 1, none⟩ = some (.int .i64 x.2) := (hz.cell (p := ⟨bb, oo + k * 2 + 1, none⟩) hbb).trans (P1.out 1 _ rfl); have ac : wz.cell? ⟨bc, oc, none⟩ = some (.int .u64 (c.1 : Int)) := (hz.cell (p := ⟨bc, oc, none⟩) hbc).trans (P2.out 0 _ rfl); have bcc : wz.cell? ⟨bc, oc + 1, none⟩ = some (.int .i64 c.2) := (hz.cell (p := ⟨bc, oc + 1, none⟩) hbc).trans (P2.out 1 _ rfl); go_simp <;> with_reducible rfl)
              simp only [List.setIfInBounds_toArray, List.set_cons_zero, List.set_cons_succ]
              refine takeH (i := 7) (d := 63) (v := ?vsg17) rfl (by kernel_rfl) (by kernel_rfl) (by kernel_rfl) (fun _ _ _ h => h) rfl (by rfl) ?ysg17 hS ?rsg17
              case ysg17 => (intro wz hz; have vax : wz.cell? ⟨bb, oo + k * 2, none⟩ = some (.int .u64 (x.1 : Int)) := (hz.cell (p := ⟨bb, oo + k * 2, none⟩) hbb).trans (P1.out 0 _ rfl); have vbx : wz.cell? ⟨bb, oo + k * 2 + 1, none⟩ = some (.int .i64 x.2) := (hz.cell (p := ⟨bb, oo + k * 2 + 1, none⟩) hbb).trans (P1.out 1 _ rfl); have ac : wz.cell? ⟨bc, oc, none⟩ = some (.int .u64 (c.1 : Int)) := (hz.cell (p := ⟨bc, oc, none⟩) hbc).trans (P2.out 0 _ rfl); have bcc : wz.cell? ⟨bc, oc + 1, none⟩ = some (.int .i64 c.2) := (hz.cell (p := ⟨bc, oc + 1, none⟩) hbc).trans (P2.out 1 _ rfl); go_simp <;> with_reducible rfl)
              simp only [List.setIfInBounds_toArray, List.set_cons_zero, List.set_cons_succ]
              refine takeH (i := 8) (d := 64) (v := ?vsg18) rfl (by kernel_rfl) (by kernel_rfl) (by kernel_rfl) (fun _ _ _ h => h) rfl (by rfl) ?ysg18 hS ?rsg18
              case ysg18 => (intro wz hz; have vax : wz.cell? ⟨bb, oo + k * 2, none⟩ = some (.int .u64 (x.1 : Int)) := (hz.cell (p := ⟨bb, oo + k * 2, none⟩) hbb).trans (P1.out 0 _ rfl); have vbx : wz.cell? ⟨bb, oo + k * 2 + 1, none⟩ = some (.int .i64 x.2) := (hz.cell (p := ⟨bb, oo + k * 2 + 1, none⟩) hbb).trans (P1.out 1 _ rfl); have ac : wz.cell? ⟨bc, oc, none⟩ = some (.int .u64 (c.1 : Int)) := (hz.cell (p := ⟨bc, oc, none⟩) hbc).trans (P2.out 0 _ rfl); have bcc : wz.cell? ⟨bc, oc + 1, none⟩ = some (.int .i64 c.2) := (hz.cell (p := ⟨bc, oc + 1, none⟩) hbc).trans (P2.out 1 _ rfl); go_simp <;> with_reducible rfl)
              simp only [List.setIfInBounds_toArray, List.set_cons_zero, List.set_cons_succ]
              refine takeH (i := 9) (d := 65) (v := ?vsg19) rfl (by kernel_rfl) (by kernel_rfl) (by kernel_rfl) (fun _ _ _ h => h) rfl (by rfl) ?ysg19 hS ?rsg19
              case ysg19 => (intro wz hz; have vax : wz.cell? ⟨bb, oo + k * 2, none⟩ = some (.int .u64 (x.1 : Int)) := (hz.cell (p := ⟨bb, oo + k * 2, none⟩) hbb).trans (P1.out 0 _ rfl); have vbx : wz.cell? ⟨bb, oo + k * 2 + 1, none⟩ = some (.int .i64 x.2) := (hz.cell (p := ⟨bb, oo + k * 2 + 1, none⟩) hbb).trans (P1.out 1 _ rfl); have ac : wz.cell? ⟨bc, oc, none⟩ = some (.int .u64 (c.1 : Int)) := (hz.cell (p := ⟨bc, oc, none⟩) hbc).trans (P2.out 0 _ rfl); have bcc : wz.cell? ⟨bc, oc + 1, none⟩ = some (.int .i64 c.2) := (hz.cell (p := ⟨bc, oc + 1, none⟩) hbc).trans (P2.out 1 _ rfl); go_simp <;> with_reducible rfl)
              simp only [List.setIfInBounds_toArray, List.set_cons_zero, List.set_cons_succ]
              refine takeH (i := 10) (d := 66) (v := ?vsg110) rfl (by kernel_rfl) (by kernel_rfl) (by kernel_rfl) (fun _ _ _ h => h) rfl (by rfl) ?ysg110 hS ?rsg110
              case ysg110 => (intro wz hz; have vax : wz.cell? ⟨bb, oo + k * 2, none⟩ = some (.int .u64 (x.1 : Int)) := (hz.cell (p := ⟨bb, oo + k * 2, none⟩) hbb).trans (P1.out 0 _ rfl); have vbx : wz.cell? ⟨bb, oo + k * 2 + 1, none⟩ = some (.int .i64 x.2) := (hz.cell (p := ⟨bb, oo + k * 2 + 1, none⟩) hbb).trans (P1.out 1 _ rfl); have ac : wz.cell? ⟨bc, oc, none⟩ = some (.int .u64 (c.1 : Int)) := (hz.cell (p := ⟨bc, oc, none⟩) hbc).trans (P2.out 0 _ rfl); have bcc : wz.cell? ⟨bc, oc + 1, none⟩ = some (.int .i64 c.2) := (hz.cell (p := ⟨bc, oc + 1, none⟩) hbc).trans (P2.out 1 _ rfl); go_simp <;> with_reducible rfl)
              simp only [List.setIfInBounds_toArray, List.set_cons_zero, List.set_cons_succ]
              refine takeH (i := 11) (d := 67) (v := ?vsg111) rfl (by kernel_rfl) (by kernel_rfl) (by kernel_rfl) (fun _ _ _ h => h) rfl (by rfl) ?ysg111 hS ?rsg111
              case ysg111 => (intro wz hz; have vax : wz.cell? ⟨bb, oo + k * 2, none⟩ = some (.int .u64 (x.1 : Int)) := (hz.cell (p := ⟨bb, oo + k * 2, none⟩) hbb).trans (P1.out 0 _ rfl); have vbx : wz.cell? ⟨bb, oo + k * 2 + 1, none⟩ = some (.int .i64 x.2) := (hz.cell (p := ⟨bb, oo + k * 2 + 1, none⟩) hbb).trans (P1.out 1 _ rfl); have ac : wz.cell? ⟨bc, oc, none⟩ = some (.int .u64 (c.1 : Int)) := (hz.cell (p := ⟨bc, oc, none⟩) hbc).trans (P2.out 0 _ rfl); have bcc : wz.cell? ⟨bc, oc + 1, none⟩ = some (.int .i64 c.2) := (hz.cell (p := ⟨bc, oc + 1, none⟩) hbc).trans (P2.out 1 _ rfl); go_simp <;> with_reducible rfl)
              simp only [List.setIfInBounds_toArray, List.set_cons_zero, List.set_cons_succ]
              refine takeH (i := 12) (d := 68) (v := ?vsg112) rfl (by kernel_rfl) (by kernel_rfl) (by kernel_rfl) (fun _ _ _ h => h) rfl (by rfl) ?ysg112 hS ?rsg112
              case ysg112 => (intro wz hz; have vax : wz.cell? ⟨bb, oo + k * 2, none⟩ = some (.int .u64 (x.1 : Int)) := (hz.cell (p := ⟨bb, oo + k * 2, none⟩) hbb).trans (P1.out 0 _ rfl); have vbx : wz.cell? ⟨bb, oo + k * 2 + 1, none⟩ = some (.int .i64 x.2) := (hz.cell (p := ⟨bb, oo + k * 2 + 1, none⟩) hbb).trans (P1.out 1 _ rfl); have ac : wz.cell? ⟨bc, oc, none⟩ = some (.int .u64 (c.1 : Int)) := (hz.cell (p := ⟨bc, oc, none⟩) hbc).trans (P2.out 0 _ rfl); have bcc : wz.cell? ⟨bc, oc + 1, none⟩ = some (.int .i64 c.2) := (hz.cell (p := ⟨bc, oc + 1, none⟩) hbc).trans (P2.out 1 _ rfl); go_simp <;> with_reducible rfl)
              simp only [List.setIfInBounds_toArray, List.set_cons_zero, List.set_cons_succ]
              refine takeH (i := 13) (d := 69) (v := ?vsg113) rfl (by kernel_rfl) (by kernel_rfl) (by kernel_rfl) (fun _ _ _ h => h) rfl (by rfl) ?ysg113 hS ?rsg113
              case ysg113 => (intro wz hz; have vax : wz.cell? ⟨bb, oo + k * 2, none⟩ = some (.int .u64 (x.1 : Int)) := (hz.cell (p := ⟨bb, oo + k * 2, none⟩) hbb).trans (P1.out 0 _ rfl); have vbx : wz.cell? ⟨bb, oo + k * 2 + 1, none⟩ = some (.int .i64 x.2) := (hz.cell (p := ⟨bb, oo + k * 2 + 1, none⟩) hbb).trans (P1.out 1 _ rfl); have ac : wz.cell? ⟨bc, oc, none⟩ = some (.int .u64 (c.1 : Int)) := (hz.cell (p := ⟨bc, oc, none⟩) hbc).trans (P2.out 0 _ rfl); have bcc : wz.cell? ⟨bc, oc + 1, none⟩ = some (.int .i64 c.2) := (hz.cell (p := ⟨bc, oc + 1, none⟩) hbc).trans (P2.out 1 _ rfl); go_simp <;> with_reducible rfl)
              simp only [List.setIfInBounds_toArray, List.set_cons_zero, List.set_cons_succ]
              refine takeH (i := 14) (d := 70) (v := ?vsg114) rfl (by kernel_rfl) (by kernel_rfl) (by kernel_rfl) (fun _ _ _ h => h) rfl (by rfl) ?ysg114 hS ?rsg114
              case ysg114 => (intro wz hz; have vax : wz.cell? ⟨bb, oo + k * 2, none⟩ = some (.int .u64 (x.1 : Int)) := (hz.cell (p := ⟨bb, oo + k * 2, none⟩) hbb).trans (P1.out 0 _ rfl); have vbx : wz.cell? ⟨bb, oo + k * 2 + 1, none⟩ = some (.int .i64 x.2) := (hz.cell (p := ⟨bb, oo + k * 2 + 1, none⟩) hbb).trans (P1.out 1 _ rfl); have ac : wz.cell? ⟨bc, oc, none⟩ = some (.int .u64 (c.1 : Int)) := (hz.cell (p := ⟨bc, oc, none⟩) hbc).trans (P2.out 0 _ rfl); have bcc : wz.cell? ⟨bc, oc + 1, none⟩ = some (.int .i64 c.2) := (hz.cell (p := ⟨bc, oc + 1, none⟩) hbc).trans (P2.out 1 _ rfl); go_simp <;> with_reducible rfl)
              simp only [List.setIfInBounds_toArray, List.set_cons_zero, List.set_cons_succ]
              refine takeH (i := 15) (d := 71) (v := ?vsg115) rfl (by kernel_rfl) (by kernel_rfl) (by kernel_rfl) (fun _ _ _ h => h) rfl (by rfl) ?ysg115 hS ?rsg115
              case ysg115 => (intro wz hz; have vax : wz.cell? ⟨bb, oo + k * 2, none⟩ = some (.int .u64 (x.1 : Int)) := (hz.cell (p := ⟨bb, oo + k * 2, none⟩) hbb).trans (P1.out 0 _ rfl); have vbx : wz.cell? ⟨bb, oo + k * 2 + 1, none⟩ = some (.int .i64 x.2) := (hz.cell (p := ⟨bb, oo + k * 2 + 1, none⟩) hbb).trans (P1.out 1 _ rfl); have ac : wz.cell? ⟨bc, oc, none⟩ = some (.int .u64 (c.1 : Int)) := (hz.cell (p := ⟨bc, oc, none⟩) hbc).trans (P2.out 0 _ rfl); have bcc : wz.cell? ⟨bc, oc + 1, none⟩ = some (.int .i64 c.2) := (hz.cell (p := ⟨bc, oc + 1, none⟩) hbc).trans (P2.out 1 _ rfl); go_simp <;> with_reducible rfl)
              simp only [List.setIfInBounds_toArray, List.set_cons_zero, List.set_cons_succ]
              refine takeH (i := 16) (d := 72) (v := ?vsg116) rfl (by kernel_rfl) (by kernel_rfl) (by kernel_rfl) (fun _ _ _ h => h) rfl (by rfl) ?ysg116 hS ?rsg116
              case ysg116 => (intro wz hz; have vax : wz.cell? ⟨bb, oo + k * 2, none⟩ = some (.int .u64 (x.1 : Int)) := (hz.cell (p := ⟨bb, oo + k * 2, none⟩) hbb).trans (P1.out 0 _ rfl); have vbx : wz.cell? ⟨bb, oo + k * 2 + 1, none⟩ = some (.int .i64 x.2) := (hz.cell (p := ⟨bb, oo + k * 2 + 1, none⟩) hbb).trans (P1.out 1 _ rfl); have ac : wz.cell? ⟨bc, oc, none⟩ = some (.int .u64 (c.1 : Int)) := (hz.cell (p := ⟨bc, oc, none⟩) hbc).trans (P2.out 0 _ rfl); have bcc : wz.cell? ⟨bc, oc + 1, none⟩ = some (.int .i64 c.2) := (hz.cell (p := ⟨bc, oc + 1, none⟩) hbc).trans (P2.out 1 _ rfl); go_simp <;> with_reducible rfl)
              simp only [List.setIfInBounds_toArray, List.set_cons_zero, List.set_cons_succ]
              refine takeH (i := 17) (d := 73) (v := ?vsg117) rfl (by kernel_rfl) (by kernel_rfl) (by kernel_rfl) (fun _ _ _ h => h) rfl (by rfl) ?ysg117 hS ?rsg117
              case ysg117 => (intro wz hz; have vax : wz.cell? ⟨bb, oo + k * 2, none⟩ = some (.int .u64 (x.1 : Int)) := (hz.cell (p := ⟨bb, oo + k * 2, none⟩) hbb).trans (P1.out 0 _ rfl); have vbx : wz.cell? ⟨bb, oo + k * 2 + 1, none⟩ = some (.int .i64 x.2) := (hz.cell (p := ⟨bb, oo + k * 2 + 1, none⟩) hbb).trans (P1.out 1 _ rfl); have ac : wz.cell? ⟨bc, oc, none⟩ = some (.int .u64 (c.1 : Int)) := (hz.cell (p := ⟨bc, oc, none⟩) hbc).trans (P2.out 0 _ rfl); have bcc : wz.cell? ⟨bc, oc + 1, none⟩ = some (.int .i64 c.2) := (hz.cell (p := ⟨bc, oc + 1, none⟩) hbc).trans (P2.out 1 _ rfl); go_simp <;> with_reducible rfl)
              simp only [List.setIfInBounds_toArray, List.set_cons_zero, List.set_cons_succ]
              refine takeH (i := 18) (d := 74) (v := ?vsg118) rfl (by kernel_rfl) (by kernel_rfl) (by kernel_rfl) (fun _ _ _ h => h) rfl (by rfl) ?ysg118 hS ?rsg118
              case ysg118 => (intro wz hz; have vax : wz.cell? ⟨bb, oo + k * 2, none⟩ = some (.int .u64 (x.1 : Int)) := (hz.cell (p := ⟨bb, oo + k * 2, none⟩) hbb).trans (P1.out 0 _ rfl); have vbx : wz.cell? ⟨bb, oo + k * 2 + 1, none⟩ = some (.int .i64 x.2) := (hz.cell (p := ⟨bb, oo + k * 2 + 1, none⟩) hbb).trans (P1.out 1 _ rfl); have ac : wz.cell? ⟨bc, oc, none⟩ = some (.int .u64 (c.1 : Int)) := (hz.cell (p := ⟨bc, oc, none⟩) hbc).trans (P2.out 0 _ rfl); have bcc : wz.cell? ⟨bc, oc + 1, none⟩ = some (.int .i64 c.2) := (hz.cell (p := ⟨bc, oc + 1, none⟩) hbc).trans (P2.out 1 _ rfl); go_simp <;> with_reducible rfl)
              simp only [List.setIfInBounds_toArray, List.set_cons_zero, List.set_cons_succ]
              refine takeH (i := 19) (d := 75) (v := ?vsg119) rfl (by kernel_rfl) (by kernel_rfl) (by kernel_rfl) (fun _ _ _ h => h) rfl (by rfl) ?ysg119 hS ?rsg119
              case ysg119 => (intro wz hz; have vax : wz.cell? ⟨bb, oo + k * 2, none⟩ = some (.int .u64 (x.1 : Int)) := (hz.cell (p := ⟨bb, oo + k * 2, none⟩) hbb).trans (P1.out 0 _ rfl); have vbx : wz.cell? ⟨bb, oo + k * 2 + 1, none⟩ = some (.int .i64 x.2) := (hz.cell (p := ⟨bb, oo + k * 2 + 1, none⟩) hbb).trans (P1.out 1 _ rfl); have ac : wz.cell? ⟨bc, oc, none⟩ = some (.int .u64 (c.1 : Int)) := (hz.cell (p := ⟨bc, oc, none⟩) hbc).trans (P2.out 0 _ rfl); have bcc : wz.cell? ⟨bc, oc + 1, none⟩ = some (.int .i64 c.2) := (hz.cell (p := ⟨bc, oc + 1, none⟩) hbc).trans (P2.out 1 _ rfl); go_simp <;> with_reducible rfl)
              simp only [List.setIfInBounds_toArray, List.set_cons_zero, List.set_cons_succ]
              refine wpAnyH_ready (rs := [20]) (by kernel_rfl) (by simp) ?_
              refine AllReadyH.cons rfl (fun K hK => ?_) AllReadyH.nil
              go_simp
              refine (refTog_any x.2 c.2 _).mono ?_
              rintro e y9 ⟨rfl, hy9⟩
              subst hy9
              have hb9 : True := trivial
              rw [HTG.out]
              refine hK.out _ _ (hS) (fun hT => ?_)
              clear hK hb9 hS
              have hS := hT
              clear hT
              refine takeH (i := 21) (d := 77) (v := ?vsg121) rfl (by kernel_rfl) (by kernel_rfl) (by kernel_rfl) (fun _ _ _ h => h) rfl (by rfl) ?ysg121 hS ?rsg121
              case ysg121 => (intro wz hz; have vax : wz.cell? ⟨bb, oo + k * 2, none⟩ = some (.int .u64 (x.1 : Int)) := (hz.cell (p := ⟨bb, oo + k * 2, none⟩) hbb).trans (P1.out 0 _ rfl); have vbx : wz.cell? ⟨bb, oo + k * 2 + 1, none⟩ = some (.int .i64 x.2) := (hz.cell (p := ⟨bb, oo + k * 2 + 1, none⟩) hbb).trans (P1.out 1 _ rfl); have ac : wz.cell? ⟨bc, oc, none⟩ = some (.int .u64 (c.1 : Int)) := (hz.cell (p := ⟨bc, oc, none⟩) hbc).trans (P2.out 0 _ rfl); have bcc : wz.cell? ⟨bc, oc + 1, none⟩ = some (.int .i64 c.2) := (hz.cell (p := ⟨bc, oc + 1, none⟩) hbc).trans (P2.out 1 _ rfl); go_simp <;> with_reducible rfl)
              simp only [List.setIfInBounds_toArray, List.set_cons_zero, List.set_cons_succ]
              refine takeH (i := 22) (d := 78) (v := ?vsg122) rfl (by kernel_rfl) (by kernel_rfl) (by kernel_rfl) (fun _ _ _ h => h) rfl (by rfl) ?ysg122 hS ?rsg122
              case ysg122 => (intro wz hz; have vax : wz.cell? ⟨bb, oo + k * 2, none⟩ = some (.int .u64 (x.1 : Int)) := (hz.cell (p := ⟨bb, oo + k * 2, none⟩) hbb).trans (P1.out 0 _ rfl); have vbx : wz.cell? ⟨bb, oo + k * 2 + 1, none⟩ = some (.int .i64 x.2) := (hz.cell (p := ⟨bb, oo + k * 2 + 1, none⟩) hbb).trans (P1.out 1 _ rfl); have ac : wz.cell? ⟨bc, oc, none⟩ = some (.int .u64 (c.1 : Int)) := (hz.cell (p := ⟨bc, oc, none⟩) hbc).trans (P2.out 0 _ rfl); have bcc : wz.cell? ⟨bc, oc + 1, none⟩ = some (.int .i64 c.2) := (hz.cell (p := ⟨bc, oc + 1, none⟩) hbc).trans (P2.out 1 _ rfl); go_simp <;> with_reducible rfl)
              simp only [List.setIfInBounds_toArray, List.set_cons_zero, List.set_cons_succ]
              refine wpAnyH_done (by kernel_rfl) ?_ _
              have HS := Lib.hid hS
              clear hS
              cases tg
              · go_wp2_with fail
                go_ret
                exact ⟨rfl, HS.out⟩
              · go_wp2_with fail
                exact ⟨⟨k + 1, by omega, by go_num, HS, Lib.hid (fun j hj hjk => by
                  rcases Nat.lt_succ_iff_lt_or_eq.1 hjk with h2 | rfl
                  · exact HN.out j hj h2
                  · rw [HX.out, HH.out]; rfl)⟩, by simp [intOf]; omega⟩
          · exfalso
            obtain ⟨x, hx, hh⟩ := HEX.out
            obtain ⟨j, hj, rfl⟩ := List.getElem_of_mem hx
            rw [HN.out j hj (by omega)] at hh
            cases hh
end Go.Proofs.YthbifccankfngaaGreatDoor
