/-
  The law's nums.
  Conditions: at most 100000 numbers.
-/
import Derived.Test.YthbifccankfngaaGreatDoorR10ZQ
namespace Go.Proofs.YthbifccankfngaaGreatDoor
open Go.RowKit Go.Shelf
attribute [local go_sem] Oper.semAt_some
set_option maxRecDepth 20000

theorem Lz.uc {X : Nat → Prop} {w : World} {A : Option Addr} {n k : Nat} {l : List Nat} (h : Lz X w 1 A n (UC l)) (hk : k < n) : ∃ b o, ∃ hl : k < l.length, A = some ⟨b, o, none⟩ ∧ b < w.heap.size ∧ w.cell? ⟨b, o + k, none⟩ = some (.int .u64 (l[k] : Int)) := by
  have hl : k < l.length := by have := h.len; rw [UC_length] at this; omega
  obtain ⟨b, o, h1, _, h3, h4⟩ := h.spot (by omega)
  exact ⟨b, o, hl, h1, h3, h4 k _ (UC_get l k hl)⟩
set_option maxHeartbeats 3200000 in
theorem nums_any (A1 A2 : Option Addr) (n1 c1 n2 c2 : Nat) (l m : List Nat) (w : World) (h1 : Lz (fun _ => False) w 1 A1 n1 (UC l)) (h2 : Lz (fun _ => False) w 1 A2 n2 (UC m)) (hn : n1 ≤ 100000) :
    Calls Tryz.prog 26 #[.slice A1 n1 c1, .slice A2 n2 c2] w (RetB w (.bool (l == m))) := by
  have hl1 : l.length = n1 := by have := h1.len; rw [UC_length] at this; omega
  have hl2 : m.length = n2 := by have := h2.len; rw [UC_length] at this; omega
  have H1 := Lib.hid h1
  have H2 := Lib.hid h2
  clear h1 h2
  by_cases hne : n1 = n2
  · subst hne
    have e1 : ((n1 : Int) != (n1 : Int)) = false := by simp
    go_enter Tryz.func26, Tryz.ntmps26
    go_wp2_with fail
    go_loopw [5] (fun i wr => ∃ k : Nat, k ≤ n1 ∧ i = .int .i64 (k : Int) ∧ Hid (Below w.heap.size w wr) ∧ Hid (l.take k = m.take k)) (fun i _ => n1 - (intOf i).toNat)
    case atStart => exact ⟨0, Nat.zero_le _, rfl, Lib.hid (Below.refl _ w), Lib.hid rfl⟩
    case round =>
      obtain ⟨k, hk, rfl, HR, HT⟩ := hrel
      by_cases hlt : k < n1
      · obtain ⟨b1, o1, hk1, hA1, hb1, hp1⟩ := H1.out.uc hlt
        obtain ⟨b2, o2, hk2, hA2, hb2, hp2⟩ := H2.out.uc hlt
        subst hA1 hA2
        obtain ⟨x, hx⟩ : ∃ x, l[k] = x := ⟨_, rfl⟩
        obtain ⟨y, hy⟩ : ∃ y, m[k] = y := ⟨_, rfl⟩
        rw [hx] at hp1
        rw [hy] at hp2
        have P1 := Lib.hid hp1
        have P2 := Lib.hid hp2
        have HX := Lib.hid hx
        have HY := Lib.hid hy
        obtain ⟨bn, hbn⟩ : ∃ bn, ((x : Int) != (y : Int)) = bn := ⟨_, rfl⟩
        have HBN := Lib.hid (show (x != y) = bn by rw [← hbn, nat_bne])
        clear hx hy hp1 hp2
        go_upto_region 6 with fail
        refine wp_region_held_drew (S := Below w.heap.size w) (by kernel_rfl) (HR.out.drew) (fun hS => ?_)
        refine tk 0 hS ?_
        refine tk 1 hS ?_
        refine tk 2 hS ?_
        refine tk 3 hS ?_ (hy := by intro wz hz; have q1 : wz.cell? ⟨b1, o1 + k, none⟩ = some (.int .u64 (x : Int)) := (hz.cell (p := ⟨b1, o1 + k, none⟩) hb1).trans P1.out; have q2 : wz.cell? ⟨b2, o2 + k, none⟩ = some (.int .u64 (y : Int)) := (hz.cell (p := ⟨b2, o2 + k, none⟩) hb2).trans P2.out; go_simp <;> with_reducible rfl)
        refine tk 4 hS ?_
        refine tk 5 hS ?_
        refine tk 6 hS ?_
        refine tk 7 hS ?_ (hy := by intro wz hz; have q1 : wz.cell? ⟨b1, o1 + k, none⟩ = some (.int .u64 (x : Int)) := (hz.cell (p := ⟨b1, o1 + k, none⟩) hb1).trans P1.out; have q2 : wz.cell? ⟨b2, o2 + k, none⟩ = some (.int .u64 (y : Int)) := (hz.cell (p := ⟨b2, o2 + k, none⟩) hb2).trans P2.out; go_simp <;> with_reducible rfl)
        refine tk 8 hS ?_
        refine wpAnyH_done (by kernel_rfl) ?_ _
        have HS := Lib.hid hS
        clear hS
        cases bn
        · go_wp2_with fail
          refine ⟨⟨k + 1, by omega, by go_num, HS, Lib.hid ?_⟩, by simp [intOf]; omega⟩
          have hxy : x = y := by have := HBN.out; simpa using this
          rw [List.take_add_one, List.take_add_one, HT.out, List.getElem?_eq_getElem hk1, List.getElem?_eq_getElem hk2, HX.out, HY.out, hxy]
        · go_wp2_with fail
          go_ret
          have hxy : x ≠ y := by have := HBN.out; simpa using this
          have e : (l == m) = false := by
            rw [beq_eq_false_iff_ne]
            rintro rfl
            exact hxy (by rw [← HX.out, ← HY.out])
          exact ⟨by rw [e]; rfl, HS.out⟩
      · obtain rfl : k = n1 := by omega
        go_wp2_with fail
        go_ret
        have e : (l == m) = true := by
          have := HT.out
          rw [List.take_of_length_le (by omega), List.take_of_length_le (by omega)] at this
          rw [this, beq_self_eq_true]
        exact ⟨by rw [e]; rfl, HR.out⟩
  · have e1 : ((n1 : Int) != (n2 : Int)) = true := by rw [nat_bne]; simpa using hne
    have e : (l == m) = false := by
      rw [beq_eq_false_iff_ne]
      rintro rfl
      exact hne (by omega)
    have HE := Lib.hid e
    have HNE := Lib.hid hne
    clear e hne
    go_enter Tryz.func26, Tryz.ntmps26
    go_wp2_with fail
    go_ret
    exact ⟨by rw [HE.out]; rfl, Below.refl _ w⟩
end Go.Proofs.YthbifccankfngaaGreatDoor
