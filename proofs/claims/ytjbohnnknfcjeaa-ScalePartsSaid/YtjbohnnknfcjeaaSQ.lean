/-
  ScaleMiddles where it runs.
  Conditions: none.
-/
import Derived.Test.YtjbohnnknfcjeaaSP
import Derived.Test.YtjbohnnknfcjeaaNC
namespace Go.Proofs.Ytjbohnnknfcjeaa
open Go.RowKit
attribute [local go_sem] Oper.semAt_some
set_option maxRecDepth 20000

/-- From the example on: yes. -/
theorem works_from {w : World} (z : World) (h : Below w.heap.size w z) : Calls Try.prog 7 #[] z (RetB w (.bool true)) := (works_any z).mono fun _ _ h2 => ⟨h2.1, h.trans (h2.2.mono h.size)⟩
set_option maxHeartbeats 12800000 in
theorem middles_any (A : Option Addr) (n c : Nat) (l : List Nat) (w : World) (h : Lz (fun _ => False) w 1 A n (UC l)) :
    Calls Try.prog 5 #[.slice A n c] w (RetB w (.bool true)) := by
  have hlen := h.ulen
  by_cases h40 : 40 < n
  · have HW := Lib.hid (works_from w (Below.refl _ w))
    clear h
    go_enter Try.func5, Try.ntmps5
    go_wp2_with (go_at_call 7; refine HW.out.mono ?_; rintro e z ⟨rfl, hb⟩)
    go_ret
    exact ⟨rfl, hb⟩
  have HM := Lib.hid (Middle_any A n c l w h (by omega))
  have HL0 := Lib.hid h
  clear h
  go_enter Try.func5, Try.ntmps5
  go_wp2_with fail
  refine HM.out.mono ?_
  rintro e z ⟨x, ok, rfl, hm, hb⟩
  have HR := Lib.hid (rMiddle_any A n c l z (HL0.out.below hb) (by omega))
  have HBZ := Lib.hid hb
  have HMX := Lib.hid hm
  clear hm hb HM
  go_wp2_with fail
  refine HR.out.mono ?_
  rintro e w1 ⟨x', ok', rfl, hm, hb⟩
  obtain ⟨rfl, rfl⟩ := hm.one HMX.out
  have HBW := Lib.hid (HBZ.out.trans (hb.mono HBZ.out.size))
  have HL := Lib.hid (HL0.out.below HBW.out)
  have e1 : ((x' : Int) != (x' : Int)) = false := by rw [nat_bne]; simp
  clear hm hb HR HBZ HL0
  have HON1 := Lib.hid (mid_one HMX.out)
  have eo : (ok' != ok') = false := by cases ok' <;> rfl
  go_upto_region 7 with fail
  clear e1 eo
  go_wp2_with fail
  go_loopw [7, 8, 9] (fun vm vo vi wr => ∃ (k m : Nat) (ob : Bool), k ≤ n ∧ m ≤ k ∧ vm = .int .i64 (m : Int) ∧ vo = .bool ob ∧ vi = .int .i64 (k : Int) ∧ Hid ((l.take k).countP (fun y => decide (y < x')) = m) ∧ Hid (oneK l k = ob) ∧ Hid (Below w1.heap.size w1 wr)) (fun _ _ i _ => n - (intOf i).toNat)
  case atStart => exact ⟨0, 0, true, Nat.zero_le _, Nat.le_refl _, by go_num, rfl, by go_num, Lib.hid (by simp), Lib.hid (oneK_zero l), Lib.hid (Below.refl _ w1)⟩
  case round =>
    obtain ⟨k, m, ob, hk, hmk, rfl, rfl, rfl, HC, HO, HB⟩ := hrel
    by_cases hlt : k < n
    · obtain ⟨b, o, hl, rfl, hb, hc⟩ := HL.out.uc hlt
      obtain ⟨b', o', hl2, ho, _, hc0⟩ := HL.out.uc (k := 0) (by omega)
      injection ho with ho
      injection ho with ho1 ho2
      subst ho1 ho2
      have HNX := Lib.hid (countP_next (p := fun y => decide (y < x')) hl)
      have HON := Lib.hid (oneK_next hl)
      rw [HC.out] at HNX
      rw [HO.out] at HON
      obtain ⟨y, hy⟩ : ∃ y, l[k] = y := ⟨_, rfl⟩
      obtain ⟨y0, hy0⟩ : ∃ y0, l[0] = y0 := ⟨_, rfl⟩
      rw [hy] at hc HNX HON
      rw [hy0] at hc0 HON
      rw [Nat.add_zero] at hc0
      have hn0 : 0 < n := by omega
      have q0 := below_cell HB.out hb hc
      obtain ⟨cb, hcb⟩ : ∃ cb, decide ((y : Int) < (x' : Int)) = cb := ⟨_, rfl⟩
      have hcn : decide (y < x') = cb := by rw [← hcb]; exact decide_eq_decide.2 (by omega)
      have HCN := Lib.hid hcn
      obtain ⟨ce, hce⟩ : ∃ ce, ((y : Int) == (y0 : Int)) = ce := ⟨_, rfl⟩
      have hcen : (y == y0) = ce := by rw [← hce, nat_beq]
      have HCE := Lib.hid hcen
      clear hy hy0 hcen
      cases cb
      · go_upto_region 13 with fail
        cases ob
        · refine wp_region_held_drew (S := Below w1.heap.size w1) (by kernel_rfl) HB.out.drew (fun hS => ?_)
          refine tk 0 hS ?_
          refine tk 1 hS ?_
          refine sk 2 hS ?_
          refine sk 3 hS ?_
          refine sk 4 hS ?_
          refine sk 5 hS ?_
          refine sk 6 hS ?_
          refine sk 7 hS ?_
          refine sk 8 hS ?_
          refine sk 9 hS ?_
          refine tk 10 hS ?_
          refine tk 11 hS ?_
          refine wpAnyH_done (by kernel_rfl) ?_ _
          have HS := Lib.hid hS
          clear hS
          go_wp2_with fail
          exact ⟨⟨k + 1, m, false, by omega, by omega, by go_num, rfl, by go_num, Lib.hid (by rw [HNX.out, HCN.out]; rfl), Lib.hid (by rw [HON.out]; rfl), HS⟩, by simp [intOf]; omega⟩
        · refine wp_region_held_drew (S := Below w1.heap.size w1) (by kernel_rfl) HB.out.drew (fun hS => ?_)
          refine tk 0 hS ?_
          refine tk 1 hS ?_
          refine tk 2 hS ?_
          refine tk 3 hS ?_
          refine tk 4 hS ?_
          refine tk 5 hS ?_ (hy := by intro wz hz; have q1 := below_cell hz hb hc; have q2 := below_cell hz hb hc0; go_simp <;> with_reducible rfl)
          refine tk 6 hS ?_
          refine tk 7 hS ?_
          refine tk 8 hS ?_ (hy := by intro wz hz; have q1 := below_cell hz hb hc; have q2 := below_cell hz hb hc0; go_simp <;> with_reducible rfl)
          refine tk 9 hS ?_
          refine tk 10 hS ?_
          refine tk 11 hS ?_
          refine wpAnyH_done (by kernel_rfl) ?_ _
          have HS := Lib.hid hS
          clear hS
          go_wp2_with fail
          exact ⟨⟨k + 1, m, ce, by omega, by omega, by go_num, rfl, by go_num, Lib.hid (by rw [HNX.out, HCN.out]; rfl), Lib.hid (by rw [HON.out, HCE.out]; rfl), HS⟩, by simp [intOf]; omega⟩
      · go_upto_region 13 with fail
        cases ob
        · refine wp_region_held_drew (S := Below w1.heap.size w1) (by kernel_rfl) HB.out.drew (fun hS => ?_)
          refine tk 0 hS ?_
          refine tk 1 hS ?_
          refine sk 2 hS ?_
          refine sk 3 hS ?_
          refine sk 4 hS ?_
          refine sk 5 hS ?_
          refine sk 6 hS ?_
          refine sk 7 hS ?_
          refine sk 8 hS ?_
          refine sk 9 hS ?_
          refine tk 10 hS ?_
          refine tk 11 hS ?_
          refine wpAnyH_done (by kernel_rfl) ?_ _
          have HS := Lib.hid hS
          clear hS
          go_wp2_with fail
          exact ⟨⟨k + 1, m + 1, false, by omega, by omega, by go_num, rfl, by go_num, Lib.hid (by rw [HNX.out, HCN.out]; rfl), Lib.hid (by rw [HON.out]; rfl), HS⟩, by simp [intOf]; omega⟩
        · refine wp_region_held_drew (S := Below w1.heap.size w1) (by kernel_rfl) HB.out.drew (fun hS => ?_)
          refine tk 0 hS ?_
          refine tk 1 hS ?_
          refine tk 2 hS ?_
          refine tk 3 hS ?_
          refine tk 4 hS ?_
          refine tk 5 hS ?_ (hy := by intro wz hz; have q1 := below_cell hz hb hc; have q2 := below_cell hz hb hc0; go_simp <;> with_reducible rfl)
          refine tk 6 hS ?_
          refine tk 7 hS ?_
          refine tk 8 hS ?_ (hy := by intro wz hz; have q1 := below_cell hz hb hc; have q2 := below_cell hz hb hc0; go_simp <;> with_reducible rfl)
          refine tk 9 hS ?_
          refine tk 10 hS ?_
          refine tk 11 hS ?_
          refine wpAnyH_done (by kernel_rfl) ?_ _
          have HS := Lib.hid hS
          clear hS
          go_wp2_with fail
          exact ⟨⟨k + 1, m + 1, ce, by omega, by omega, by go_num, rfl, by go_num, Lib.hid (by rw [HNX.out, HCN.out]; rfl), Lib.hid (by rw [HON.out, HCE.out]; rfl), HS⟩, by simp [intOf]; omega⟩
    · obtain rfl : k = n := by omega
      have hm2 : belN l x' = m := by unfold belN; rw [← HC.out, ← hlen, List.take_length]
      have ho2 : ob = !ok' := by rw [← HON1.out, hlen]; exact HO.out.symm
      subst ho2
      have HBX := Lib.hid (HBW.out.trans (HB.out.mono HBW.out.size))
      have HWK := Lib.hid (works_from wr HBX.out)
      cases ok'
      · clear HMX hm2 HC HO HON1
        go_wp2_with (go_at_call 7; refine HWK.out.mono ?_; rintro e z ⟨rfl, hb⟩)
        go_ret
        exact ⟨rfl, hb⟩
      · obtain ⟨h1, h2⟩ := mid_bel HMX.out
        rw [hm2] at h1 h2
        rw [hlen] at h2
        have d1 : decide ((0 : Int) < (m : Int)) = true := decide_eq_true (by omega)
        have d1' : decide (0 < m) = true := decide_eq_true h1
        have d2 : decide ((m : Int) < (k : Int)) = true := decide_eq_true (by omega)
        have d2' : decide (m < k) = true := decide_eq_true h2
        clear HMX hm2 HC HO HON1
        go_wp2_with (go_at_call 7; refine HWK.out.mono ?_; rintro e z ⟨rfl, hb⟩)
        go_ret
        exact ⟨rfl, hb⟩
/-- The law as the frame wants it. -/
theorem middles_law (A : Option Addr) (n c : Nat) (z : List Int) (w : World) (h : IsRow .u32 w A n c z) :
    Calls Try.prog 5 #[.slice A n c] w fun e w' => e = .returned (.bool true) ∧ Below w.heap.size w w' := by
  obtain ⟨L, hL, _⟩ := nums_of_row h
  exact middles_any A n c L w hL
end Go.Proofs.Ytjbohnnknfcjeaa
