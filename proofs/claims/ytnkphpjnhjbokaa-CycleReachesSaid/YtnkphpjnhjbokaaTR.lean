/-
  CycleReaches walked.
  Conditions: numbers below 2^64.
-/
import Derived.Test.YtnkphpjnhjbokaaSY
import Derived.Test.YtnkphpjnhjbokaaCK
namespace Go.Proofs.Ytnkphpjnhjbokaa
open Go.RowKit Go.Shelf
attribute [local go_sem] Oper.semAt_some
set_option maxRecDepth 20000

/-- Nobody among the first k reaches themselves. -/
def FrK (l : List Ar) (k : Nat) (b : Bool) : Prop := b = true ↔ ∀ a ∈ l.take k, farU l a.1 a.1 = 0
theorem FrK.zero (l : List Ar) : FrK l 0 true := ⟨fun _ a ha => by simp at ha, fun _ => rfl⟩
theorem FrK.next {l : List Ar} {k : Nat} {b : Bool} (h : FrK l k b) (hk : k < l.length) (c : Bool) (hc : c = true ↔ farU l l[k].1 l[k].1 = 0) : FrK l (k + 1) (b && c) := by
  unfold FrK at *
  rw [Bool.and_eq_true, h, hc, List.take_add_one, List.getElem?_eq_getElem hk]
  constructor
  · rintro ⟨h1, h2⟩ a ha
    rcases List.mem_append.1 ha with ha | ha
    · exact h1 a ha
    · have : a = l[k] := by simpa using ha
      rw [this]
      exact h2
  · intro h1
    exact ⟨fun a ha => h1 a (List.mem_append_left _ ha), h1 _ (List.mem_append_right _ (by simp))⟩
set_option maxHeartbeats 3200000 in
theorem reaches_law (A : Option Addr) (n c : Nat) (l : List Ar) (x : Nat) (w : World) (h : Lz (fun _ => False) w 2 A n (arL l)) (hU : ∀ a ∈ l, U64 a.1 ∧ U64 a.2) (hx : U64 x) :
    Calls Try.prog 4 #[.slice A n c, .int .u64 (x : Int)] w (RetB w (.bool true)) := by
  have hlen := h.arlen
  have HL := Lib.hid h
  have HU := Lib.hid hU
  have HX := Lib.hid hx
  have HLN := Lib.hid hlen
  clear h hU hx hlen
  by_cases h40 : 40 < n
  · have hd : decide ((40 : Int) < (n : Int)) = true := decide_eq_true (by omega)
    have HW := Lib.hid (works_any w)
    go_enter Try.func4, Try.ntmps4
    go_wp2_with fail
    refine HW.out.mono ?_
    rintro e z ⟨rfl, hb⟩
    have HB := Lib.hid hb
    clear hb HW
    go_wp2_with fail
    go_ret
    exact ⟨rfl, HB.out⟩
  · have hd : decide ((40 : Int) < (n : Int)) = false := decide_eq_false (by omega)
    have h40' : n ≤ 40 := by omega
    go_enter Try.func4, Try.ntmps4
    go_wp2_with fail
    go_loopw [5, 6] (fun vf vi wr => ∃ (k : Nat) (b : Bool), k ≤ n ∧ vf = .bool b ∧ vi = .int .i64 (k : Int) ∧ Hid (FrK l k b) ∧ Hid (Below w.heap.size w wr)) (fun _ i _ => n - (intOf i).toNat)
    case atStart => exact ⟨0, true, Nat.zero_le _, rfl, rfl, FrK.zero l, Below.refl _ w⟩
    case round =>
      obtain ⟨k, b, hk, rfl, rfl, HF, HB⟩ := hrel
      by_cases hlt : k < n
      · obtain ⟨g, o, hl, rfl, hb, hc⟩ := HL.out.ar hlt
        obtain ⟨y, hy⟩ : ∃ y, l[k] = y := ⟨_, rfl⟩
        rw [hy] at hc
        obtain ⟨y1, y2⟩ := y
        have C1 : Hid (wr.cell? ⟨g, o + k * 2, none⟩ = some (.int .u64 (y1 : Int))) := (HB.out.cell (p := ⟨g, o + k * 2, none⟩) hb).trans (hc 0 _ rfl)
        have HGB : Hid (g < wr.heap.size) := Nat.lt_of_lt_of_le hb HB.out.size
        obtain ⟨m, hm⟩ : ∃ m, farU l y1 y1 = m := ⟨_, rfl⟩
        have HFA : Hid (∀ wz, Below wr.heap.size wr wz → Calls Try.prog 11 #[.slice (some ⟨g, o, none⟩) n c, .int .u64 (y1 : Int), .int .u64 (y1 : Int)] wz (RetB wz (.int .i64 (m : Nat)))) := fun wz hz =>
          Far_is _ n c l y1 y1 m hm wz ((HL.out.below HB.out).below hz) (by omega)
        have HM : Hid (farU l l[k].1 l[k].1 = m) := by show _ = _; rw [hy]; exact hm
        obtain ⟨cc, hcc⟩ : ∃ cc, ((m : Int) == 0) = cc := ⟨_, rfl⟩
        have HCC : Hid (cc = true ↔ farU l l[k].1 l[k].1 = 0) := by show _ ↔ _; rw [HM.out, ← hcc]; simp
        have HN := Lib.hid (HF.out.next hl cc HCC.out)
        clear hc hy hm hb HF
        cases b
        · go_upto_region 7 with fail
          refine wp_region_held_drew (S := Below wr.heap.size wr) (by kernel_rfl) ((Below.refl _ wr).drew) (fun hS => ?_)
          refine tk 0 hS ?_
          refine tk 1 hS ?_
          refine sk 2 hS ?_
          refine sk 3 hS ?_
          refine sk 4 hS ?_
          refine sk 5 hS ?_
          refine sk 6 hS ?_
          refine sk 7 hS ?_
          refine sk 8 hS ?_
          refine sk 9 hS ?_
          refine sk 10 hS ?_
          refine sk 11 hS ?_
          refine sk 12 hS ?_
          refine sk 13 hS ?_
          refine sk 14 hS ?_
          refine tk 15 hS ?_
          refine tk 16 hS ?_
          refine wpAnyH_done (by kernel_rfl) ?_ _
          clear hS
          go_wp2_with fail
          exact ⟨⟨k + 1, false, by omega, rfl, by go_num, HN, HB.out.drew⟩, by simp [intOf]; omega⟩
        · go_upto_region 7 with fail
          refine wp_region_held_drew (S := Below wr.heap.size wr) (by kernel_rfl) ((Below.refl _ wr).drew) (fun hS => ?_)
          refine tk 0 hS ?_
          refine tk 1 hS ?_
          refine tk 2 hS ?_
          refine tk 3 hS ?_
          refine tk 4 hS ?_
          refine tk 5 hS ?_
          refine tk 6 hS ?_
          refine tk 7 hS ?_ (hy := by intro wz hz; have q1 : wz.cell? ⟨g, o + k * 2, none⟩ = some (.int .u64 (y1 : Int)) := (hz.cell (p := ⟨g, o + k * 2, none⟩) HGB.out).trans C1.out; go_simp <;> with_reducible rfl)
          refine tk 8 hS ?_
          refine tk 9 hS ?_
          refine tk 10 hS ?_
          refine tk 11 hS ?_
          refine tk 12 hS ?_ (hy := by intro wz hz; have q1 : wz.cell? ⟨g, o + k * 2, none⟩ = some (.int .u64 (y1 : Int)) := (hz.cell (p := ⟨g, o + k * 2, none⟩) HGB.out).trans C1.out; go_simp <;> with_reducible rfl)
          refine wpAnyH_ready (rs := [13]) (by kernel_rfl) (by simp) ?_
          refine AllReadyH.cons rfl (fun K hK => ?_) AllReadyH.nil
          go_simp
          refine (HFA.out _ hS).mono ?_
          rintro e y9 ⟨rfl, hb9⟩
          have hb : True := trivial
          have B9 := Lib.hid (hS.trans (hb9.mono hS.size))
          clear hb9
          refine hK.out _ _ (B9.out) (fun hT => ?_)
          clear hK hb hS
          have hS := hT
          clear hT
          refine tk 14 hS ?_
          refine tk 15 hS ?_
          refine tk 16 hS ?_
          refine wpAnyH_done (by kernel_rfl) ?_ _
          clear hS
          go_wp2_with fail
          exact ⟨⟨k + 1, cc, by omega, by simp, by go_num, HN, HB.out.trans (B9.out.mono HB.out.size)⟩, by simp [intOf]; omega⟩
      · obtain rfl : k = n := by omega
        have HFR : Hid (b = true ↔ NoWay l) := by
          show _ ↔ _
          rw [noWay_far]
          have := HF.out
          unfold FrK at this
          rw [List.take_of_length_le (by have := HLN.out; omega)] at this
          exact this
        have HO := Lib.hid (own_any A k c l wr (HL.out.below HB.out) (by omega))
        clear HF
        go_wp2_with fail
        refine HO.out.mono ?_
        rintro e z ⟨B, cB, rfl, hr⟩
        have HR := Lib.hid hr
        have HBZ := Lib.hid (HB.out.trans (hr.below.mono HB.out.size))
        clear hr HO
        go_wp2_with fail
        refine (Reach_any B k cB l x z (HR.out.lz HLN.out) (by omega) (fun a ha => (HU.out a ha).2)).mono ?_
        rintro e z2 ⟨P, m, cP, rfl, hm, hr⟩
        have HPM := Lib.hid hm
        have HP := Lib.hid hr
        have HB2 := Lib.hid (HBZ.out.trans (hr.below.mono HBZ.out.size))
        clear hm hr
        go_wp2_with fail
        refine (rReach_any A k c l x z2 (HL.out.below HB2.out) (by omega)).mono ?_
        rintro e z3 ⟨A3, c3, he, hr3⟩
        rw [HPM.out] at he hr3
        subst he
        have HB3 := Lib.hid (HB2.out.trans (hr3.below.mono HB2.out.size))
        have HN := Lib.hid (nums_any P A3 m cP m c3 _ _ z3 ((HP.out.under hr3.below).lz HPM.out) (hr3.lz HPM.out) (by have h1 := reachU_length l x l.length; have h2 := HPM.out; have h3 := HLN.out; omega))
        clear hr3
        go_wp2_with fail
        refine HN.out.mono ?_
        rintro e z4 ⟨he, hb4⟩
        rw [beq_self_eq_true] at he
        subst he
        have HB4 := Lib.hid (HB3.out.trans (hb4.mono HB3.out.size))
        clear hb4 HN
        go_wp2_with fail
        refine (own_any A k c l z4 (HL.out.below HB4.out) (by omega)).mono ?_
        rintro e z5 ⟨B5, c5, rfl, hr⟩
        have HR5 := Lib.hid hr
        have HB5 := Lib.hid (HB4.out.trans (hr.below.mono HB4.out.size))
        clear hr
        go_wp2_with fail
        refine (Free_any B5 k c5 l z5 (HR5.out.lz HLN.out) (by omega) HU.out).mono ?_
        rintro e z6 ⟨r, rfl, hr, hb6⟩
        have hrb : r = b := by
          have := HFR.out
          cases r <;> cases b <;> simp_all
        have hbb : (r == b) = true := by rw [hrb]; exact beq_self_eq_true b
        have HB6 := Lib.hid (HB5.out.trans (hb6.mono HB5.out.size))
        clear hr hb6 hrb
        go_wp2_with fail
        refine (works_any z6).mono ?_
        rintro e z7 ⟨rfl, hb7⟩
        have HB7 := Lib.hid (HB6.out.trans (hb7.mono HB6.out.size))
        clear hb7
        go_wp2_with fail
        go_ret
        exact ⟨rfl, HB7.out⟩
end Go.Proofs.Ytnkphpjnhjbokaa
