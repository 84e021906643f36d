/-
  CycleLeast walked.
  Conditions: numbers below 2^64.
-/
import Derived.Test.YtnkphpjnhjbokaaSY
import Derived.Test.YtnkphpjnhjbokaaCK
namespace Go.Proofs.Ytnkphpjnhjbokaa
open Go.RowKit Go.Shelf
attribute [local go_sem] Oper.semAt_some
set_option maxRecDepth 20000

theorem roundU_length (l : List Ar) (a : Nat) : ∀ k x, (roundU l a k x).length = k
  | 0, _ => rfl
  | k + 1, x => by
    show (_ :: roundU l a k _).length = _
    rw [List.length_cons, roundU_length l a k]
theorem RowA.lzn {w0 z : World} {F : List Ar} {B : Option Addr} {n cB : Nat} (h : RowA w0 F (.slice B n cB) z) (hn : F.length = n) : Lz (fun _ => False) z 2 B n (arL F) := h.lz hn
set_option maxHeartbeats 3200000 in
theorem least_law (A : Option Addr) (n c : Nat) (l : List Ar) (x : Nat) (w : World) (h : Lz (fun _ => False) w 2 A n (arL l)) (hU : ∀ a ∈ l, U64 a.1 ∧ U64 a.2) (hx : U64 x) :
    Calls Try.prog 6 #[.slice A n c, .int .u64 (x : Int)] w (RetB w (.bool true)) := by
  have hlen := h.arlen
  have HL := Lib.hid h
  have HU := Lib.hid hU
  have HX := Lib.hid hx
  have HLN := Lib.hid hlen
  clear h hU hx hlen
  by_cases h24 : 24 < n
  · have hd : decide ((24 : Int) < (n : Int)) = true := decide_eq_true (by omega)
    have HW := Lib.hid (works_any w)
    go_enter Try.func6, Try.ntmps6
    go_wp2_with fail
    refine HW.out.mono ?_
    rintro e z ⟨rfl, hb⟩
    have HB := Lib.hid hb
    clear hb HW
    go_wp2_with fail
    go_ret
    exact ⟨rfl, HB.out⟩
  · have hd : decide ((24 : Int) < (n : Int)) = false := decide_eq_false (by omega)
    have HO := Lib.hid (own_any A n c l w HL.out (by omega))
    go_enter Try.func6, Try.ntmps6
    go_wp2_with fail
    refine HO.out.mono ?_
    rintro e z ⟨B, cB, rfl, hr⟩
    have HR := Lib.hid hr
    clear hr HO
    go_wp2_with fail
    refine (Find_any B n cB l x z (HR.out.lz HLN.out) (by omega) HU.out HX.out).mono ?_
    rintro e z2 ⟨p, m, P, cP, rfl, hm, hr, hf, hp⟩
    have HP := Lib.hid hr
    have HPM := Lib.hid hm
    have HPP := Lib.hid hp
    have HB2 := Lib.hid (HR.out.below.trans (hr.below.mono HR.out.below.size))
    clear hr hm hp hf
    go_wp2_with fail
    refine (Round_any A n c l x z2 (HL.out.below HB2.out) (by omega)).mono ?_
    rintro e z3 ⟨A3, c3, he, hr3⟩
    rw [← HPP.out] at he hr3
    rw [HPM.out] at he hr3
    subst he
    have HR3 := Lib.hid hr3
    have HB3 := Lib.hid (HB2.out.trans (hr3.below.mono HB2.out.size))
    have HN := Lib.hid (nums_any P A3 m cP m c3 p p z3 ((HP.out.under hr3.below).lz HPM.out) (hr3.lz HPM.out) (by have h1 := hr3.below.size; have h2 := HPM.out; have h3 := HPP.out; have h4 := roundU_length l x (farU l x x) x; have h5 := isD_le (farU_isD l x x); have h6 := HLN.out; rw [← h3] at h4; omega))
    clear hr3
    go_wp2_with fail
    refine HN.out.mono ?_
    rintro e z4 ⟨he, hb4⟩
    rw [beq_self_eq_true] at he
    subst he
    have HB4 := Lib.hid (HB3.out.trans (hb4.mono HB3.out.size))
    clear hb4 HN
    go_wp2_with fail
    refine (works_any z4).mono ?_
    rintro e z5 ⟨rfl, hb5⟩
    have HB5 := Lib.hid (HB4.out.trans (hb5.mono HB4.out.size))
    clear hb5
    go_wp2_with fail
    go_ret
    exact ⟨rfl, HB5.out⟩
end Go.Proofs.Ytnkphpjnhjbokaa
