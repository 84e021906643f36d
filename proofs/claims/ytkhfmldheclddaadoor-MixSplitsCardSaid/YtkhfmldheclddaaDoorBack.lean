/-
  The walk of the law MixBack.
  Conditions: the table of math/bits lies in its variable.
-/
import Derived.Test.YtkhfmldheclddaaDoorWorks
namespace Go.Proofs.YtkhfmldheclddaaDoor
open Go.RowKit

theorem mix_eql (a b : Nat) (ha : a < Mx.M) (hb : b < Mx.M) : (((Mx.mix a : Nat) : Int) == ((Mx.mix b : Nat) : Int)) = ((a : Int) == (b : Int)) := by
  rw [Bool.eq_iff_iff]
  simp only [beq_iff_eq]
  constructor
  · intro h
    have := Mx.mix_inj ha hb (by omega)
    omega
  · intro h
    have : a = b := by omega
    rw [this]

set_option maxHeartbeats 1000000 in
theorem back_any (a b : Nat) (w : World) (ha : a < Mx.M) (hb : b < Mx.M) (hT : Tab w) :
    Calls Tryd.prog 3 #[.int .u64 a, .int .u64 b] w fun e w' => e = .returned (.bool true) ∧ Below w.heap.size w w' := by
  have HT := Lib.hid hT
  have e3 := Lib.hid (mix_eql a b ha hb)
  clear hT
  go_enter Tryd.func3, Tryd.ntmps3
  go_wp2_with fail
  refine (mix_any a w).mono ?_
  rintro e w' ⟨rfl, rfl⟩
  go_wp2_with fail
  refine (unmix_any _ w (Mx.mix_lt a)).mono ?_
  rintro e w' ⟨rfl, n1, rfl⟩
  rw [Mx.unmix_mix ha]
  go_wp2_with fail
  refine (unmix_any a _ ha).mono ?_
  rintro e w' ⟨rfl, n2, rfl⟩
  go_wp2_with fail
  refine (mix_any _ _).mono ?_
  rintro e w' ⟨rfl, rfl⟩
  rw [Mx.mix_unmix ha]
  go_wp2_with fail
  refine (mix_any _ _).mono ?_
  rintro e w' ⟨rfl, rfl⟩
  go_wp2_with fail
  refine (mix_any _ _).mono ?_
  rintro e w' ⟨rfl, rfl⟩
  have E3 := e3.out
  clear e3
  go_wp2_with fail
  refine (works_any _ (HT.out.under (below_n _ _ _))).mono ?_
  rintro e w1 ⟨rfl, hb1⟩
  go_wp2_with fail
  go_ret
  exact ⟨rfl, (below_n w.heap.size w _).trans hb1⟩

theorem wf_u64 {z : Int} (h : (Lit.int .u64 z).wf = true) : ∃ n : Nat, z = n ∧ n < Mx.M := by
  simp [Lit.wf, IntKind.min, IntKind.max, IntKind.bits, IntKind.signed] at h
  exact ⟨z.toNat, by omega, by unfold Mx.M; omega⟩
theorem wf_i64 {z : Int} (h : (Lit.int .i64 z).wf = true) : -9223372036854775808 ≤ z ∧ z ≤ 9223372036854775807 := by
  simp [Lit.wf, IntKind.min, IntKind.max, IntKind.bits, IntKind.signed] at h
  omega
theorem back_law (a b : Int) (w : World) (ha : (Lit.int .u64 a).wf = true) (hb : (Lit.int .u64 b).wf = true) (hT : Tab w) :
    Calls Tryd.prog 3 #[.int .u64 a, .int .u64 b] w fun e w' => e = .returned (.bool true) ∧ Below w.heap.size w w' := by
  obtain ⟨m, rfl, hm⟩ := wf_u64 ha
  obtain ⟨n, rfl, hn⟩ := wf_u64 hb
  exact back_any m n w hm hn hT
end Go.Proofs.YtkhfmldheclddaaDoor
