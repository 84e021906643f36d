/-
  Lists: a page written over another one, of which some sectors are kept.
  Conditions: none beyond those that each theorem names.
-/
import Derived.Test.YtlanaplnhjdgcaaU3
namespace Go.Proofs.Ytlanaplnhjdgcaa
open Go.RowKit

def mix (p1 p2 : Pg) (f s : Nat) (kf : Nat → Bool) : List Sect :=
  [if kf 0 then lay p2 s 0 else lay p1 f 0, if kf 1 then lay p2 s 1 else lay p1 f 1, if kf 2 then lay p2 s 2 else lay p1 f 2, if kf 3 then lay p2 s 3 else lay p1 f 3]
def cnt (kf : Nat → Bool) : Nat → Nat
  | 0 => 0
  | k + 1 => cnt kf k + if kf k then 1 else 0
theorem cnt_le (kf : Nat → Bool) : ∀ k, cnt kf k ≤ k
  | 0 => Nat.le_refl _
  | k + 1 => by
    have := cnt_le kf k
    rw [cnt]
    split <;> omega
theorem mix_none (p1 p2 : Pg) (f s : Nat) (kf : Nat → Bool) (h : cnt kf 4 = 0) : mix p1 p2 f s kf = puts p1 f := by
  cases h0 : kf 0 <;> cases h1 : kf 1 <;> cases h2 : kf 2 <;> cases h3 : kf 3 <;> simp [cnt, h0, h1, h2, h3] at h <;> simp [mix, puts, h0, h1, h2, h3]
theorem mix_all (p1 p2 : Pg) (f s : Nat) (kf : Nat → Bool) (h : cnt kf 4 = 4) : mix p1 p2 f s kf = puts p2 s := by
  cases h0 : kf 0 <;> cases h1 : kf 1 <;> cases h2 : kf 2 <;> cases h3 : kf 3 <;> simp [cnt, h0, h1, h2, h3] at h <;> simp [mix, puts, h0, h1, h2, h3]
theorem mix_torn (p1 p2 : Pg) (f s : Nat) (kf : Nat → Bool) (h0 : cnt kf 4 ≠ 0) (h4 : cnt kf 4 ≠ 4) (hne : f ≠ s) (hf : f < 18446744073709551616) (hs : s < 18446744073709551616) : whole (mix p1 p2 f s kf) = false := by
  have a0 := mark_lay p1 f 0 (by omega) hf
  have a1 := mark_lay p1 f 1 (by omega) hf
  have a2 := mark_lay p1 f 2 (by omega) hf
  have a3 := mark_lay p1 f 3 (by omega) hf
  have b0 := mark_lay p2 s 0 (by omega) hs
  have b1 := mark_lay p2 s 1 (by omega) hs
  have b2 := mark_lay p2 s 2 (by omega) hs
  have b3 := mark_lay p2 s 3 (by omega) hs
  cases k0 : kf 0 <;> cases k1 : kf 1 <;> cases k2 : kf 2 <;> cases k3 : kf 3 <;> simp [cnt, k0, k1, k2, k3] at h0 h4 <;> simp [whole, mix, k0, k1, k2, k3, a0, a1, a2, a3, b0, b1, b2, b3] <;> omega
theorem mix_oks (p1 p2 : Pg) (f s : Nat) (kf : Nat → Bool) (h1 : Okb p1.toList) (h2 : Okb p2.toList) : Oks (mix p1 p2 f s kf) := by
  have q1 := oks_puts p1 f h1
  have q2 := oks_puts p2 s h2
  intro x hx
  simp only [mix, List.mem_cons, List.not_mem_nil, or_false] at hx
  rcases hx with rfl | rfl | rfl | rfl
  all_goals
    split
    · exact q2 _ (by simp [puts])
    · exact q1 _ (by simp [puts])
theorem torn_mix (S : List Sect) (p : Nat) (p1 p2 : Pg) (f s : Nat) (kf : Nat → Bool) (h : p + 4 ≤ S.length) (hS : (S.drop p).take 4 = puts p1 f) : ((upd S p (puts p2 s) kf).drop p).take 4 = mix p1 p2 f s kf := by
  apply List.ext_getElem?
  intro i
  by_cases hi : i < 4
  · rw [upd_torn S p (puts p2 s) kf i rfl h hi, hS]
    rcases i with _ | _ | _ | _ | i
    · simp only [mix, puts, List.getElem?_cons_zero]; split <;> rfl
    · simp only [mix, puts, List.getElem?_cons_zero, List.getElem?_cons_succ]; split <;> rfl
    · simp only [mix, puts, List.getElem?_cons_zero, List.getElem?_cons_succ]; split <;> rfl
    · simp only [mix, puts, List.getElem?_cons_zero, List.getElem?_cons_succ]; split <;> rfl
    · omega
  · rw [List.getElem?_eq_none (by rw [List.length_take]; omega), List.getElem?_eq_none (by simp [mix]; omega)]
theorem getD_take (kl : List Bool) (m j : Nat) (h : j < m) : (kl.take m).getD j false = kl.getD j false := by
  rw [List.getD_eq_getElem?_getD, List.getD_eq_getElem?_getD, List.getElem?_take, if_pos h]
theorem mix_congr (p1 p2 : Pg) (f s : Nat) (kf kg : Nat → Bool) (h : ∀ j, j < 4 → kf j = kg j) : mix p1 p2 f s kf = mix p1 p2 f s kg := by
  simp only [mix, h 0 (by omega), h 1 (by omega), h 2 (by omega), h 3 (by omega)]
end Go.Proofs.Ytlanaplnhjdgcaa
