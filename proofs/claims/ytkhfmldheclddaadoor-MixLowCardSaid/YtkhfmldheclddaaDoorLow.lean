/-
  The walk of the law MixLow.
  Conditions: the table of math/bits lies in its variable.
-/
import Derived.Test.YtkhfmldheclddaaDoorBack
namespace Go.Proofs.YtkhfmldheclddaaDoor
open Go.RowKit

/-- The lowest n bits of a hash. -/
def lowN (a n : Nat) : Nat := Mx.mix a % 2 ^ n
theorem lowN_lt (a n : Nat) : lowN a n < 2 ^ n := Nat.mod_lt _ (Nat.two_pow_pos n)
theorem low_w2 (a n : Nat) (w : World) (hn : n ≤ 32) :
    Calls Tryd.prog 14 #[.int .u64 a, .int .i64 n] w fun e w' => e = .returned (.int .i64 (lowN a n : Nat)) ∧ ∃ m, w' = w.drewN m := low_any a n w hn

theorem low_w3 (a n : Nat) (w : World) (hn : n ≤ 31) :
    Calls Tryd.prog 14 #[.int .u64 a, .int .i64 ((n : Int) + 1)] w fun e w' => e = .returned (.int .i64 (lowN a (n + 1) : Nat)) ∧ ∃ m, w' = w.drewN m := low_any a (n + 1) w (by omega)

theorem shl_w (n : Nat) (hn : n ≤ 31) : ∃ p : Nat, wrap64 (2 ^ n) = (p : Int) ∧ p = 2 ^ n ∧ p ≤ 2147483648 := by
  have hp : 2 ^ n ≤ 2 ^ 31 := Nat.pow_le_pow_right (by decide) hn
  refine ⟨2 ^ n, ?_, rfl, by omega⟩
  rw [show ((2 : Int) ^ n) = ((2 ^ n : Nat) : Int) from by push_cast; rfl]
  generalize 2 ^ n = q at *
  unfold wrap64
  omega

set_option maxHeartbeats 2000000 in
/-- The law's inside, at what the calls return. -/
theorem low_core (a b n x z m p : Nat) (y : Int) (t : Bool) (w : World) (hn : n ≤ 31) (hT : Hid (Tab w)) (ep : wrap64 (2 ^ n) = (p : Int)) (hx : x < p) (hp : p ≤ 2147483648)
    (hy : y = (x : Int) + (if t = true then (p : Int) else 0)) (hs : x = z ↔ n ≤ m)
    (c1 : ∀ W, Hid (Calls Tryd.prog 14 #[.int .u64 a, .int .i64 n] W fun e w' => e = .returned (.int .i64 (x : Nat)) ∧ ∃ m, w' = W.drewN m))
    (c2 : ∀ W, Hid (Calls Tryd.prog 14 #[.int .u64 a, .int .i64 ((n : Int) + 1)] W fun e w' => e = .returned (.int .i64 y) ∧ ∃ m, w' = W.drewN m))
    (c3 : ∀ W, Hid (Calls Tryd.prog 14 #[.int .u64 b, .int .i64 n] W fun e w' => e = .returned (.int .i64 (z : Nat)) ∧ ∃ m, w' = W.drewN m))
    (c4 : ∀ W, Hid (Calls Tryd.prog 13 #[.int .u64 a, .int .i64 n] W fun e w' => e = .returned (.bool t) ∧ W = w'))
    (c5 : ∀ W, Tab W → Hid (Calls Tryd.prog 11 #[.int .u64 a, .int .u64 b] W fun e w' => e = .returned (.int .i64 (m : Nat)) ∧ W = w')) :
    Calls Tryd.prog 5 #[.int .u64 a, .int .u64 b, .int .i64 n] w fun e w' => e = .returned (.bool true) ∧ Below w.heap.size w w' := by
  have C5 := Lib.hid c5
  clear c5
  have d0 : decide ((n : Int) < 0) = false := by simp
  have d1 : decide ((31 : Int) < (n : Int)) = false := by simp; omega
  have hq : Hid (((x : Int) == (z : Int)) = decide ((n : Int) ≤ (m : Int))) := by
    show _ = _
    rw [Bool.eq_iff_iff]
    simp only [beq_iff_eq, decide_eq_true_eq]
    omega
  clear hs
  cases t <;> simp only [if_true, Bool.false_eq_true, if_false] at hy <;> subst hy
  all_goals
    go_enter Tryd.func5, Tryd.ntmps5
    go_wp2_with fail
    refine (c1 w).out.mono ?_
    rintro e w' ⟨rfl, n1, rfl⟩
    go_wp2_with fail
    refine (c2 _).out.mono ?_
    rintro e w' ⟨rfl, n2, rfl⟩
    go_wp2_with fail
    refine (c4 _).out.mono ?_
    rintro e w' ⟨rfl, rfl⟩
    go_wp2_with fail
    refine (c1 _).out.mono ?_
    rintro e w' ⟨rfl, n3, rfl⟩
    go_wp2_with fail
    refine (c3 _).out.mono ?_
    rintro e w' ⟨rfl, n4, rfl⟩
    go_wp2_with fail
    refine (C5.out _ (hT.out.under (below_n _ _ _))).out.mono ?_
    rintro e w' ⟨rfl, rfl⟩
    have HQ := hq.out
    go_wp2_with fail
    refine (works_any _ (hT.out.under (below_n _ _ _))).mono ?_
    rintro e w1 ⟨rfl, hb1⟩
    go_wp2_with fail
    go_ret
    exact ⟨rfl, (below_n w.heap.size w _).trans hb1⟩

theorem low_in (a b n : Nat) (w : World) (hn : n ≤ 31) (hT : Tab w) :
    Calls Tryd.prog 5 #[.int .u64 a, .int .u64 b, .int .i64 n] w fun e w' => e = .returned (.bool true) ∧ Below w.heap.size w w' := by
  obtain ⟨p, ep, hp, hb⟩ := shl_w n hn
  refine low_core a b n (lowN a n) (lowN b n) (Mx.alike (Mx.mix a) (Mx.mix b)) p (lowN a (n + 1) : Nat) ((Mx.mix a).testBit n) w hn (Lib.hid hT) ep (by rw [hp]; exact lowN_lt a n) hb ?_ (Mx.low_same (by omega))
    (fun W => Lib.hid (low_w2 a n W (by omega))) (fun W => Lib.hid (low_w3 a n W hn)) (fun W => Lib.hid (low_w2 b n W (by omega))) (fun W => Lib.hid (bit_in a n W (by omega))) (fun W hW => Lib.hid (alike_any a b W hW))
  rw [show lowN a (n + 1) = lowN a n + (if (Mx.mix a).testBit n = true then 2 ^ n else 0) from Mx.low_more _ _, ← hp]
  split <;> omega

set_option maxHeartbeats 1000000 in
theorem low_out (a b n : Int) (w : World) (hn : n < 0 ∨ 31 < n) (hT : Tab w) :
    Calls Tryd.prog 5 #[.int .u64 a, .int .u64 b, .int .i64 n] w fun e w' => e = .returned (.bool true) ∧ Below w.heap.size w w' := by
  have HT := Lib.hid hT
  clear hT
  by_cases h0 : n < 0
  · clear hn
    go_enter Tryd.func5, Tryd.ntmps5
    go_wp2_with fail
    refine (works_any _ HT.out).mono ?_
    rintro e w1 ⟨rfl, hb1⟩
    go_wp2_with fail
    go_ret
    exact ⟨rfl, hb1⟩
  · have h1 : 31 < n := by omega
    clear hn
    go_enter Tryd.func5, Tryd.ntmps5
    go_wp2_with fail
    refine (works_any _ HT.out).mono ?_
    rintro e w1 ⟨rfl, hb1⟩
    go_wp2_with fail
    go_ret
    exact ⟨rfl, hb1⟩

theorem low_law (a b n : Int) (w : World) (ha : (Lit.int .u64 a).wf = true) (hb : (Lit.int .u64 b).wf = true) (hT : Tab w) :
    Calls Tryd.prog 5 #[.int .u64 a, .int .u64 b, .int .i64 n] w fun e w' => e = .returned (.bool true) ∧ Below w.heap.size w w' := by
  by_cases h : n < 0 ∨ 31 < n
  · exact low_out a b n w h hT
  · obtain ⟨k, rfl⟩ := Int.eq_ofNat_of_zero_le (show 0 ≤ n by omega)
    obtain ⟨x, rfl, _⟩ := wf_u64 ha
    obtain ⟨y, rfl, _⟩ := wf_u64 hb
    exact low_in x y k w (by omega) hT
end Go.Proofs.YtkhfmldheclddaaDoor
