/-
  The walks of mix.fold, unfold, Mix and Unmix, and of the reference's over and Mix: they return what the plain functions of MixMath say.
  Conditions: each number is below 2^64 (or, for a shift, below 64).
-/
import Derived.Test.YtkhfmldheclddaaDoorProg
import Derived.Test.YtkhfmldheclddaaDoorMixMath
import Derived.WalkLawsBesides
import Derived.WalkSpells
import Derived.BigQuiet
import Derived.Deep.QuietTactic
import Derived.Lib.Hide
import Derived.Lib.SmallJoins
import Derived.Laws.Bits64b
namespace Go.Proofs.YtkhfmldheclddaaDoor
open Go.RowKit

theorem ret_same {k : IntKind} {a b : Int} (h : a = b) : Ending.returned (.int k a) = .returned (.int k b) := by rw [h]
theorem xor64 (a b : Nat) (ha : a < Mx.M) (hb : b < Mx.M) : bits .xor .u64 (a : Int) (b : Int) = ((a ^^^ b : Nat) : Int) := u64_xor_nat a b ha hb
theorem over_w (x s : Nat) (hx : x < Mx.M) : bits .xor .u64 (x : Int) ((x : Int) / 2 ^ s) = ((Mx.over x s : Nat) : Int) := by
  rw [show ((x : Int) / 2 ^ s) = ((x >>> s : Nat) : Int) from by rw [Nat.shiftRight_eq_div_pow]; push_cast; rfl, xor64 _ _ hx (Mx.shr_lt hx)]
  rfl
theorem back_w (x s : Nat) (hx : x < Mx.M) : bits .xor .u64 (bits .xor .u64 (x : Int) ((x : Int) / 2 ^ s)) ((x : Int) / 2 ^ (2 * s)) = ((Mx.back x s : Nat) : Int) := by
  rw [over_w x s hx, show ((x : Int) / 2 ^ (2 * s)) = ((x >>> (2 * s) : Nat) : Int) from by rw [Nat.shiftRight_eq_div_pow]; push_cast; rfl, xor64 _ _ (Mx.over_lt hx) (Mx.shr_lt hx)]
  rfl
theorem mul_w (x c : Nat) : IntKind.u64.wrap ((x : Int) * (c : Int)) = ((x * c % Mx.M : Nat) : Int) := by
  rw [IntKind.wrap_u64, Int.natCast_emod, Int.natCast_mul]
  rfl
theorem add_w (x c : Nat) : IntKind.u64.wrap ((x : Int) + (c : Int)) = (((x + c) % Mx.M : Nat) : Int) := by
  rw [IntKind.wrap_u64, Int.natCast_emod, Int.natCast_add]
  rfl
theorem sub_w (x c : Nat) (hc : c ≤ Mx.M) : IntKind.u64.wrap ((x : Int) - (c : Int)) = (((x + (Mx.M - c)) % Mx.M : Nat) : Int) := by
  rw [IntKind.wrap_u64]
  unfold Mx.M at *
  omega
theorem shr_cast (x s : Nat) : ((x : Int) / ((2 ^ s : Nat) : Int)) = ((x >>> s : Nat) : Int) := by
  rw [Nat.shiftRight_eq_div_pow, Int.natCast_ediv]
theorem quo_w (x s : Nat) (hx : x < Mx.M) : IntKind.u64.wrap ((x : Int) / ((2 ^ s : Nat) : Int)) = ((x >>> s : Nat) : Int) := by
  have h := Mx.shr_lt (s := s) hx
  rw [shr_cast, IntKind.wrap_u64]
  generalize x >>> s = y at *
  unfold Mx.M at h
  omega
theorem mod_M (n : Nat) : n % Mx.M < Mx.M := Nat.mod_lt _ Mx.M_pos

set_option maxHeartbeats 400000 in
theorem fold_any (x s : Nat) (w : World) (hx : x < Mx.M) (hs : s < 64) :
    Calls Tryd.prog 16 #[.int .u64 x, .int .i64 s] w fun e w' => e = .returned (.int .u64 (Mx.over x s : Nat)) ∧ w = w' := by
  have H := Lib.hid (over_w x s hx)
  go_enter Tryd.func16, Tryd.ntmps16
  go_wp2_with fail
  go_ret
  exact ⟨ret_same H.out, rfl⟩
set_option maxHeartbeats 400000 in
theorem unfold_any (x s : Nat) (w : World) (hx : x < Mx.M) (hs : s < 32) :
    Calls Tryd.prog 15 #[.int .u64 x, .int .i64 s] w fun e w' => e = .returned (.int .u64 (Mx.back x s : Nat)) ∧ ∃ n, w' = w.drewN n := by
  have H := Lib.hid (back_w x s hx)
  go_enter Tryd.func15, Tryd.ntmps15
  go_wp2_with fail
  go_quiet (fail)
  go_wp2_with fail
  go_ret
  exact ⟨ret_same H.out, _, rfl⟩
set_option maxHeartbeats 400000 in
theorem over_any (x s : Nat) (c : Int) (w : World) (hx : x < Mx.M) (hc : c = ((2 ^ s : Nat) : Int)) (h0 : 0 < c) (h1 : c < 18446744073709551616) :
    Calls Tryd.prog 22 #[.int .u64 x, .int .u64 c] w fun e w' => e = .returned (.int .u64 (Mx.over x s : Nat)) ∧ w = w' := by
  have H := Lib.hid (quo_w x s hx)
  have HC := Lib.hid hc
  have hn : (c == 0) = false := by simp; omega
  clear hc
  go_enter Tryd.func22, Tryd.ntmps22
  go_wp2_with fail
  go_ret
  refine ⟨ret_same ?_, rfl⟩
  rw [HC.out, H.out, xor64 _ _ hx (Mx.shr_lt hx)]
  rfl

set_option maxHeartbeats 400000 in
theorem mix_any (k : Nat) (w : World) :
    Calls Tryd.prog 7 #[.int .u64 k] w fun e w' => e = .returned (.int .u64 (Mx.mix k : Nat)) ∧ w = w' := by
  have e1 := add_w k Mx.C1
  have e2 := mul_w (Mx.over ((k + Mx.C1) % Mx.M) 30) Mx.C2
  have e3 := mul_w (Mx.over (Mx.over ((k + Mx.C1) % Mx.M) 30 * Mx.C2 % Mx.M) 27) Mx.C3
  have hm : Hid (Mx.over (Mx.over (Mx.over ((k + Mx.C1) % Mx.M) 30 * Mx.C2 % Mx.M) 27 * Mx.C3 % Mx.M) 31 = Mx.mix k) := rfl
  have h1 := mod_M (k + Mx.C1)
  generalize (k + Mx.C1) % Mx.M = a at *
  have h2 := mod_M (Mx.over a 30 * Mx.C2)
  generalize Mx.over a 30 * Mx.C2 % Mx.M = b at *
  have h3 := mod_M (Mx.over b 27 * Mx.C3)
  generalize Mx.over b 27 * Mx.C3 % Mx.M = c at *
  have E1 : IntKind.u64.wrap ((k : Int) + 11400714819323198485) = (a : Int) := e1
  have E2 : IntKind.u64.wrap (((Mx.over a 30 : Nat) : Int) * 13787848793156543929) = (b : Int) := e2
  have E3 : IntKind.u64.wrap (((Mx.over b 27 : Nat) : Int) * 10723151780598845931) = (c : Int) := e3
  clear e1 e2 e3
  go_enter Tryd.func7, Tryd.ntmps7
  go_wp2_with fail
  refine (fold_any a 30 w h1 (by decide)).mono ?_
  rintro e w' ⟨rfl, rfl⟩
  go_wp2_with fail
  refine (fold_any b 27 w h2 (by decide)).mono ?_
  rintro e w' ⟨rfl, rfl⟩
  go_wp2_with fail
  refine (fold_any c 31 w h3 (by decide)).mono ?_
  rintro e w' ⟨rfl, rfl⟩
  go_wp2_with fail
  go_ret
  exact ⟨by rw [hm]; rfl, rfl⟩
set_option maxHeartbeats 400000 in
theorem refMix_any (k : Nat) (w : World) :
    Calls Tryd.prog 20 #[.int .u64 k] w fun e w' => e = .returned (.int .u64 (Mx.mix k : Nat)) ∧ w = w' := by
  have e1 := add_w k Mx.C1
  have e2 := mul_w (Mx.over ((k + Mx.C1) % Mx.M) 30) Mx.C2
  have e3 := mul_w (Mx.over (Mx.over ((k + Mx.C1) % Mx.M) 30 * Mx.C2 % Mx.M) 27) Mx.C3
  have hm : Hid (Mx.over (Mx.over (Mx.over ((k + Mx.C1) % Mx.M) 30 * Mx.C2 % Mx.M) 27 * Mx.C3 % Mx.M) 31 = Mx.mix k) := rfl
  have h1 := mod_M (k + Mx.C1)
  generalize (k + Mx.C1) % Mx.M = a at *
  have h2 := mod_M (Mx.over a 30 * Mx.C2)
  generalize Mx.over a 30 * Mx.C2 % Mx.M = b at *
  have h3 := mod_M (Mx.over b 27 * Mx.C3)
  generalize Mx.over b 27 * Mx.C3 % Mx.M = c at *
  have E1 : IntKind.u64.wrap ((k : Int) + 11400714819323198485) = (a : Int) := e1
  have E2 : IntKind.u64.wrap (((Mx.over a 30 : Nat) : Int) * 13787848793156543929) = (b : Int) := e2
  have E3 : IntKind.u64.wrap (((Mx.over b 27 : Nat) : Int) * 10723151780598845931) = (c : Int) := e3
  clear e1 e2 e3
  go_enter Tryd.func20, Tryd.ntmps20
  go_wp2_with fail
  refine (over_any a 30 _ w h1 (by decide) (by decide) (by decide)).mono ?_
  rintro e w' ⟨rfl, rfl⟩
  go_wp2_with fail
  refine (over_any b 27 _ w h2 (by decide) (by decide) (by decide)).mono ?_
  rintro e w' ⟨rfl, rfl⟩
  go_wp2_with fail
  refine (over_any c 31 _ w h3 (by decide) (by decide) (by decide)).mono ?_
  rintro e w' ⟨rfl, rfl⟩
  go_wp2_with fail
  go_ret
  exact ⟨by rw [hm]; rfl, rfl⟩
set_option maxHeartbeats 400000 in
theorem unmix_any (x : Nat) (w : World) (hx : x < Mx.M) :
    Calls Tryd.prog 6 #[.int .u64 x] w fun e w' => e = .returned (.int .u64 (Mx.unmix x : Nat)) ∧ ∃ n, w' = w.drewN n := by
  have e1 := mul_w (Mx.back x 31) Mx.D3
  have e2 := mul_w (Mx.back (Mx.back x 31 * Mx.D3 % Mx.M) 27) Mx.D2
  have e3 := sub_w (Mx.back (Mx.back (Mx.back x 31 * Mx.D3 % Mx.M) 27 * Mx.D2 % Mx.M) 30) Mx.C1 (by decide)
  have hm : Hid (((Mx.back (Mx.back (Mx.back x 31 * Mx.D3 % Mx.M) 27 * Mx.D2 % Mx.M) 30 + (Mx.M - Mx.C1)) % Mx.M) = Mx.unmix x) := rfl
  have h1 := mod_M (Mx.back x 31 * Mx.D3)
  generalize Mx.back x 31 * Mx.D3 % Mx.M = a at *
  have h2 := mod_M (Mx.back a 27 * Mx.D2)
  generalize Mx.back a 27 * Mx.D2 % Mx.M = b at *
  generalize (Mx.back b 30 + (Mx.M - Mx.C1)) % Mx.M = c at *
  have E1 : IntKind.u64.wrap (((Mx.back x 31 : Nat) : Int) * 3573116690164977347) = (a : Int) := e1
  have E2 : IntKind.u64.wrap (((Mx.back a 27 : Nat) : Int) * 10871156337175269513) = (b : Int) := e2
  have E3 : IntKind.u64.wrap (((Mx.back b 30 : Nat) : Int) - 11400714819323198485) = (c : Int) := e3
  clear e1 e2 e3
  go_enter Tryd.func6, Tryd.ntmps6
  go_wp2_with fail
  refine (unfold_any x 31 w hx (by decide)).mono ?_
  rintro e w' ⟨rfl, n1, rfl⟩
  go_wp2_with fail
  refine (unfold_any a 27 _ h1 (by decide)).mono ?_
  rintro e w' ⟨rfl, n2, rfl⟩
  go_wp2_with fail
  refine (unfold_any b 30 _ h2 (by decide)).mono ?_
  rintro e w' ⟨rfl, n3, rfl⟩
  go_wp2_with fail
  go_ret
  exact ⟨by rw [hm]; rfl, _, rfl⟩
end Go.Proofs.YtkhfmldheclddaaDoor
