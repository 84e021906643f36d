/-
  The walks of New, Len, has, Taken and Set, over every map.
  Conditions: maps of at most 120 pages.
-/
import Derived.Test.YtfmjnjhocpoafaaM
import Derived.Test.YtfmjnjhocpoafaaChecked
namespace Go.Proofs.Ytfmjnjhocpoafaa
open Go.RowKit

set_option maxHeartbeats 400000 in
theorem new_ok (n : Nat) (w : World) (h1 : 1 ≤ n) (h2 : n ≤ 120) :
    Calls Try.prog 7 #[.int .i64 n] w fun e w' => e = .returned (.tuple #[.agg #[.int .i64 ((List.replicate n false).length : Nat), .int .u64 (lo (List.replicate n false) : Nat), .int .u64 (hi (List.replicate n false) : Nat)], .int .i64 0]) ∧ Below w.heap.size w w' := by
  go_enter Try.func7, Try.ntmps7
  go_wp2_with fail
  exact bodyPost_ret (v := .tuple #[.agg #[.int .i64 ((List.replicate n false).length : Nat), .int .u64 (lo (List.replicate n false) : Nat), .int .u64 (hi (List.replicate n false) : Nat)], .int .i64 0]) (by simp [results, Try.results7, go_sem, lo_none, hi_none]) rfl ⟨rfl, (Below.refl _ _).alloc (Nat.le_refl _) _⟩
set_option maxHeartbeats 400000 in
theorem new_bad (n : Int) (w : World) (h : n < 1 ∨ 120 < n) :
    Calls Try.prog 7 #[.int .i64 n] w fun e w' => e = .returned (.tuple #[.agg #[.int .i64 0, .int .u64 0, .int .u64 0], .int .i64 2]) ∧ Below w.heap.size w w' := by
  by_cases h0 : n < 1
  · go_enter Try.func7, Try.ntmps7
    go_wp2_with fail
    exact bodyPost_ret (v := .tuple #[.agg #[.int .i64 0, .int .u64 0, .int .u64 0], .int .i64 2]) (by simp [results, Try.results7, go_sem]) rfl ⟨rfl, (Below.refl _ _).alloc (Nat.le_refl _) _⟩
  · have h3 : 120 < n := by omega
    go_enter Try.func7, Try.ntmps7
    go_wp2_with fail
    exact bodyPost_ret (v := .tuple #[.agg #[.int .i64 0, .int .u64 0, .int .u64 0], .int .i64 2]) (by simp [results, Try.results7, go_sem]) rfl ⟨rfl, (Below.refl _ _).alloc (Nat.le_refl _) _⟩

set_option maxHeartbeats 400000 in
theorem len_any (l : List Bool) (w : World) :
    Calls Try.prog 19 #[.agg #[.int .i64 (l.length : Nat), .int .u64 (lo l : Nat), .int .u64 (hi l : Nat)]] w fun e w' => e = .returned (.int .i64 (l.length : Nat)) ∧ Below w.heap.size w w' := by
  go_enter Try.func19, Try.ntmps19
  go_wp2_with fail
  go_ret
  exact ⟨rfl, (Below.refl _ _).alloc (Nat.le_refl _) _⟩

/-- Does page i exist? -/
def inB (l : List Bool) (i : Int) : Bool := decide (0 ≤ i) && decide (i < l.length)
theorem ret_bool {a b : Bool} (h : a = b) : Ending.returned (.bool a) = .returned (.bool b) := by rw [h]
set_option maxHeartbeats 400000 in
theorem has_any (l : List Bool) (i : Int) (w : World) :
    Calls Try.prog 20 #[.agg #[.int .i64 (l.length : Nat), .int .u64 (lo l : Nat), .int .u64 (hi l : Nat)], .int .i64 i] w fun e w' => e = .returned (.bool (inB l i)) ∧ Below w.heap.size w w' := by
  go_enter Try.func20, Try.ntmps20
  go_wp2_with fail
  all_goals
    go_ret
    exact ⟨ret_bool (by unfold inB; simp; try omega), (Below.refl _ _).alloc (Nat.le_refl _) _⟩
theorem has_is {l : List Bool} {i : Int} {b : Bool} (h : inB l i = b) (w : World) :
    Calls Try.prog 20 #[.agg #[.int .i64 (l.length : Nat), .int .u64 (lo l : Nat), .int .u64 (hi l : Nat)], .int .i64 i] w fun e w' => e = .returned (.bool b) ∧ Below w.heap.size w w' := by
  subst h; exact has_any _ _ _
/-- What a call that only makes memory leaves as it was. -/
theorem keep {N : Nat} {W w1 : World} (hb : Below W.heap.size W w1) (hN : N ≤ W.heap.size) :
    (∀ b o, b < N → w1.cell? ⟨b, o, none⟩ = W.cell? ⟨b, o, none⟩) ∧ (∀ b o, b < N → w1.frozen? ⟨b, o, none⟩ = W.frozen? ⟨b, o, none⟩) :=
  ⟨fun b o h => hb.cell (p := ⟨b, o, none⟩) (Nat.lt_of_lt_of_le h hN), fun b o h => hb.frozen (p := ⟨b, o, none⟩) (Nat.lt_of_lt_of_le h hN)⟩
theorem chain {B : Nat} {w w1 w2 : World} (h : Below B w w1) (hb : Below w1.heap.size w1 w2) (hB : B ≤ w.heap.size) : Below B w w2 :=
  h.trans (hb.mono (Nat.le_trans hB h.size))

theorem andbit_w (m n : Nat) (hm : m < 2 ^ 64) : (bits .and .u64 ((m : Int) / 2 ^ n) 1 == 1) = m.testBit n := by
  have hs : m >>> n < 2 ^ 64 := by
    rw [Nat.shiftRight_eq_div_pow]
    exact Nat.lt_of_le_of_lt (Nat.div_le_self _ _) hm
  have hb : m >>> n % 2 = (m.testBit n).toNat := by rw [Nat.shiftRight_eq_div_pow, Nat.toNat_testBit]
  rw [show ((m : Int) / 2 ^ n) = ((m >>> n : Nat) : Int) from by rw [Nat.shiftRight_eq_div_pow]; push_cast; rfl, show (1 : Int) = ((1 : Nat) : Int) from rfl, bits_and_u64_nat _ 1 hs (by decide), Nat.and_one_is_mod, hb]
  cases m.testBit n <;> rfl

set_option maxHeartbeats 400000 in
theorem taken_out (l : List Bool) (i : Int) (hib : inB l i = false) (w : World) :
    Calls Try.prog 17 #[.agg #[.int .i64 (l.length : Nat), .int .u64 (lo l : Nat), .int .u64 (hi l : Nat)], .int .i64 i] w fun e w' => e = .returned (.bool false) ∧ Below w.heap.size w w' := by
  have HI := Lib.hid hib
  clear hib
  go_enter Try.func17, Try.ntmps17
  go_wp2_with fail
  refine (has_is HI.out _).mono ?_
  rintro e w1 ⟨rfl, h1⟩
  have B1 := Lib.hid (chain ((Below.refl w.heap.size w).alloc (Nat.le_refl _) _) h1 (Nat.le_refl _))
  clear h1
  go_wp2_with fail
  go_ret
  exact ⟨rfl, B1.out⟩
set_option maxHeartbeats 800000 in
theorem taken_lo (l : List Bool) (i : Nat) (hl : i < l.length) (h64 : i < 64) (w : World) :
    Calls Try.prog 17 #[.agg #[.int .i64 (l.length : Nat), .int .u64 (lo l : Nat), .int .u64 (hi l : Nat)], .int .i64 i] w fun e w' => e = .returned (.bool (tk l i)) ∧ Below w.heap.size w w' := by
  have HI := Lib.hid (show inB l i = true by unfold inB; simp; omega)
  have HB := Lib.hid (show (bits .and .u64 ((lo l : Int) / 2 ^ i) 1 == 1) = tk l i by rw [andbit_w _ _ (lo_lt l), lo_bit l i h64, tk_nat])
  have d : (i : Int) / 64 = 0 := by omega
  have m : (i : Int) % 64 = (i : Int) := by omega
  go_enter Try.func17, Try.ntmps17
  go_wp2_with fail
  refine (has_is HI.out _).mono ?_
  rintro e w1 ⟨rfl, h1⟩
  obtain ⟨hc1, hf1⟩ := keep (N := w.heap.size + 1) h1 (by simp)
  have B1 := Lib.hid (chain ((Below.refl w.heap.size w).alloc (Nat.le_refl _) _) h1 (Nat.le_refl _))
  clear h1
  go_wp2_with fail
  go_ret
  exact ⟨ret_bool HB.out, B1.out⟩
set_option maxHeartbeats 800000 in
theorem taken_hi (l : List Bool) (i j : Nat) (hl : i < l.length) (hn : l.length ≤ 120) (hj : i = 64 + j) (w : World) :
    Calls Try.prog 17 #[.agg #[.int .i64 (l.length : Nat), .int .u64 (lo l : Nat), .int .u64 (hi l : Nat)], .int .i64 i] w fun e w' => e = .returned (.bool (tk l i)) ∧ Below w.heap.size w w' := by
  have HI := Lib.hid (show inB l i = true by unfold inB; simp; omega)
  have HB := Lib.hid (show (bits .and .u64 ((hi l : Int) / 2 ^ j) 1 == 1) = tk l i by rw [andbit_w _ _ (hi_lt l hn), hi_bit l j, tk_nat, hj])
  have d : (i : Int) / 64 = 1 := by omega
  have m : (i : Int) % 64 = (j : Int) := by omega
  have hj2 : j < 64 := by omega
  have HJ := Lib.hid hj
  clear hj
  go_enter Try.func17, Try.ntmps17
  go_wp2_with fail
  refine (has_is HI.out _).mono ?_
  rintro e w1 ⟨rfl, h1⟩
  obtain ⟨hc1, hf1⟩ := keep (N := w.heap.size + 1) h1 (by simp)
  have B1 := Lib.hid (chain ((Below.refl w.heap.size w).alloc (Nat.le_refl _) _) h1 (Nat.le_refl _))
  clear h1
  go_wp2_with fail
  go_ret
  exact ⟨ret_bool HB.out, B1.out⟩
theorem taken_any (l : List Bool) (i : Int) (hn : l.length ≤ 120) (w : World) :
    Calls Try.prog 17 #[.agg #[.int .i64 (l.length : Nat), .int .u64 (lo l : Nat), .int .u64 (hi l : Nat)], .int .i64 i] w fun e w' => e = .returned (.bool (tk l i)) ∧ Below w.heap.size w w' := by
  cases hb : inB l i
  · have : tk l i = false := by
      by_cases h0 : i < 0
      · exact tk_neg l i h0
      · refine tk_out l i ?_
        unfold inB at hb
        simp at hb
        omega
    rw [this]
    exact taken_out l i hb w
  · unfold inB at hb
    simp at hb
    obtain ⟨k, rfl⟩ : ∃ k : Nat, i = (k : Int) := ⟨i.toNat, by omega⟩
    by_cases h : k < 64
    · exact taken_lo l k (by omega) h w
    · exact taken_hi l k (k - 64) (by omega) hn (by omega) w
theorem taken_is {l : List Bool} {i : Int} {b : Bool} (h : tk l i = b) (hn : l.length ≤ 120) (w : World) :
    Calls Try.prog 17 #[.agg #[.int .i64 (l.length : Nat), .int .u64 (lo l : Nat), .int .u64 (hi l : Nat)], .int .i64 i] w fun e w' => e = .returned (.bool b) ∧ Below w.heap.size w w' := by
  subst h; exact taken_any _ _ hn _
end Go.Proofs.Ytfmjnjhocpoafaa
