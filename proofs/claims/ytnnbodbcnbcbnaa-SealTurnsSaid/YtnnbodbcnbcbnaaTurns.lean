/-
  The walk of the law SealTurns.
  Conditions: none.
-/
import Derived.Test.YtnnbodbcnbcbnaaFrame
import Derived.Test.YtnnbodbcnbcbnaaFlip
namespace Go.Proofs.Ytnnbodbcnbcbnaa
open Go.RowKit
open Crc (regI)

theorem turns_big (A : Option Addr) (n c : Nat) (x y : Int) (w : World) (hb : 2000 < n) (hm : n ≤ 9223372036854775807) :
    Calls Try.prog 6 #[.slice A n c, .int .u16 x, .int .u32 y] w fun e w' => e = .returned (.bool true) ∧ Below w.heap.size w w' := by
  have d1 : decide ((2000 : Int) < (n : Int)) = true := by simp; omega
  go_enter Try.func6, Try.ntmps6
  go_wp2_with (go_at_call 7; refine (works_any _).mono ?_; rintro e w' ⟨rfl, hb⟩)
  go_ret
  exact ⟨rfl, hb⟩
theorem turns_zero (A : Option Addr) (n c : Nat) (x : Int) (w : World) (hm : n ≤ 2000) :
    Calls Try.prog 6 #[.slice A n c, .int .u16 x, .int .u32 0] w fun e w' => e = .returned (.bool true) ∧ Below w.heap.size w w' := by
  have d1 : decide ((2000 : Int) < (n : Int)) = false := by simp; omega
  go_enter Try.func6, Try.ntmps6
  go_wp2_with (go_at_call 7; refine (works_any _).mono ?_; rintro e w' ⟨rfl, hb⟩)
  go_ret
  exact ⟨rfl, hb⟩

def TurnR (w : World) (s : List UInt8) (N g c n mask : Nat) (i : Value) (wr : World) : Prop :=
  ∃ (k : Nat) (t : List UInt8), k ≤ 32 ∧ i = .int .i64 k ∧ Hid (Burst s t n mask k) ∧ Hid (wr.ownsRow w.heap.size 5 1 (.slice (some ⟨g, 0, none⟩) N c) N (BC t)) ∧ Hid (Below w.heap.size w wr)

set_option maxHeartbeats 2000000 in
theorem turns_in (A : Option Addr) (n c x mask nn : Nat) (l : List UInt8) (w : World) (h : Lies w w.heap.size 1 A n (BC l)) (hn : n ≤ 2000) (hx : x < 65536) (hm : mask < 4294967296) (h0 : mask ≠ 0)
    (hk : x % (8 * (n + 4) - 31) = nn) :
    Calls Try.prog 6 #[.slice A n c, .int .u16 (x : Int), .int .u32 (mask : Int)] w fun e w' => e = .returned (.bool true) ∧ Below w.heap.size w w' := by
  have hl : l.length = n := by have := h.len; rw [BC_length] at this; omega
  have HL := Lib.hid hl
  have H := Lib.hid h
  have hkn : nn + 32 ≤ 8 * (n + 4) := by have := Nat.mod_lt x (show 8 * (n + 4) - 31 > 0 by omega); omega
  have hk1 : (x : Int) % (8 * ((n : Int) + 4) - 31) = nn := by
    rw [← hk, Int.natCast_emod]
    congr 1
    omega
  have d1 : decide ((2000 : Int) < (n : Int)) = false := by simp; omega
  have d2 : ((mask : Int) == 0) = false := by rw [beq_eq_false_iff_ne]; omega
  have H0 := Lib.hid h0
  clear h hl hk h0
  go_enter Try.func6, Try.ntmps6
  go_wp2_with fail
  refine (put_any w.heap.size n c A l w H.out (Nat.le_refl _) (by omega)).mono ?_
  rintro e w1 ⟨A1, c1, rfl, ho1, hb1⟩
  rw [sealL_length, HL.out] at ho1 ⊢
  obtain ⟨g, rfl⟩ : ∃ g, A1 = some ⟨g, 0, none⟩ := by
    rcases ho1.2 with ⟨_, h⟩ | ⟨g, cap, cur, e1, _⟩
    · omega
    · injection e1 with e2
      exact ⟨g, e2⟩
  have O1 := Lib.hid ho1
  have B1 := Lib.hid hb1
  clear ho1 hb1
  go_wp2_with fail
  rw [hk1]
  clear hk1
  go_loopw [9] (fun i wr => TurnR w (sealL l) (n + 4) g c1 nn mask i wr) (fun i _ => 32 - (intOf i).toNat)
  case atStart => exact ⟨0, sealL l, by omega, rfl, Lib.hid (burst_none _ _ _), O1, B1⟩
  case round =>
    obtain ⟨k, t, hk, rfl, hbu, hO, hB⟩ := hrel
    by_cases hlt : k < 32
    · have ht : t.length = n + 4 := by have := hO.out.1; rw [BC_length] at this; omega
      have hj : (nn + k) / 8 < t.length := by omega
      have hcell := hO.out.cellAt ((nn + k) / 8) (by omega)
      rw [BC_get t _ hj] at hcell
      have hfr := hO.out.frozenAt ((nn + k) / 8)
      have q1 : (((nn : Int) + k) / 8).toNat = (nn + k) / 8 := by omega
      have q2 : (((nn : Int) + k) % 8).toNat = (nn + k) % 8 := by omega
      have q3 : 0 ≤ ((nn : Int) + k) / 8 := by omega
      have q4 : ((nn : Int) + k) / 8 < (n : Int) + 4 := by omega
      have HT := Lib.hid ht
      clear ht
      go_wp2_with fail
      · rename_i hbit
        have hmb := mask_bit hm hbit
        obtain ⟨hst, hgr⟩ := hO.out.stored ((nn + k) / 8) (.int .u8 (bits .xor .u8 (t[(nn + k) / 8].toNat : Int) ((2 : Int) ^ ((nn + k) % 8) % 256)))
        refine ⟨⟨k + 1, flip t (nn + k) hj, by omega, by go_num, Lib.hid (burst_yes hbu.out hj hmb), Lib.hid (own_len hst ?_), Lib.hid (hB.out.setCell ?_ _)⟩, by simp [intOf]; omega⟩
        · rw [turn_val _ _ (Nat.mod_lt _ (by omega))]
          simp [BC, flip]
        · exact (hO.out.lt g rfl).1
      · rename_i hbit
        have hmb := mask_bit hm hbit
        exact ⟨⟨k + 1, t, by omega, by go_num, Lib.hid (burst_no hbu.out hmb), hO, hB⟩, by simp [intOf]; omega⟩
    · have K32 := Lib.hid (show k = 32 by omega)
      rw [K32.out] at hbu
      have HN := Lib.hid (burst_unsealed l t nn mask hbu.out (by rw [HL.out]; exact hkn) hm H0.out)
      rw [HL.out] at HN
      go_wp2_with fail
      refine (get_long n c1 _ t wr false (Lies.of_own hO.out) (by omega) (own_cap hO.out).1 HN.out).mono ?_
      rintro e w2 ⟨rfl, hb2⟩
      have B2 := Lib.hid (hB.out.trans (hb2.mono hB.out.size))
      clear hb2
      go_wp2_with fail
      refine (works_any _).mono ?_
      rintro e w3 ⟨rfl, hb3⟩
      go_wp2_with fail
      go_ret
      exact ⟨rfl, B2.out.trans (hb3.mono B2.out.size)⟩

theorem turns_any (A : Option Addr) (n c : Nat) (z : List Int) (x y : Int) (w : World) (w0 : IsRow .u8 w A n c z) (w1 : (Lit.int .u16 x).wf = true) (w2 : (Lit.int .u32 y).wf = true) :
    Calls Try.prog 6 #[.slice A n c, .int .u16 x, .int .u32 y] w fun e w' => e = .returned (.bool true) ∧ Below w.heap.size w w' := by
  obtain ⟨l, h, hc, hm⟩ := bytes_of_row w0
  unfold maxLen at hm
  by_cases hb : 2000 < n
  · exact turns_big A n c x y w hb (by omega)
  · simp [Lit.wf, IntKind.min, IntKind.max, IntKind.bits, IntKind.signed] at w1 w2
    obtain ⟨x, rfl⟩ : ∃ k : Nat, x = k := ⟨x.toNat, by omega⟩
    obtain ⟨y, rfl⟩ : ∃ k : Nat, y = k := ⟨y.toNat, by omega⟩
    by_cases h0 : y = 0
    · subst h0
      exact turns_zero A n c x w (by omega)
    · exact turns_in A n c x y _ l w h (by omega) (by omega) (by omega) h0 rfl
end Go.Proofs.Ytnnbodbcnbcbnaa
