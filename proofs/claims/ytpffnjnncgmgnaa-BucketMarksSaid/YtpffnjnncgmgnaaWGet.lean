/-
  Walks: word.Get gives the big-endian number.
  Conditions: a slice of at most 100000 bytes.
-/
import Derived.Test.YtpffnjnncgmgnaaPut
import Derived.WalkLawsBesides
import Derived.WalkSpells
namespace Go.Proofs.Ytpffnjnncgmgnaa
open Go.RowKit
set_option maxRecDepth 8000

set_option maxHeartbeats 400000 in
theorem get_any (B n c : Nat) (A : Option Addr) (l : List UInt8) (w : World) (h : Lies w B 1 A n (BC l)) (hn : n ≤ 100000) :
    Calls Try.prog 62 #[.slice A n c] w fun e w' => e = .returned (.int .u64 (getI l)) ∧ w = w' := by
  have hl : l.length = n := by have := h.len; rw [BC_length] at this; omega
  have HL := Lib.hid hl
  have HH := Lib.hid h
  clear hl h
  go_enter Try.func62, Try.ntmps62
  go_wp2
  go_loop [3, 8] (fun t i => ∃ k : Nat, k ≤ n ∧ i = .int .i64 k ∧ t = .int .u64 (getI (l.take k))) (fun _ i => n - (intOf i).toNat)
  case atStart => exact ⟨0, Nat.zero_le _, rfl, rfl⟩
  case round =>
    obtain ⟨k, hk, rfl, rfl⟩ := hrel
    by_cases hlt : k < n
    · obtain ⟨a, u, rfl, hb, hx, hc⟩ := HH.out.get hlt
      rw [BC_get l k (by rw [HL.out]; exact hlt)] at hx
      injection hx with hx
      subst hx
      go_wp2
      go_round
      case rel => exact ⟨k + 1, by omega, by go_num, by rw [take_snoc l k (by rw [HL.out]; exact hlt), ← getI_or]⟩
      case measure => simp [intOf]; omega
    · go_wp2
      go_ret
      exact ⟨by rw [List.take_of_length_le (by rw [HL.out]; omega)]; rfl, rfl⟩

/-- No byte but zeros. -/
def zeroB (l : List UInt8) : Bool := l.all (· == 0)
theorem zeroB_no (l : List UInt8) (k : Nat) (hk : k < l.length) (h : l[k] ≠ 0) : zeroB l = false := by
  unfold zeroB
  rw [List.all_eq_false]
  exact ⟨l[k], List.getElem_mem hk, by simpa using h⟩
theorem zeroB_yes (l : List UInt8) (h : ∀ (j : Nat) (hj : j < l.length), l[j] = 0) : zeroB l = true := by
  unfold zeroB
  rw [List.all_eq_true]
  intro b hb
  obtain ⟨j, hj, rfl⟩ := List.getElem_of_mem hb
  simpa using h j hj

set_option maxHeartbeats 400000 in
theorem allZero_any (B n c : Nat) (A : Option Addr) (l : List UInt8) (w : World) (h : Lies w B 1 A n (BC l)) (hn : n ≤ 100000) :
    Calls Try.prog 69 #[.slice A n c] w fun e w' => e = .returned (.bool (zeroB l)) ∧ w = w' := by
  have hl : l.length = n := by have := h.len; rw [BC_length] at this; omega
  have HL := Lib.hid hl
  have HH := Lib.hid h
  clear hl h
  go_enter Try.func69, Try.ntmps69
  go_wp2
  go_loop [7] (fun i => ∃ k : Nat, k ≤ n ∧ i = .int .i64 k ∧ Hid (∀ (j : Nat) (hj : j < l.length), j < k → l[j] = 0)) (fun i => n - (intOf i).toNat)
  case atStart => exact ⟨0, Nat.zero_le _, rfl, Lib.hid (fun j _ hj => by omega)⟩
  case round =>
    obtain ⟨k, hk, rfl, hz⟩ := hrel
    by_cases hlt : k < n
    · obtain ⟨a, u, rfl, hb, hx, hc⟩ := HH.out.get hlt
      have hkl : k < l.length := by rw [HL.out]; exact hlt
      rw [BC_get l k hkl] at hx
      injection hx with hx
      subst hx
      by_cases h0 : l[k] = 0
      · have h0' : ((l[k].toNat : Int) != 0) = false := by rw [h0]; rfl
        have H0 := Lib.hid h0
        clear h0
        go_wp2
        go_round
        case rel =>
          refine ⟨k + 1, by omega, by go_num, Lib.hid (fun j hj hjk => ?_)⟩
          by_cases e : j = k
          · subst e; exact H0.out
          · exact hz.out j hj (by omega)
        case measure => simp [intOf]; omega
      · have h0' : ((l[k].toNat : Int) != 0) = true := by
          rw [bne_iff_ne]
          intro e
          apply h0
          apply UInt8.toNat_inj.1
          simpa using e
        have H0 := Lib.hid (zeroB_no l k hkl h0)
        clear h0
        go_wp2
        go_ret
        exact ⟨by rw [H0.out]; rfl, rfl⟩
    · have H0 := Lib.hid (zeroB_yes l (fun j hj => hz.out j hj (by rw [HL.out] at hj; omega)))
      go_wp2
      go_ret
      exact ⟨by rw [H0.out]; rfl, rfl⟩
end Go.Proofs.Ytpffnjnncgmgnaa
