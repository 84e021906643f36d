/-
  The walk of the reference's IsText.
  Conditions: at most 1000 bytes.
-/
import Derived.Test.YtblamegncbkjmaaField
namespace Go.Proofs.Ytblamegncbkjmaa
open Go.RowKit

def TextIs (w : World) (l : List UInt8) (e : Ending) (w' : World) : Prop :=
  e = .returned (.tuple #[.string (strOf (fldS l)), .bool (fldB l)]) ∧ w = w'

set_option maxHeartbeats 400000 in
theorem isText_empty (c : Nat) (A : Option Addr) (w : World) : Calls Try.prog 17 #[.slice A 0 c] w (TextIs w []) := by
  go_enter Try.func17, Try.ntmps17
  go_wp2_with fail
  go_ret2
  exact ⟨rfl, rfl⟩

theorem drop_zero_at {rest : List UInt8} {b : Nat} (h : zeroB (rest.drop b) = true) (k : Nat) (hk : b + k < rest.length) : rest[b + k] = 0 := by
  unfold zeroB at h
  rw [List.all_eq_true] at h
  have := h rest[b + k] (by
    rw [List.mem_iff_getElem]
    exact ⟨k, by rw [List.length_drop]; omega, by rw [List.getElem_drop]⟩)
  simpa using this

theorem zero_drop {rest : List UInt8} {b : Nat} (h : ∀ (j : Nat) (hj : b + j < rest.length), rest[b + j] = 0) : zeroB (rest.drop b) = true := by
  apply zeroB_yes
  intro j hj
  rw [List.getElem_drop]
  exact h j (by rw [List.length_drop] at hj; omega)

theorem parse_not {b : UInt8} {rest : List UInt8} (h : ¬ (b.toNat ≤ rest.length ∧ zeroB (rest.drop b.toNat) = true)) (w : World) :
    TextIs w (b :: rest) (.returned (.tuple #[.string { data := #[] }, .bool false])) w := by
  have hnone : parseF (b :: rest) = none := by simp only [parseF]; rw [if_neg h]
  refine ⟨?_, rfl⟩
  rw [fldS, fldB, hnone]
  rfl

theorem parse_is {b : UInt8} {rest : List UInt8} (h1 : b.toNat ≤ rest.length) (h2 : zeroB (rest.drop b.toNat) = true) (w : World) :
    TextIs w (b :: rest) (.returned (.tuple #[.string (strOf (rest.take b.toNat)), .bool true])) w := by
  have hsome : parseF (b :: rest) = some (rest.take b.toNat) := by simp only [parseF]; rw [if_pos ⟨h1, h2⟩]
  refine ⟨?_, rfl⟩
  rw [fldS, fldB, hsome]
  rfl

set_option maxHeartbeats 1000000 in
theorem isText_some (B n c : Nat) (A : Option Addr) (b : UInt8) (rest : List UInt8) (w : World) (h : Lies w B 1 A n (BC (b :: rest))) (hn : n ≤ 1000) (hc : n ≤ c) (hm : c ≤ maxLen) :
    Calls Try.prog 17 #[.slice A n c] w (TextIs w (b :: rest)) := by
  have hl : rest.length + 1 = n := by have := h.len; rw [BC_length] at this; simp at this; omega
  obtain ⟨a, u, rfl, hb, hx, hcell⟩ := h.get (k := 0) (by omega)
  simp [BC] at hx
  subst hx
  have hb8 := u8_lt b
  unfold maxLen at hm
  have hne : ((n : Int) == 0) = false := by rw [beq_eq_false_iff_ne]; omega
  have hn1 : (1 : Int) ≤ n := by omega
  have hn0 : (0 : Int) < n := by omega
  have HH := Lib.hid h
  have HL := Lib.hid hl
  clear h hl
  have hcell0 : w.cell? a = some (.int .u8 b.toNat) := by simpa [Addr.add] using hcell
  have hnN : 0 < n := by omega
  have hw64 : IntKind.i64.wrap (b.toNat : Int) = (b.toNat : Int) := by rw [IntKind.wrap_i64]; omega
  by_cases hlen : b.toNat ≤ n - 1
  · have hlr : b.toNat ≤ rest.length := by have := HL.out; omega
    have d1 : decide ((n : Int) - 1 < (b.toNat : Int)) = false := by simp; omega
    have hcv : c ≠ 1 → ∀ cc : Nat, (convert 22 9 (.slice (some ⟨a.block, a.off + 1, none⟩) b.toNat cc)).run Try.prog w = .ok (.string (strOf (rest.take b.toNat))) w := by
      intro _ cc
      have h1 := tailAt HH.out (k := 0) (Nat.zero_le _) (some ⟨a.block, a.off + 1, none⟩) (fun _ => rfl)
      have h2 : Lies w B 1 (some ⟨a.block, a.off + 1, none⟩) (n - 1 - 0) (BC rest) := h1
      have h3 := h2.head (k := b.toNat) (by omega)
      rw [BC_take] at h3
      exact run_conv h3 22 9 5 cc Try.underlying22 Try.underlying5 Try.underlying9
    have HCV := Lib.hid hcv
    clear hcv
    go_enter Try.func17, Try.ntmps17
    go_wp2_with fail
    go_loop [5] (fun i => ∃ k : Nat, i = .int .i64 (b.toNat + 1 + k : Nat) ∧ b.toNat + 1 + k ≤ n ∧ Hid (∀ (j : Nat) (hj : b.toNat + j < rest.length), j < k → rest[b.toNat + j] = 0)) (fun i => n - (intOf i).toNat)
    case atStart => exact ⟨0, by go_num, by omega, Lib.hid (fun j _ hj => by omega)⟩
    case round =>
      obtain ⟨k, rfl, hk, hz⟩ := hrel
      by_cases hlt : b.toNat + 1 + k < n
      · obtain ⟨a', u, e', _, hx, hc'⟩ := HH.out.get hlt
        injection e' with e'
        subst e'
        have hkl : b.toNat + k < rest.length := by have := HL.out; omega
        rw [BC_get (b :: rest) (b.toNat + 1 + k) (by simp; omega)] at hx
        injection hx with hx
        have e3 : (b :: rest)[b.toNat + 1 + k]'(by simp; omega) = rest[b.toNat + k] := by
          simp only [show b.toNat + 1 + k = (b.toNat + k) + 1 from by omega, List.getElem_cons_succ]
        rw [e3] at hx
        subst hx
        clear e3
        by_cases h0 : rest[b.toNat + k] = 0
        · have h0' : ((rest[b.toNat + k].toNat : Int) != 0) = false := by rw [h0]; rfl
          have Z0 := Lib.hid h0
          clear h0
          go_wp2
          go_round
          case rel =>
            refine ⟨k + 1, by go_num, by omega, Lib.hid (fun j hj hjk => ?_)⟩
            by_cases e : j = k
            · subst e; exact Z0.out
            · exact hz.out j hj (by omega)
          case measure => simp [intOf]; omega
        · have h0' : ((rest[b.toNat + k].toNat : Int) != 0) = true := by
            rw [bne_iff_ne]
            intro e
            apply h0
            apply UInt8.toNat_inj.1
            simpa using e
          have FIN := Lib.hid (parse_not (b := b) (rest := rest) (fun hp => h0 (drop_zero_at hp.2 k hkl)) w)
          clear h0
          go_wp2
          go_ret2
          exact FIN.out
      · have FIN := Lib.hid (parse_is (b := b) hlr (zero_drop fun j hj => hz.out j hj (by have := HL.out; omega)) w)
        by_cases hc1 : c = 1
        · have e0 : b.toNat = 0 := by omega
          have hcv1 : (convert 22 9 (.slice (some a) b.toNat 0)).run Try.prog w = .ok (.string (strOf (rest.take b.toNat))) w := by
            rw [e0]
            exact run_conv (B := B) Lies.empty 22 9 5 0 Try.underlying22 Try.underlying5 Try.underlying9
          clear e0
          go_wp2_with fail
          go_ret2
          exact FIN.out
        · have hcv := HCV.out hc1
          go_wp2_with fail
          go_ret2
          exact FIN.out
  · have d1 : decide ((n : Int) - 1 < (b.toNat : Int)) = true := by simp; omega
    have FIN := Lib.hid (parse_not (b := b) (rest := rest) (fun hp => by have := HL.out; omega) w)
    go_enter Try.func17, Try.ntmps17
    go_wp2_with fail
    go_ret2
    exact FIN.out

theorem isText_any (B n c : Nat) (A : Option Addr) (l : List UInt8) (w : World) (h : Lies w B 1 A n (BC l)) (hn : n ≤ 1000) (hc : n ≤ c) (hm : c ≤ maxLen) :
    Calls Try.prog 17 #[.slice A n c] w (TextIs w l) := by
  cases l with
  | nil =>
    have : n = 0 := by have := h.len; rw [BC_length] at this; simp at this; omega
    subst this
    exact isText_empty c A w
  | cons b rest => exact isText_some B n c A b rest w h hn hc hm
end Go.Proofs.Ytblamegncbkjmaa
