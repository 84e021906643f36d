/-
  The document's Find and Live.
  Conditions: at most 100000 records.
-/
import Derived.Test.YtpffnjnncgmgnaaB3
namespace Go.Proofs.Ytpffnjnncgmgnaa
open Go.RowKit
attribute [local go_sem] Oper.semAt_some
set_option maxRecDepth 20000

set_option maxHeartbeats 1600000 in
theorem rFind_any (A : Option Addr) (n c : Nat) (l : List Rc) (id : Nat) (w : World) (h : Lz NoX w 6 A n (rcsL l)) (hn : n ≤ 100000) :
    Calls Try.prog 13 #[.slice A n c, .int .u64 (id : Int)] w (RetV w (.int .i64 (idxP (fun r => r.id == id) l))) := by
  have HLN := Lib.hid h.rclen
  have HL := Lib.hid h
  clear h
  go_enter Try.func13, Try.ntmps13
  go_wp2_with fail
  go_loop [5] (fun vi => ∃ k : Nat, k ≤ n ∧ vi = .int .i64 (k : Int) ∧ Hid (∀ (j : Nat) (hj : j < l.length), j < k → (l[j].id == id) = false)) (fun i => n - (intOf i).toNat)
  case atStart => exact ⟨0, Nat.zero_le _, rfl, Lib.hid (fun _ _ h => absurd h (Nat.not_lt_zero _))⟩
  case round =>
    obtain ⟨k, hk, rfl, HN⟩ := hrel
    by_cases hlt : k < n
    · obtain ⟨g, o, hl, rfl, hb, hc⟩ := HL.out.rc hlt
      obtain ⟨r, hr⟩ : ∃ r, l[k] = r := ⟨_, rfl⟩
      rw [hr] at hc
      have q0 : w.cell? ⟨g, o + k * 6, none⟩ = some (.int .u64 (r.id : Int)) := hc 0 _ rfl
      obtain ⟨b, hbv⟩ : ∃ b, (r.id == id) = b := ⟨_, rfl⟩
      have e := nat_beqN r.id id
      rw [hbv] at e
      have HBV : Hid ((l[k].id == id) = b) := by show _ = _; rw [hr]; exact hbv
      clear hc hr hbv
      cases b
      · go_wp2_with fail
        go_round
        case rel => exact ⟨k + 1, by omega, by go_num, Lib.hid fun j hj hjk => by
          by_cases e : j = k
          · subst e
            exact HBV.out
          · exact HN.out j hj (by omega)⟩
        case measure => simp [intOf]; omega
      · have HI := Lib.hid (idxP_at (p := fun r => r.id == id) hl HN.out HBV.out)
        go_wp2_with fail
        go_ret
        exact ⟨by rw [HI.out]; rfl, Below.refl _ _⟩
    · obtain rfl : k = n := by omega
      have HI : Hid (idxP (fun r => r.id == id) l = -1) := idxP_none fun j hj _ => HN.out j hj (by have := HLN.out; omega)
      go_wp2_with fail
      go_ret
      exact ⟨by rw [HI.out]; first | rfl | skip, Below.refl _ _⟩
set_option maxHeartbeats 1600000 in
theorem rLive_any (A : Option Addr) (n c : Nat) (l : List Rc) (key : Nat) (w : World) (h : Lz NoX w 6 A n (rcsL l)) (hn : n ≤ 100000) :
    Calls Try.prog 15 #[.slice A n c, .int .u64 (key : Int)] w (RetV w (.int .i64 (idxP (isLive key) l))) := by
  have HLN := Lib.hid h.rclen
  have HL := Lib.hid h
  clear h
  go_enter Try.func15, Try.ntmps15
  go_wp2_with fail
  go_loop [5] (fun vi => ∃ k : Nat, k ≤ n ∧ vi = .int .i64 (k : Int) ∧ Hid (∀ (j : Nat) (hj : j < l.length), j < k → isLive key l[j] = false)) (fun i => n - (intOf i).toNat)
  case atStart => exact ⟨0, Nat.zero_le _, rfl, Lib.hid (fun _ _ h => absurd h (Nat.not_lt_zero _))⟩
  case round =>
    obtain ⟨k, hk, rfl, HN⟩ := hrel
    by_cases hlt : k < n
    · obtain ⟨g, o, hl, rfl, hb, hc⟩ := HL.out.rc hlt
      obtain ⟨r, hr⟩ : ∃ r, l[k] = r := ⟨_, rfl⟩
      rw [hr] at hc
      have q1 : w.cell? ⟨g, o + k * 6 + 1, none⟩ = some (.int .u64 (r.key : Int)) := hc 1 _ rfl
      have q5 : w.cell? ⟨g, o + k * 6 + 5, none⟩ = some (.bool r.ghost) := hc 5 _ rfl
      obtain ⟨b, hbv⟩ : ∃ b, (r.key == key) = b := ⟨_, rfl⟩
      have e := nat_beqN r.key key
      rw [hbv] at e
      obtain ⟨gh, hgh⟩ : ∃ gh, r.ghost = gh := ⟨_, rfl⟩
      rw [hgh] at q5
      have HBV : Hid (isLive key l[k] = (b && !gh)) := by show _ = _; rw [hr]; unfold isLive; rw [hbv, hgh]
      clear hc hr hbv hgh
      have HNX : Hid ((b && !gh) = false → ∀ (j : Nat) (hj : j < l.length), j < k + 1 → isLive key l[j] = false) := fun h0 j hj hjk => by
        by_cases e : j = k
        · subst e
          rw [HBV.out]
          exact h0
        · exact HN.out j hj (by omega)
      cases b
      · go_wp2_with fail
        go_round
        case rel => exact ⟨k + 1, by omega, by go_num, HNX.out rfl⟩
        case measure => simp [intOf]; omega
      · cases gh
        · have HI := Lib.hid (idxP_at (p := isLive key) hl HN.out HBV.out)
          go_wp2_with fail
          go_ret
          exact ⟨by rw [HI.out]; rfl, Below.refl _ _⟩
        · go_wp2_with fail
          go_round
          case rel => exact ⟨k + 1, by omega, by go_num, HNX.out rfl⟩
          case measure => simp [intOf]; omega
    · obtain rfl : k = n := by omega
      have HI : Hid (idxP (isLive key) l = -1) := idxP_none fun j hj _ => HN.out j hj (by have := HLN.out; omega)
      go_wp2_with fail
      go_ret
      exact ⟨by rw [HI.out]; first | rfl | skip, Below.refl _ _⟩
end Go.Proofs.Ytpffnjnncgmgnaa
