/-
  The document's cut.
  Conditions: at most 100000 numbers.
-/
import Derived.Test.YtjbohnnknfcjeaaSD
namespace Go.Proofs.Ytjbohnnknfcjeaa
open Go.RowKit
attribute [local go_sem] Oper.semAt_some
set_option maxRecDepth 20000

/-- What the document's cut hands back: the list itself, or a row of the call's own. -/
def RcutR (w : World) (A : Option Addr) (n : Nat) (l : List Nat) (x : Nat) (e : Ending) (z : World) : Prop :=
  ∃ A' n' c', n' ≤ c' ∧ e = .returned (.tuple #[.slice A' n' c', .int .i64 ((cutN l x).2.1 : Nat), .int .i64 ((cutN l x).2.2 : Nat)]) ∧ Below w.heap.size w z ∧ n' ≤ n + 1 ∧
    ((A' = A ∧ n' = n ∧ (cutN l x).1 = l) ∨ ((cutN l x).1.length = n' ∧ RowS w (cutN l x).1 (.slice A' n' c') z))
set_option maxHeartbeats 6400000 in
theorem rCut_any (A : Option Addr) (n c : Nat) (l : List Nat) (x : Nat) (w : World) (h : Lz (fun _ => False) w 1 A n (UC l)) (hc : n ≤ c) (hn : n ≤ 100000) :
    Calls Try.prog 12 #[.slice A n c, .int .u32 (x : Int)] w (RcutR w A n l x) := by
  have hlen := h.ulen
  have HH := Lib.hid (rhas_any A n c l x w h hn)
  have HAT := Lib.hid (rAt_any A n c l x w h hn)
  have HL := Lib.hid h
  clear h
  by_cases h0 : x = 0
  · subst h0
    have HC : Hid (cutN l 0 = (l, 0, 8)) := by show _ = _; unfold cutN; rw [if_pos (.inl rfl)]
    go_enter Try.func12, Try.ntmps12
    go_wp2_with fail
    go_ret3
    exact ⟨A, n, c, hc, by rw [HC.out]; rfl, Below.refl _ _, Nat.le_succ _, .inl ⟨rfl, rfl, by rw [HC.out]⟩⟩
  · have e0 : ((x : Int) == 0) = false := by
      have : (x : Int) ≠ 0 := by omega
      simpa using this
    by_cases hx : x ∈ l
    · have HC : Hid (cutN l x = (l, 0, 8)) := by show _ = _; unfold cutN; rw [if_pos (.inr hx)]
      rw [decide_eq_true hx] at HH
      clear h0 hx
      go_enter Try.func12, Try.ntmps12
      go_wp2_with (go_at_call 21; refine HH.out.mono ?_; rintro e y9 ⟨rfl, rfl⟩)
      go_ret3
      exact ⟨A, n, c, hc, by rw [HC.out]; rfl, Below.refl _ _, Nat.le_succ _, .inl ⟨rfl, rfl, by rw [HC.out]⟩⟩
    · rw [decide_eq_false hx] at HH
      by_cases h7 : 7 ≤ n
      · have HC : Hid (cutN l x = (l, 0, 6)) := by show _ = _; unfold cutN; rw [if_neg (by rintro (h | h); exact h0 h; exact hx h), if_pos (by rw [hlen]; exact h7)]
        clear h0 hx
        go_enter Try.func12, Try.ntmps12
        go_wp2_with (go_at_call 21; refine HH.out.mono ?_; rintro e y9 ⟨rfl, rfl⟩)
        go_ret3
        exact ⟨A, n, c, hc, by rw [HC.out]; rfl, Below.refl _ _, Nat.le_succ _, .inl ⟨rfl, rfl, by rw [HC.out]⟩⟩
      · have HC : Hid (cutN l x = (insN l x, atN l x, 0)) := by show _ = _; unfold cutN; rw [if_neg (by rintro (h | h); exact h0 h; exact hx h), if_neg (by rw [hlen]; exact h7)]
        have hle := at_le l x
        have HIN : Hid (insN l x = l.take (atN l x) ++ [x] ++ l.drop (atN l x)) := Lib.hid rfl
        generalize hk : atN l x = k at hle HC HIN HAT
        rw [hlen] at hle
        have h7' : n < 7 := by omega
        clear h0 hx h7 hk
        obtain ⟨i0, hi0, hz0, hz1, hz2⟩ := u_info
        have HT1 : Hid (Lies w w.heap.size 1 A k (UC (l.take k))) := (HL.out.u_head hle).la.lies
        go_enter Try.func12, Try.ntmps12
        go_upto_region 8 with (first
          | (go_at_call 21; refine HH.out.mono ?_; rintro e y9 ⟨rfl, rfl⟩)
          | (go_at_call 16; refine HAT.out.mono ?_; rintro e y9 ⟨rfl, rfl⟩)
          | (at_builtin; refine wpList_app _ rfl (.tmp 24) (.tmp 27) 22 rfl w.heap.size 23 i0 (.int .u32 0) 1 4 Try.underlying22 hi0 hz0 hz1 hz2 rfl (by decide) (.slice none 0 0) 0 [] rfl (World.ownsRow_nil _ _ _ _) _ A k c (UC (l.take k)) rfl HT1.out (UC_one _) (by simp only [maxLen]; omega) (by omega) (Nat.le_refl _) ?_; intro v1 w1 h1 g1))
        have hb1 : Below w.heap.size w w1 := (Below.refl _ w).grown g1 (Nat.le_refl _) (fun j e => by cases e)
        rw [Nat.zero_add, List.nil_append] at h1
        obtain ⟨A1, c1, rfl, _⟩ := own_slice h1
        have hlk : (l.take k).length = k := by rw [List.length_take]; omega
        have HR1 : Hid (RowS w (l.take k) (.slice A1 k c1) w1) := ⟨hb1, by rw [hlk]; exact h1⟩
        have HLK := Lib.hid hlk
        have rt := fun W => run_tail (P := Try.prog) 22 23 Try.underlying22 (by kernel_rfl) A n c k hle W
        clear h1 g1 hb1 hlk
        go_upto_region 9 with (at_builtin; refine wpList_push rfl (.tmp 29) (.tmp 31) rfl HR1.out HLK.out (by omega) rfl rfl ?_; intro A2 c2 w2 h2)
        have hl2 : (l.take k ++ [x]).length = k + 1 := by rw [List.length_append, HLK.out]; rfl
        have HB2 := Lib.hid h2.below
        have hown := h2.own
        rw [hl2] at hown
        have HO2 := Lib.hid hown
        have HT2 : Hid (Lies w2 w2.heap.size 1 (tailA A c k) (n - k) (UC (l.drop k))) := by
          have := ((HL.out.below h2.below).la.lies).tailA (k := k) hle hc
          rwa [← UC_drop] at this
        have HIL : Hid ((insN l x).length = n + 1) := by show _ = _; rw [ins_len, hlen]
        clear hown hl2 h2
        go_wp2_with (at_builtin; refine wpList_app _ rfl (.tmp 33) (.tmp 36) 22 rfl w.heap.size 23 i0 (.int .u32 0) 1 4 Try.underlying22 hi0 hz0 hz1 hz2 rfl (by decide) (.slice A2 (k + 1) c2) (k + 1) _ rfl HO2.out _ (tailA A c k) (n - k) (c - k) (UC (l.drop k)) rfl HT2.out (UC_one _) (by simp only [maxLen]; omega) (by omega) HB2.out.size ?_; intro v3 w3 h3 g3)
        have hb3 : Below w.heap.size w w3 := below_own HB2.out HO2.out g3 (Nat.le_refl _) HB2.out.size
        obtain ⟨A3, c3, rfl, hle3⟩ := own_slice h3
        have en : k + 1 + (n - k) = n + 1 := by omega
        rw [en] at h3
        have HF : Hid (RcutR w A n l x (.returned (.tuple #[.slice A3 (k + 1 + (n - k)) c3, .int .i64 (k : Int), .int .i64 0])) w3) := by
          have hu : UC (l.take k ++ [x]) ++ UC (l.drop k) = UC (insN l x) := by rw [HIN.out, UC_append, UC_append, UC_append]
          rw [hu] at h3
          refine ⟨A3, n + 1, c3, by have := hle3.1; omega, by rw [HC.out, en]; rfl, hb3, Nat.le_refl _, .inr ⟨by rw [HC.out]; exact HIL.out, by rw [HC.out]; exact ⟨hb3, by rw [HIL.out]; exact h3⟩⟩⟩
        clear h3 g3 hb3
        go_wp2_with fail
        go_ret3
        exact HF.out
end Go.Proofs.Ytjbohnnknfcjeaa
