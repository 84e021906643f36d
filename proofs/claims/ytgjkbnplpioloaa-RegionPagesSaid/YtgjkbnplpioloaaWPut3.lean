/-
  Walks: the program's two Put functions.
  Conditions: at most 100 bytes are put, behind at most 10000.
-/
import Derived.Test.YtgjkbnplpioloaaWPut2
namespace Go.Proofs.Ytgjkbnplpioloaa
open Go.RowKit
set_option maxRecDepth 8000

/-- What holds at the head of each round of Put's two loops: the bytes still to come complete what is there. -/
def PutR (w : World) (l : List UInt8) (n S : Nat) (top : Int) (sz out : Value) (wr : World) : Prop :=
  ∃ (s : Int) (p : List UInt8), sz = .int .i64 s ∧ s ≤ top ∧ -9223372036854775808 ≤ s ∧ p.length ≤ 100 ∧ Hid (p ++ putL n s.toNat = putL n S) ∧
    Hid (wr.ownsRow w.heap.size 5 1 out (l.length + p.length) (BC (l ++ p))) ∧ Below w.heap.size w wr

theorem putR_len {p : List UInt8} {n S k : Nat} (h : p ++ putL n k = putL n S) : p.length + k = S := by
  have := congrArg List.length h
  simpa [putL_length] using this

set_option maxHeartbeats 400000 in
theorem wput_any (B m c n : Nat) (A : Option Addr) (l : List UInt8) (s : Int) (w : World) (h : Lies w B 1 A m (BC l)) (hB : B ≤ w.heap.size) (hm : m ≤ 10000)
    (hn : n < 18446744073709551616) (hs : s ≤ 100) (hlo : -9223372036854775808 ≤ s) :
    Calls Try.prog 53 #[.slice A m c, .int .u64 n, .int .i64 s] w (RetB w (l ++ putL n s.toNat)) := by
  obtain ⟨i0, hi0, hz0, hz1, hz2⟩ := info_parts u8_info
  have hl : l.length = m := by have := h.len; rw [BC_length] at this; omega
  have HL := Lib.hid hl
  clear hl
  have CL := Lib.hid (clone_any B m c A l w h hB (by omega))
  clear h
  go_enter Try.func53, Try.ntmps53
  go_wp2_with (go_at_call 60; refine CL.out.mono ?_; rintro e w1 ⟨A1, c1, rfl, ho, hb⟩)
  have HO := Lib.hid ho
  clear ho
  go_loopw [2, 7] (fun sz out wr => PutR w l n s.toNat 100 sz out wr) (fun sz out wr => (intOf sz).toNat)
  case atStart =>
    exact ⟨s, [], rfl, hs, hlo, by simp, Lib.hid (by simp), Lib.hid (by simpa using HO.out), hb⟩
  case round =>
    obtain ⟨t, p, rfl, ht, htl, hp, hpp, hown, hbw⟩ := hrel
    by_cases h8 : 8 < t
    · go_wp2_with (at_builtin; refine wpList_app _ rfl (.tmp 14) (.tmp 15) _ rfl w.heap.size 5 i0 _ 1 1 Try.underlying79 hi0 hz0 hz1 hz2 rfl (by omega) _ _ _ rfl (hown.out.alloc _) _ _ _ _ _ rfl (lies_new _ _ _) (by intro u hu; rw [List.mem_singleton.1 hu]; rfl) (by have := HL.out; simp only [maxLen]; omega) (by have := HL.out; omega) (by have := hbw.size; simp; omega) ?_; intro v2 w2 hown2 hg)
      have hlen := putR_len hpp.out
      refine ⟨⟨t - 1, p ++ [0], rfl, by omega, by omega, by simp; omega, Lib.hid ?_, Lib.hid ?_, below_own (hbw.alloc hbw.size _) (hown.out.alloc _) hg (Nat.le_refl _) (by have := hbw.size; simp; omega)⟩, by simp [intOf]; omega⟩
      · rw [← hpp.out, show t.toNat = (t - 1).toNat + 1 from by omega, putL_high _ n hn (by omega)]
        simp
      · have e : l.length + (p ++ [0]).length = l.length + p.length + 1 := by simp; omega
        rw [e]
        exact own_len hown2 (by simp [BC])
    · go_wp2_with fail
      have h8' : t ≤ 8 := by omega
      go_loopw [2, 7] (fun sz out wr => PutR w l n s.toNat 8 sz out wr) (fun sz out wr => (intOf sz).toNat)
      case atStart => exact ⟨t, p, rfl, h8', htl, hp, hpp, hown, hbw⟩
      case round =>
        clear h8 h8' ht htl hp hpp hown hbw p
        obtain ⟨t, p, rfl, ht, htl, hp, hpp, hown, hbw⟩ := hrel
        by_cases h0 : 0 < t
        · go_wp2_with (at_builtin; refine wpList_app _ rfl (.tmp 21) (.tmp 28) _ rfl w.heap.size 5 i0 _ 1 1 Try.underlying79 hi0 hz0 hz1 hz2 rfl (by omega) _ _ _ rfl (hown.out.alloc _) _ _ _ _ _ rfl (lies_new _ _ _) (by intro u hu; rw [List.mem_singleton.1 hu]; rfl) (by have := HL.out; simp only [maxLen]; omega) (by have := HL.out; omega) (by have := hbw.size; simp; omega) ?_; intro v2 w2 hown2 hg)
          have hlen := putR_len hpp.out
          refine ⟨⟨t - 1, p ++ [UInt8.ofNat (n / 256 ^ (t - 1).toNat % 256)], rfl, by omega, by omega, by simp; omega, Lib.hid ?_, Lib.hid ?_, below_own (hbw.alloc hbw.size _) (hown.out.alloc _) hg (Nat.le_refl _) (by have := hbw.size; simp; omega)⟩, by simp [intOf]; omega⟩
          · rw [← hpp.out, show t.toNat = (t - 1).toNat + 1 from by omega, putL_cons]
            simp
          · have e : l.length + (p ++ [UInt8.ofNat (n / 256 ^ (t - 1).toNat % 256)]).length = l.length + p.length + 1 := by simp; omega
            rw [e]
            refine own_len hown2 ?_
            rw [put_byte n t h0, ← List.append_assoc, BC_append (l ++ p)]
            rfl
        · go_wp2_with fail
          go_ret
          have e : t.toNat = 0 := by omega
          have hpe : p = putL n s.toNat := by rw [← hpp.out, e]; simp [putL]
          subst hpe
          exact RetB.mk hown.out hbw
set_option maxHeartbeats 400000 in
theorem wput32_any (B m c n : Nat) (A : Option Addr) (l : List UInt8) (s : Int) (w : World) (h : Lies w B 1 A m (BC l)) (hB : B ≤ w.heap.size) (hm : m ≤ 10000)
    (hn32 : n < 4294967296) (hs : s ≤ 100) (hlo : -9223372036854775808 ≤ s) :
    Calls Try.prog 52 #[.slice A m c, .int .u32 n, .int .i64 s] w (RetB w (l ++ putL n s.toNat)) := by
  have hn : n < 18446744073709551616 := by omega
  obtain ⟨i0, hi0, hz0, hz1, hz2⟩ := info_parts u8_info
  have hl : l.length = m := by have := h.len; rw [BC_length] at this; omega
  have HL := Lib.hid hl
  clear hl
  have CL := Lib.hid (clone_any B m c A l w h hB (by omega))
  clear h
  go_enter Try.func52, Try.ntmps52
  go_wp2_with (go_at_call 60; refine CL.out.mono ?_; rintro e w1 ⟨A1, c1, rfl, ho, hb⟩)
  have HO := Lib.hid ho
  clear ho
  go_loopw [2, 7] (fun sz out wr => PutR w l n s.toNat 100 sz out wr) (fun sz out wr => (intOf sz).toNat)
  case atStart =>
    exact ⟨s, [], rfl, hs, hlo, by simp, Lib.hid (by simp), Lib.hid (by simpa using HO.out), hb⟩
  case round =>
    obtain ⟨t, p, rfl, ht, htl, hp, hpp, hown, hbw⟩ := hrel
    by_cases h8 : 8 < t
    · go_wp2_with (at_builtin; refine wpList_app _ rfl (.tmp 14) (.tmp 15) _ rfl w.heap.size 5 i0 _ 1 1 Try.underlying79 hi0 hz0 hz1 hz2 rfl (by omega) _ _ _ rfl (hown.out.alloc _) _ _ _ _ _ rfl (lies_new _ _ _) (by intro u hu; rw [List.mem_singleton.1 hu]; rfl) (by have := HL.out; simp only [maxLen]; omega) (by have := HL.out; omega) (by have := hbw.size; simp; omega) ?_; intro v2 w2 hown2 hg)
      have hlen := putR_len hpp.out
      refine ⟨⟨t - 1, p ++ [0], rfl, by omega, by omega, by simp; omega, Lib.hid ?_, Lib.hid ?_, below_own (hbw.alloc hbw.size _) (hown.out.alloc _) hg (Nat.le_refl _) (by have := hbw.size; simp; omega)⟩, by simp [intOf]; omega⟩
      · rw [← hpp.out, show t.toNat = (t - 1).toNat + 1 from by omega, putL_high _ n hn (by omega)]
        simp
      · have e : l.length + (p ++ [0]).length = l.length + p.length + 1 := by simp; omega
        rw [e]
        exact own_len hown2 (by simp [BC])
    · go_wp2_with fail
      have h8' : t ≤ 8 := by omega
      go_loopw [2, 7] (fun sz out wr => PutR w l n s.toNat 8 sz out wr) (fun sz out wr => (intOf sz).toNat)
      case atStart => exact ⟨t, p, rfl, h8', htl, hp, hpp, hown, hbw⟩
      case round =>
        clear h8 h8' ht htl hp hpp hown hbw p
        obtain ⟨t, p, rfl, ht, htl, hp, hpp, hown, hbw⟩ := hrel
        by_cases h0 : 0 < t
        · go_wp2_with (at_builtin; refine wpList_app _ rfl (.tmp 21) (.tmp 29) _ rfl w.heap.size 5 i0 _ 1 1 Try.underlying79 hi0 hz0 hz1 hz2 rfl (by omega) _ _ _ rfl (hown.out.alloc _) _ _ _ _ _ rfl (lies_new _ _ _) (by intro u hu; rw [List.mem_singleton.1 hu]; rfl) (by have := HL.out; simp only [maxLen]; omega) (by have := HL.out; omega) (by have := hbw.size; simp; omega) ?_; intro v2 w2 hown2 hg)
          have hlen := putR_len hpp.out
          refine ⟨⟨t - 1, p ++ [UInt8.ofNat (n / 256 ^ (t - 1).toNat % 256)], rfl, by omega, by omega, by simp; omega, Lib.hid ?_, Lib.hid ?_, below_own (hbw.alloc hbw.size _) (hown.out.alloc _) hg (Nat.le_refl _) (by have := hbw.size; simp; omega)⟩, by simp [intOf]; omega⟩
          · rw [← hpp.out, show t.toNat = (t - 1).toNat + 1 from by omega, putL_cons]
            simp
          · have e : l.length + (p ++ [UInt8.ofNat (n / 256 ^ (t - 1).toNat % 256)]).length = l.length + p.length + 1 := by simp; omega
            rw [e]
            refine own_len hown2 ?_
            rw [put_byte n t h0, ← List.append_assoc, BC_append (l ++ p)]
            rfl
        · go_wp2_with fail
          go_ret
          have e : t.toNat = 0 := by omega
          have hpe : p = putL n s.toNat := by rw [← hpp.out, e]; simp [putL]
          subst hpe
          exact RetB.mk hown.out hbw
end Go.Proofs.Ytgjkbnplpioloaa
