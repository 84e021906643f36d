/-
  Walks: the program's Text and the reference's.
  Conditions: behind at most 10000 bytes.
-/
import Derived.Test.YtpffnjnncgmgnaaWPut3
import Derived.Lib.AppendStr
namespace Go.Proofs.Ytpffnjnncgmgnaa
open Go.RowKit
set_option maxRecDepth 8000

theorem strCells_BC (s : ByteArray) : Lib.strCells s = BC s.data.toList := rfl

set_option maxHeartbeats 400000 in
theorem text_range (m c : Nat) (A : Option Addr) (s : ByteArray) (size : Int) (w : World) (hs : size < 1 ∨ 256 < size) :
    Calls Try.prog 60 #[.slice A m c, .string s, .int .i64 size] w fun e w' => e = .returned (.tuple #[.slice none 0 0, .int .i64 2]) ∧ w = w' := by
  by_cases h1 : size < 1
  · go_enter Try.func60, Try.ntmps60
    go_wp2_with fail
    go_ret2
    exact ⟨rfl, rfl⟩
  · have h2 : 256 < size := by omega
    go_enter Try.func60, Try.ntmps60
    go_wp2_with fail
    go_ret2
    exact ⟨rfl, rfl⟩

set_option maxHeartbeats 400000 in
theorem text_size (m c : Nat) (A : Option Addr) (s : ByteArray) (size : Int) (w : World) (h1 : 1 ≤ size) (h2 : size ≤ 256) (h3 : size ≤ s.size) :
    Calls Try.prog 60 #[.slice A m c, .string s, .int .i64 size] w fun e w' => e = .returned (.tuple #[.slice none 0 0, .int .i64 9]) ∧ w = w' := by
  go_enter Try.func60, Try.ntmps60
  go_wp2_with fail
  go_ret2
  exact ⟨rfl, rfl⟩

set_option maxHeartbeats 400000 in
theorem text_ok (B m c : Nat) (A : Option Addr) (l : List UInt8) (s : ByteArray) (size : Int) (w : World) (h : Lies w B 1 A m (BC l)) (hB : B ≤ w.heap.size) (hm : m ≤ 10000)
    (h1 : 1 ≤ size) (h2 : size ≤ 256) (h3 : (s.size : Int) < size) :
    Calls Try.prog 60 #[.slice A m c, .string s, .int .i64 size] w fun e w' => ∃ A' n' c', e = .returned (.tuple #[.slice A' n' c', .int .i64 0]) ∧
      w'.ownsRow w.heap.size 5 1 (.slice A' n' c') n' (BC (l ++ fieldL s.data.toList size.toNat)) ∧ Below w.heap.size w w' := by
  obtain ⟨i0, hi0, hz0, hz1, hz2⟩ := info_parts u8_info
  have hl : l.length = m := by have := h.len; rw [BC_length] at this; omega
  have HL := Lib.hid hl
  clear hl
  have CL := Lib.hid (clone_any B m c A l w h hB (by omega))
  clear h
  go_enter Try.func60, Try.ntmps60
  go_wp2_with (first
    | (go_at_call 61; refine CL.out.mono ?_; rintro e w1 ⟨A1, c1, rfl, ho, hb⟩; have HO := Lib.hid ho; clear ho; have hb1 := hb.size)
    | (at_builtin; refine wpList_app _ rfl (.tmp 20) (.tmp 24) _ rfl w.heap.size 5 i0 _ 1 1 Try.underlying67 hi0 hz0 hz1 hz2 rfl (by omega) _ _ _ rfl (HO.out.alloc _) _ _ _ _ _ rfl (lies_new _ _ _) (by intro u hu; rw [List.mem_singleton.1 hu]; rfl) (by have := HL.out; simp only [maxLen]; omega) (by have := HL.out; omega) (by simp; omega) ?_
       intro v2 w2 ho2 hg2; have HO2 := Lib.hid ho2; clear ho2; have hbw2 := below_own (hb.alloc hb.size _) (HO.out.alloc _) hg2 (Nat.le_refl _) (by simp; omega); have hb2 := hbw2.size)
    | (at_builtin; refine Lib.wpList_append_own_string _ rfl (.tmp 26) (.tmp 27) _ _ rfl w.heap.size 5 i0 Try.underlying67 Try.underlying9 hi0 hz0 hz1 hz2 _ _ _ rfl HO2.out s rfl (by have := HL.out; simp only [maxLen]; omega) (by have := HL.out; omega) hb2 ?_
       intro v3 w3 ho3 hg3 _; have HO3 := Lib.hid ho3; clear ho3; have hbw3 := below_own hbw2 HO2.out hg3 (Nat.le_refl _) hb2; have hb3 := hbw3.size)
    | (at_builtin; refine wpList_app_zeros _ rfl (.tmp 29) (.tmp 34) _ _ rfl w.heap.size 5 i0 _ .i64 .i64 Try.underlying67 Try.underlying3 hi0 hz0 rfl rfl hz1 hz2 _ _ _ rfl HO3.out _ (size.toNat - 1 - s.size) rfl (by omega) (by have := HL.out; simp only [maxLen]; omega) (by have := HL.out; omega) hb3 ?_
       intro v4 w4 ho4 hg4; have HO4 := Lib.hid ho4; clear ho4; have hbw4 := below_own hbw3 HO3.out hg4 (Nat.le_refl _) hb3; have hb4 := hbw4.size))
  go_ret2
  obtain ⟨A4, c4, rfl, _⟩ := own_slice HO4.out
  refine ⟨A4, _, c4, rfl, own_len HO4.out ?_, hbw4⟩
  rw [strCells_BC, BC_zeros, BC_append, fieldL]
  have e : (s.size : Int) = ((UInt8.ofNat s.data.toList.length).toNat : Int) := by
    rw [Array.length_toList]
    simp [UInt8.toNat_ofNat']
    show (s.data.size : Int) = _
    have : s.data.size = s.size := rfl
    omega
  have e2 : s.data.toList.length = s.size := by rw [Array.length_toList]; rfl
  rw [e2] at e ⊢
  simp [BC]
  omega

set_option maxHeartbeats 400000 in
theorem refText_range (s : ByteArray) (size : Int) (w : World) (hs : size < 1 ∨ 256 < size) :
    Calls Try.prog 49 #[.string s, .int .i64 size] w fun e w' => e = .returned (.tuple #[.slice none 0 0, .int .i64 2]) ∧ w = w' := by
  by_cases h1 : size < 1
  · go_enter Try.func49, Try.ntmps49
    go_wp2_with fail
    go_ret2
    exact ⟨rfl, rfl⟩
  · have h2 : 256 < size := by omega
    go_enter Try.func49, Try.ntmps49
    go_wp2_with fail
    go_ret2
    exact ⟨rfl, rfl⟩

set_option maxHeartbeats 400000 in
theorem refText_size (s : ByteArray) (size : Int) (w : World) (h1 : 1 ≤ size) (h2 : size ≤ 256) (h3 : size ≤ s.size) :
    Calls Try.prog 49 #[.string s, .int .i64 size] w fun e w' => e = .returned (.tuple #[.slice none 0 0, .int .i64 9]) ∧ w = w' := by
  go_enter Try.func49, Try.ntmps49
  go_wp2_with fail
  go_ret2
  exact ⟨rfl, rfl⟩

def FillR (w : World) (s : ByteArray) (size : Nat) (out : Value) (wr : World) : Prop :=
  ∃ (A : Option Addr) (c j : Nat), out = .slice A (1 + s.size + j) c ∧ 1 + s.size + j ≤ size ∧
    Hid (wr.ownsRow w.heap.size 5 1 (.slice A (1 + s.size + j) c) (1 + s.size + j) ([Value.int .u8 s.size] ++ Lib.strCells s ++ List.replicate j (Value.int .u8 0))) ∧ Below w.heap.size w wr

def lenOf (v : Value) : Nat := match v with | .slice _ n _ => n | _ => 0

set_option maxHeartbeats 400000 in
theorem refText_ok (s : ByteArray) (size : Int) (w : World) (h1 : 1 ≤ size) (h2 : size ≤ 256) (h3 : (s.size : Int) < size) :
    Calls Try.prog 49 #[.string s, .int .i64 size] w fun e w' => ∃ A' n' c', e = .returned (.tuple #[.slice A' n' c', .int .i64 0]) ∧
      w'.ownsRow w.heap.size 5 1 (.slice A' n' c') n' (BC (fieldL s.data.toList size.toNat)) ∧ Below w.heap.size w w' := by
  obtain ⟨i0, hi0, hz0, hz1, hz2⟩ := info_parts u8_info
  have d1 : decide (size < 1) = false := by simp; omega
  have d2 : decide (256 < size) = false := by simp; omega
  have d3 : decide (size - 1 < (s.size : Int)) = false := by simp; omega
  go_enter Try.func49, Try.ntmps49
  go_wp2_with (at_builtin; refine Lib.wpList_append_own_string _ rfl (.tmp 22) (.tmp 23) _ _ rfl w.heap.size 5 i0 Try.underlying67 Try.underlying9 hi0 hz0 hz1 hz2 _ _ _ rfl (own_new1 w _ 5) s rfl (by simp only [maxLen]; omega) (by omega) (by simp) ?_; intro v3 w3 ho3 hg3 _; have HO3 := Lib.hid ho3; clear ho3; have hbw3 := below_own ((Below.refl _ _).alloc (Nat.le_refl _) _) (own_new1 w _ 5) hg3 (Nat.le_refl _) (by simp); have hb3 := hbw3.size)
  go_loopw [6] (fun out wr => FillR w s size.toNat out wr) (fun out wr => size.toNat - lenOf out)
  case atStart =>
    obtain ⟨A3, c3, rfl, _⟩ := own_slice HO3.out
    exact ⟨A3, c3, 0, rfl, by omega, Lib.hid (by simpa using HO3.out), hbw3⟩
  case round =>
    obtain ⟨A, c, j, rfl, hj, ho, hbw⟩ := hrel
    by_cases hlt : ((1 + s.size + j : Nat) : Int) < size
    · go_wp2_with (at_builtin; refine wpList_app _ rfl (.tmp 29) (.tmp 30) _ rfl w.heap.size 5 i0 _ 1 1 Try.underlying67 hi0 hz0 hz1 hz2 rfl (by omega) _ _ _ rfl (ho.out.alloc _) _ _ _ _ _ rfl (lies_new _ _ _) (by intro u hu; rw [List.mem_singleton.1 hu]; rfl) (by simp only [maxLen]; omega) (by omega) (by have := hbw.size; simp; omega) ?_; intro v2 w2 hown2 hg)
      obtain ⟨A2, c2, rfl, _⟩ := own_slice hown2
      refine ⟨⟨A2, c2, j + 1, rfl, by omega, Lib.hid (own_len hown2 ?_), below_own (hbw.alloc hbw.size _) (ho.out.alloc _) hg (Nat.le_refl _) (by have := hbw.size; simp; omega)⟩, by simp only [lenOf]; omega⟩
      rw [List.append_assoc, List.replicate_succ']
    · go_wp2_with fail
      go_ret2
      have hj2 : j = size.toNat - 1 - s.size := by omega
      refine ⟨A, _, c, rfl, own_len ho.out ?_, hbw⟩
      have e2 : s.data.toList.length = s.size := by rw [Array.length_toList]; rfl
      have e3 : ((UInt8.ofNat s.size).toNat : Int) = (s.size : Int) := by
        rw [UInt8.toNat_ofNat']
        omega
      subst hj2
      rw [strCells_BC, BC_zeros, fieldL, e2]
      simp only [BC, List.map_cons, List.map_append, List.cons_append, List.nil_append, e3]
end Go.Proofs.Ytpffnjnncgmgnaa
