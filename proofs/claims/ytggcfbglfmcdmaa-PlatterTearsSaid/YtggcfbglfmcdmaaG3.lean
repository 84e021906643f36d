/-
  The law PlatterTears, whatever came in.
  Conditions: none.
-/
import Derived.Test.YtggcfbglfmcdmaaG2
namespace Go.Proofs.Ytggcfbglfmcdmaa
open Go.RowKit

section
variable (A0 : Option Addr) (fs : List OpV) (c0 : Nat) (at_ : Int) (B : Option Addr) (n cB : Nat) (E : Option Addr) (e1 e2 : Nat) (A4 : Option Addr) (hs : List OpV) (c4 : Nat) (w : World)
set_option maxHeartbeats 1600000 in
set_option maxRecDepth 100000 in
theorem tears_heavy0 (h0 : Ops w A0 fs) (hl0 : lightB fs = false) (hf : fs.length ≤ 9223372036854775807) :
    Calls Try.prog 4 #[.slice A0 fs.length c0, .int .i64 at_, .slice B n cB, .slice E e1 e2, .slice A4 hs.length c4] w fun e w' => e = .returned (.bool true) ∧ Below w.heap.size w w' := by
  have LI0 := Lib.hid (light_any c0 A0 fs w h0 hf)
  rw [hl0] at LI0
  clear h0 hl0
  go_enter Try.func4, Try.ntmps4
  go_wp2_with fail
  refine LI0.out.mono ?_
  rintro e w0 ⟨rfl, rfl⟩
  go_wp2_with fail
  refine (works_any _).mono ?_
  rintro e w6 ⟨rfl, hb6⟩
  go_wp2_with fail
  go_ret
  exact ⟨rfl, hb6⟩
set_option maxHeartbeats 1600000 in
set_option maxRecDepth 100000 in
theorem tears_heavy4 (h0 : Ops w A0 fs) (h4 : Ops w A4 hs) (hl0 : lightB fs = true) (hl4 : lightB hs = false) (hf : fs.length ≤ 9223372036854775807) (hh : hs.length ≤ 9223372036854775807) :
    Calls Try.prog 4 #[.slice A0 fs.length c0, .int .i64 at_, .slice B n cB, .slice E e1 e2, .slice A4 hs.length c4] w fun e w' => e = .returned (.bool true) ∧ Below w.heap.size w w' := by
  have LI0 := Lib.hid (light_any c0 A0 fs w h0 hf)
  have LI4 := Lib.hid (light_any c4 A4 hs w h4 hh)
  rw [hl0] at LI0
  rw [hl4] at LI4
  clear h0 hl0 h4 hl4
  go_enter Try.func4, Try.ntmps4
  go_wp2_with fail
  refine LI0.out.mono ?_
  rintro e w0 ⟨rfl, rfl⟩
  go_wp2_with fail
  refine LI4.out.mono ?_
  rintro e w0 ⟨rfl, rfl⟩
  go_wp2_with fail
  refine (works_any _).mono ?_
  rintro e w6 ⟨rfl, hb6⟩
  go_wp2_with fail
  go_ret
  exact ⟨rfl, hb6⟩
set_option maxHeartbeats 1600000 in
set_option maxRecDepth 100000 in
theorem tears_heavyB (h0 : Ops w A0 fs) (h4 : Ops w A4 hs) (hl0 : lightB fs = true) (hl4 : lightB hs = true) (hf : fs.length ≤ 9223372036854775807) (hh : hs.length ≤ 9223372036854775807) (hn : 40 < n) :
    Calls Try.prog 4 #[.slice A0 fs.length c0, .int .i64 at_, .slice B n cB, .slice E e1 e2, .slice A4 hs.length c4] w fun e w' => e = .returned (.bool true) ∧ Below w.heap.size w w' := by
  have LI0 := Lib.hid (light_any c0 A0 fs w h0 hf)
  have LI4 := Lib.hid (light_any c4 A4 hs w h4 hh)
  rw [hl0] at LI0
  rw [hl4] at LI4
  have d40 : decide ((40 : Int) < (n : Int)) = true := by simp; omega
  clear h0 hl0 h4 hl4
  go_enter Try.func4, Try.ntmps4
  go_wp2_with fail
  refine LI0.out.mono ?_
  rintro e w0 ⟨rfl, rfl⟩
  go_wp2_with fail
  refine LI4.out.mono ?_
  rintro e w0 ⟨rfl, rfl⟩
  go_wp2_with fail
  refine (works_any _).mono ?_
  rintro e w6 ⟨rfl, hb6⟩
  go_wp2_with fail
  go_ret
  exact ⟨rfl, hb6⟩
set_option maxHeartbeats 1600000 in
set_option maxRecDepth 100000 in
theorem tears_heavyE (h0 : Ops w A0 fs) (h4 : Ops w A4 hs) (hl0 : lightB fs = true) (hl4 : lightB hs = true) (hf : fs.length ≤ 9223372036854775807) (hh : hs.length ≤ 9223372036854775807) (hn : n ≤ 40) (he : 60 < e1) :
    Calls Try.prog 4 #[.slice A0 fs.length c0, .int .i64 at_, .slice B n cB, .slice E e1 e2, .slice A4 hs.length c4] w fun e w' => e = .returned (.bool true) ∧ Below w.heap.size w w' := by
  have LI0 := Lib.hid (light_any c0 A0 fs w h0 hf)
  have LI4 := Lib.hid (light_any c4 A4 hs w h4 hh)
  rw [hl0] at LI0
  rw [hl4] at LI4
  have d40 : decide ((40 : Int) < (n : Int)) = false := by simp; omega
  have d60 : decide ((60 : Int) < (e1 : Int)) = true := by simp; omega
  clear h0 hl0 h4 hl4
  go_enter Try.func4, Try.ntmps4
  go_wp2_with fail
  refine LI0.out.mono ?_
  rintro e w0 ⟨rfl, rfl⟩
  go_wp2_with fail
  refine LI4.out.mono ?_
  rintro e w0 ⟨rfl, rfl⟩
  go_wp2_with fail
  refine (works_any _).mono ?_
  rintro e w6 ⟨rfl, hb6⟩
  go_wp2_with fail
  go_ret
  exact ⟨rfl, hb6⟩
end
theorem tears_any (A0 : Option Addr) (fs : List OpV) (c0 : Nat) (at_ : Int) (B : Option Addr) (l : List Int) (cB : Nat) (E : Option Addr) (el : List Bool) (e2 : Nat) (A4 : Option Addr) (hs : List OpV) (c4 : Nat) (w : World)
    (h0 : Ops w A0 fs) (h4 : Ops w A4 hs) (hf : fs.length ≤ maxLen) (hh : hs.length ≤ maxLen) (hB : Lz (fun _ => False) w 1 B l.length (IL l)) (hE : Lz (fun _ => False) w 1 E el.length (BL el)) (hE1 : el.length ≤ e2) (hE2 : e2 ≤ maxLen) :
    Calls Try.prog 4 #[.slice A0 fs.length c0, .int .i64 at_, .slice B l.length cB, .slice E el.length e2, .slice A4 hs.length c4] w fun e w' => e = .returned (.bool true) ∧ Below w.heap.size w w' := by
  have hm := hE2
  unfold maxLen at hf hh hm
  cases hl0 : lightB fs with
  | false => exact tears_heavy0 A0 fs c0 at_ B l.length cB E el.length e2 A4 hs c4 w h0 hl0 (by omega)
  | true =>
    cases hl4 : lightB hs with
    | false => exact tears_heavy4 A0 fs c0 at_ B l.length cB E el.length e2 A4 hs c4 w h0 h4 hl0 hl4 (by omega) (by omega)
    | true =>
      by_cases h1 : 40 < l.length
      · exact tears_heavyB A0 fs c0 at_ B l.length cB E el.length e2 A4 hs c4 w h0 h4 hl0 hl4 (by omega) (by omega) h1
      · by_cases h2 : 60 < el.length
        · exact tears_heavyE A0 fs c0 at_ B l.length cB E el.length e2 A4 hs c4 w h0 h4 hl0 hl4 (by omega) (by omega) (by omega) h2
        · exact tears_main A0 fs c0 at_ B l cB E el e2 A4 hs c4 w h0 h4 hl0 hl4 hB hE hE1 hE2 (by omega) (by omega)
end Go.Proofs.Ytggcfbglfmcdmaa
