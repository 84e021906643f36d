/-
  The walk of the law WalNone.
  Conditions: none.
-/
import Derived.Test.YthicidpdgggbjaaDoorK24Q
namespace Go.Proofs.YthicidpdgggbjaaDoor
open Go.RowKit
set_option maxRecDepth 20000

set_option maxHeartbeats 1600000 in
theorem none_big (n base k : Int) (w : World) (h : n < 1 ∨ 60 < n) : Calls Tryd.prog 5 #[.int .i64 n, .int .i64 base, .int .i64 k] w (RetQ w true) := by
  by_cases h1 : n < 1
  · have d1 : decide (n < 1) = true := by simp [h1]
    go_enter Tryd.func5, Tryd.ntmps5
    go_wp2_with fail
    refine (works_any w).mono ?_
    rintro e w1 ⟨rfl, hb⟩
    have HB := Lib.hid hb
    clear hb
    go_wp2_with fail
    go_ret
    exact ⟨rfl, HB.out⟩
  · have d1 : decide (n < 1) = false := by simp [h1]
    have d2 : decide (60 < n) = true := by simp; omega
    go_enter Tryd.func5, Tryd.ntmps5
    go_wp2_with fail
    refine (works_any w).mono ?_
    rintro e w1 ⟨rfl, hb⟩
    have HB := Lib.hid hb
    clear hb
    go_wp2_with fail
    go_ret
    exact ⟨rfl, HB.out⟩

set_option maxHeartbeats 3200000 in
theorem none_no (n : Nat) (base k : Int) (w : World) (h1 : 1 ≤ n) (h2 : n ≤ 60) (hb1 : -9223372036854775808 ≤ base) (hb2 : base ≤ 9223372036854775807) (hf : ¬ (0 ≤ base ∧ 1 ≤ k ∧ k ≤ (n : Int) - base)) :
    Calls Tryd.prog 5 #[.int .i64 (n : Int), .int .i64 base, .int .i64 k] w (RetQ w true) := by
  have d1 : decide ((n : Int) < 1) = false := by simp; omega
  have d2 : decide ((60 : Int) < (n : Int)) = false := by simp; omega
  have HH := Lib.hid (show 1 ≤ n ∧ n ≤ 60 from ⟨h1, h2⟩)
  have HK := Lib.hid hb1
  have HK2 := Lib.hid hb2
  have HF := Lib.hid hf
  have hcases : (0 ≤ base ∧ 1 ≤ k ∧ base ≤ n ∧ ¬ k ≤ (n : Int) - base) ∨ (0 ≤ base ∧ 1 ≤ k ∧ ¬ base ≤ n) ∨ (0 ≤ base ∧ ¬ 1 ≤ k) ∨ ¬ 0 ≤ base := by omega
  have hsz : (List.replicate n zsec).length = n := by simp
  clear hf h1 h2 hb1 hb2
  rcases hcases with ⟨p1, p2, p3, p4⟩ | ⟨p1, p2, p3⟩ | ⟨p1, p2⟩ | p1
  all_goals
    have e1 := Lib.hid p1
    try have ew : wrap64 ((n : Int) - base) = (n : Int) - base := by have := HH.out; unfold wrap64; omega
    try have d4 : decide (k ≤ (n : Int) - base) = false := decide_eq_false p4
    go_enter Tryd.func5, Tryd.ntmps5
    go_wp2_with fail
    refine (new_ok (fun _ => False) n w HH.out.1 (by have := HH.out.2; omega)).mono ?_
    rintro e z1 ⟨gd, gs, rfl, hg1, hg2, hp, hb⟩
    have HP := Lib.hid hp
    have HB := Lib.hid hb
    clear hp hb hg1 hg2
    go_wp2_with fail
    refine (wnew_bad (fun _ => False) gd gs _ 0 (-1) [] false z1 base k HP.out (by rw [hsz]; have := HH.out.2; omega) HK.out HK2.out (by rw [hsz]; exact HF.out)).mono ?_
    rintro e z2 ⟨rfl, rfl⟩
    go_wp2_with fail
    refine (open_bad gd gs _ 0 (-1) [] false z1 (fun _ => False) base k HP.out (by rw [hsz]; have := HH.out.2; omega) HK.out HK2.out (by rw [hsz]; exact HF.out)).mono ?_
    rintro e z2 ⟨rfl, rfl⟩
    go_wp2_with fail
    refine (wnew_nil base k z1).mono ?_
    rintro e z2 ⟨rfl, rfl⟩
    go_wp2_with fail
    refine (works_any z1).mono ?_
    rintro e z3 ⟨rfl, hb3⟩
    have HB3 := Lib.hid (HB.out.trans (hb3.mono HB.out.size))
    clear hb3
    go_wp2_with fail
    go_ret
    exact ⟨rfl, HB3.out⟩

set_option maxHeartbeats 3200000 in
theorem none_yes (n base k : Nat) (w : World) (h1 : 1 ≤ n) (h2 : n ≤ 60) (hk : 1 ≤ k) (hf : base + k ≤ n) :
    Calls Tryd.prog 5 #[.int .i64 (n : Int), .int .i64 (base : Int), .int .i64 (k : Int)] w (RetQ w true) := by
  have d1 : decide ((n : Int) < 1) = false := by simp; omega
  have d2 : decide ((60 : Int) < (n : Int)) = false := by simp; omega
  have HH := Lib.hid (show 1 ≤ n ∧ n ≤ 60 from ⟨h1, h2⟩)
  have HF := Lib.hid hf
  have HK := Lib.hid hk
  have p2 : decide ((1 : Int) ≤ (k : Int)) = true := by simp; omega
  have p3 : decide ((base : Int) ≤ (n : Int)) = true := by simp; omega
  have p4 : decide ((k : Int) ≤ (n : Int) - (base : Int)) = true := by simp; omega
  have hsz : (List.replicate n zsec).length = n := by simp
  have OD := Lib.hid (OnDisk.new n base k hf)
  go_enter Tryd.func5, Tryd.ntmps5
  go_wp2_with fail
  refine (new_ok (fun _ => False) n w HH.out.1 (by have := HH.out.2; omega)).mono ?_
  rintro e z1 ⟨gd, gs, rfl, hg1, hg2, hp, hb⟩
  have HP := Lib.hid hp
  have HD := Lib.hid (DS.new (base := base) (size := k) (n := 0) hp hb hg1 hg2 rfl)
  clear hp hb hg1 hg2
  go_wp2_with fail
  refine (wnew_ok (fun _ => False) gd gs _ 0 (-1) [] false z1 base k HP.out (by rw [hsz]; have := HH.out.2; omega) HK.out (by rw [hsz]; exact HF.out)).mono ?_
  rintro e z2 ⟨rfl, rfl⟩
  clear HP
  generalize z1.alloc (.cells #[.pointer (some ⟨gd, 0, none⟩), .int .i64 (base : Int), .int .i64 (k : Int), .slice none 0 0, .int .i64 0, .slice none 0 0] 82) = z2 at HD ⊢
  generalize z1.heap.size = g at HD ⊢
  go_wp2_with fail
  refine (ds_open HD.out.plat HD.out.low HD.out.hw [] (kfW 0 []) (by rw [hsz]; have := HH.out.2; omega) HK.out (by rw [hsz]; exact HF.out) (by have := HH.out.2; have := HF.out; omega) (by omega) (by omega) OD.out.held trivial).mono ?_
  rintro e z7 ⟨m, q, vF, rs, nw', hm, hq, rfl, hrs, hnw1, hnw2, hd, hmd⟩
  obtain rfl : m = 0 := Nat.le_zero.1 hm.le
  rw [show pos (List.take 0 ([] : List Ent)) = 0 from rfl] at hq
  subst hq
  obtain rfl : rs = [] := by simpa using hrs
  have HD7 := Lib.hid hd
  clear hd hmd HD hm hrs hnw1 hnw2
  generalize z2.heap.size = g2 at HD7 ⊢
  go_wp2_with fail
  refine (wnew_nil base k z7).mono ?_
  rintro e z8 ⟨rfl, rfl⟩
  go_wp2_with fail
  refine (lleft_any (pl_own gd gs) g2 z7 g2 gd base k [] 0 [] vF _ HD7.out.log (by omega) (by simp) 0 rfl (by omega) (by have := HH.out.2; have := HF.out; omega) k (by omega)).mono ?_
  rintro e z8 ⟨rfl, n1, rfl⟩
  have HD8 := Lib.hid (HD7.out.drewN n1)
  clear HD7
  go_wp2_with fail
  refine (works_any _).mono ?_
  rintro e z9 ⟨rfl, hb3⟩
  have HB3 := Lib.hid (HD8.out.low.trans (hb3.mono HD8.out.low.size))
  clear hb3
  go_wp2_with fail
  go_ret
  exact ⟨rfl, HB3.out⟩

theorem none_law (n base k : Int) (w : World) (hw1 : (Lit.int .i64 base).wf = true) : Calls Tryd.prog 5 #[.int .i64 n, .int .i64 base, .int .i64 k] w (RetQ w true) := by
  by_cases h : n < 1 ∨ 60 < n
  · exact none_big n base k w h
  · have hb : -9223372036854775808 ≤ base ∧ base ≤ 9223372036854775807 := by simp [Lit.wf, IntKind.min, IntKind.max, IntKind.signed, IntKind.bits] at hw1; omega
    obtain ⟨m, rfl⟩ : ∃ m : Nat, n = (m : Int) := ⟨n.toNat, by omega⟩
    by_cases hf : 0 ≤ base ∧ 1 ≤ k ∧ k ≤ (m : Int) - base
    · obtain ⟨b, rfl⟩ : ∃ b : Nat, base = (b : Int) := ⟨base.toNat, by omega⟩
      obtain ⟨c, rfl⟩ : ∃ c : Nat, k = (c : Int) := ⟨k.toNat, by omega⟩
      exact none_yes m b c w (by omega) (by omega) (by omega) (by omega)
    · exact none_no m base k w (by omega) (by omega) hb.1 hb.2 hf
end Go.Proofs.YthicidpdgggbjaaDoor
