/-
  Youngest; the law's stamps.
  Conditions: at most 100000 numbers.
-/
import Derived.Test.YtnkphpjnhjbokaaCE
import Derived.Test.YtnkphpjnhjbokaaCG
import Derived.Shelf.Abstract
import Derived.Shelf.Abstract
namespace Go.Proofs.Ytnkphpjnhjbokaa
open Go.RowKit
attribute [local go_sem] Oper.semAt_some
set_option maxRecDepth 20000

/-- A function that gives each number its stamp. -/
def StampF (f : Nat) (lb : Array Value) (st : Nat → Nat) (w : World) : Prop := ∀ (W : World) (x : Nat), Below w.heap.size w W → Calls Try.prog f (#[.int .u64 (x : Int)] ++ lb) W (RetB W (.int .u64 (st x : Nat)))
/-- What has been found among the first k. -/
def Yo (st : Nat → Nat) (l : List Nat) (k : Nat) (bi : Int) (m : Nat) : Prop := (k = 0 ∧ bi = -1 ∧ m = 0) ∨ ∃ b : Nat, bi = (b : Int) ∧ YoR st l k b m
theorem func_nil (f : Nat) (lb : Array Value) (W : World) : (binOp .eql 38 (.func (.func f) #[] lb) .nilFunc).run Try.prog W = .ok (.bool false) W := by kernel_rfl
theorem nil_nil (W : World) : (binOp .eql 38 .nilFunc .nilFunc).run Try.prog W = .ok (.bool true) W := by kernel_rfl
theorem Yo.take {st : Nat → Nat} {l : List Nat} {k : Nat} {bi : Int} {m : Nat} (h : Yo st l k bi m) (hk : k < l.length) (hm : m ≤ st l[k]) : Yo st l (k + 1) (k : Int) (st l[k]) := by
  refine .inr ⟨k, rfl, YoR.take hk ?_⟩
  rcases h with ⟨rfl, _, _⟩ | ⟨b, _, h⟩
  · exact .inl rfl
  · exact .inr ⟨b, m, h, hm⟩
theorem Yo.keep {st : Nat → Nat} {l : List Nat} {k : Nat} {bi : Int} {m : Nat} (h : Yo st l k bi m) (hk : k < l.length) (hm : st l[k] < m) : Yo st l (k + 1) bi m := by
  rcases h with ⟨_, _, rfl⟩ | ⟨b, hb, h⟩
  · exact absurd hm (Nat.not_lt_zero _)
  · exact .inr ⟨b, hb, h.keep hk hm⟩
set_option maxHeartbeats 3200000 in
theorem Youngest_any (f : Nat) (lb : Array Value) (st : Nat → Nat) (eg : ∀ args w, (callFunc f args).run Try.prog w = .ok (.enter f args) w) (A : Option Addr) (n c : Nat) (l : List Nat) (w : World) (hp : StampF f lb st w) (h : Lz (fun _ => False) w 1 A n (UC l)) (hn : n ≤ 100000) :
    Calls Try.prog 19 #[.slice A n c, .func (.func f) #[] lb] w (fun e z => ∃ (bi : Int) (m : Nat), e = .returned (.int .i64 bi) ∧ Yo st l n bi m ∧ Below w.heap.size w z) := by
  have hlen := h.ulen
  have HL := Lib.hid h
  have HP := Lib.hid hp
  have hnil := func_nil f lb
  clear h hp
  go_enter Try.func19, Try.ntmps19
  go_wp2_with fail
  go_loopw [5, 6, 14] (fun v5 v6 vi wr => ∃ (k : Nat) (bi : Int) (m : Nat), k ≤ n ∧ v5 = .int .i64 bi ∧ v6 = .int .u64 (m : Int) ∧ vi = .int .i64 (k : Int) ∧ Hid (Below w.heap.size w wr) ∧ Hid (Yo st l k bi m)) (fun _ _ i _ => n - (intOf i).toNat)
  case atStart => exact ⟨0, -1, 0, Nat.zero_le _, rfl, rfl, by go_num, Lib.hid (Below.refl _ w), Lib.hid (.inl ⟨rfl, rfl, rfl⟩)⟩
  case round =>
    obtain ⟨k, bi, m, hk, rfl, rfl, rfl, HB, HY⟩ := hrel
    by_cases hlt : k < n
    · obtain ⟨b, o, hl, rfl, hb, hc⟩ := HL.out.uc hlt
      obtain ⟨x, hx⟩ : ∃ x, l[k] = x := ⟨_, rfl⟩
      rw [hx] at hc
      have p1 : wr.cell? ⟨b, o + k, none⟩ = some (.int .u64 (x : Int)) := (HB.out.cell (p := ⟨b, o + k, none⟩) hb).trans hc
      have HX := Lib.hid hx
      clear hc hx
      obtain ⟨s, hs⟩ : ∃ s, st x = s := ⟨_, rfl⟩
      have HC : Hid (Calls Try.prog f (#[.int .u64 (x : Int)] ++ lb) wr (RetB wr (.int .u64 (s : Int)))) := by
        have := HP.out wr x HB.out
        rw [hs] at this
        exact this
      have HS := Lib.hid hs
      obtain ⟨cg, hcg⟩ : ∃ cg, decide ((m : Int) ≤ (s : Int)) = cg := ⟨_, rfl⟩
      have hcn : decide (m ≤ s) = cg := by rw [← hcg]; exact decide_eq_decide.2 (by omega)
      have HCN := Lib.hid hcn
      clear hs
      cases cg
      · go_wp2_with (go_at_fn f; refine HC.out.mono ?_; rintro e z2 ⟨rfl, hb2⟩; have HB2 := Lib.hid (HB.out.trans (hb2.mono HB.out.size)); clear hb2)
        exact ⟨⟨k + 1, bi, m, by omega, rfl, rfl, by go_num, HB2, Lib.hid (HY.out.keep hl (by rw [HX.out, HS.out]; have := of_decide_eq_false HCN.out; omega))⟩, by simp [intOf]; omega⟩
      · go_wp2_with (go_at_fn f; refine HC.out.mono ?_; rintro e z2 ⟨rfl, hb2⟩; have HB2 := Lib.hid (HB.out.trans (hb2.mono HB.out.size)); clear hb2)
        exact ⟨⟨k + 1, k, s, by omega, rfl, rfl, by go_num, HB2, Lib.hid (by have h := HY.out.take hl (by rw [HX.out, HS.out]; exact of_decide_eq_true HCN.out); rw [HX.out, HS.out] at h; exact h)⟩, by simp [intOf]; omega⟩
    · obtain rfl : k = n := by omega
      go_wp2_with fail
      go_ret
      exact ⟨bi, m, rfl, HY.out, HB.out⟩
theorem Youngest_nil (A : Option Addr) (n c : Nat) (w : World) : Calls Try.prog 19 #[.slice A n c, .nilFunc] w (RetB w (.int .i64 (-1))) := by
  have hnil := nil_nil
  go_enter Try.func19, Try.ntmps19
  go_wp2_with fail
  go_ret
  exact ⟨rfl, Below.refl _ _⟩
theorem works1_any (x : Nat) (w : World) : Calls Try.prog 21 #[.int .u64 (x : Int)] w (RetB w (.int .u64 (x : Int))) := by
  go_enter Try.func21, Try.ntmps21
  go_wp2_with fail
  go_ret
  exact ⟨rfl, Below.refl _ _⟩
theorem ent_works1 : ∀ args w, (callFunc 21 args).run Try.prog w = .ok (.enter 21 args) w := enters_of Try.func21 (by kernel_rfl) rfl
end Go.Proofs.Ytnkphpjnhjbokaa
