/-
  Same.
  Conditions: at most 100000 records.
-/
import Derived.Test.YtpffnjnncgmgnaaB4
namespace Go.Proofs.Ytpffnjnncgmgnaa
open Go.RowKit
attribute [local go_sem] Oper.semAt_some
set_option maxRecDepth 20000

section
variable {op : Oper} {a : Act}
theorem exec_load_rc {w : World} (x : Operand) (ho : op.op = .load 52 x) (g o : Nat) (hx : a.eval x = .pointer (some ⟨g, o, none⟩)) (r : Rc) (hc : w.rangeAt g o (rcL r)) : (execOp a.eval op).run Try.prog w = .ok (.value (.agg (rcA r))) w := by
  obtain ⟨ds, h1, h2, h3⟩ := str25
  unfold execOp
  simp only [ho, hx, Instr.loadAt, Instr.sureAddr, Sem.run_bind, Sem.run_pure, Result.andThen_ok, run_loadVar_mid w g o 52 (rcL r) ds hc h1 h2 (by rw [rcL_length]; exact h3)]
  rfl
theorem exec_neq_rc (u v : Operand) (ho : op.op = .binOp .neq 52 u v 52) (x y : Rc) (w : World) (hu : a.eval u = .agg (rcA x)) (hv : a.eval v = .agg (rcA y)) : (execOp a.eval op).run Try.prog w = .ok (.value (.bool (!(sameR x y)))) w := by
  unfold execOp
  simp only [ho, hu, hv, Sem.run_bind, run_eqGuard_agg w .neq 52 u v _ _ guard25, Result.andThen_ok, Sem.run_pure]
  have := neq_rc x y w
  simp only [rcA, rcL] at *
  rw [this]
  rfl
end
set_option maxHeartbeats 1600000 in
theorem Same_any (A1 A2 : Option Addr) (n c1 c2 : Nat) (l : List Rc) (w : World) (h1 : Lz NoX w 6 A1 n (rcsL l)) (h2 : Lz NoX w 6 A2 n (rcsL l)) (hn : n ≤ 100000) :
    Calls Try.prog 20 #[.slice A1 n c1, .slice A2 n c2] w (RetV w (.bool true)) := by
  have HL1 := Lib.hid h1
  have HL2 := Lib.hid h2
  clear h1 h2
  go_enter Try.func20, Try.ntmps20
  go_wp2_with fail
  go_loopw [5] (fun vi wr => ∃ k : Nat, k ≤ n ∧ vi = .int .i64 (k : Int) ∧ Hid (Below w.heap.size w wr)) (fun i _ => n - (intOf i).toNat)
  case atStart => exact ⟨0, Nat.zero_le _, by go_num, Lib.hid (Below.refl _ w)⟩
  case round =>
    obtain ⟨k, hk, rfl, HB⟩ := hrel
    by_cases hlt : k < n
    · obtain ⟨g1, o1, hl, rfl, hb1, hc1⟩ := HL1.out.rc hlt
      obtain ⟨g2, o2, _, rfl, hb2, hc2⟩ := HL2.out.rc hlt
      obtain ⟨r, hr⟩ : ∃ r, l[k] = r := ⟨_, rfl⟩
      rw [hr] at hc1 hc2
      have R1 : Hid (∀ wz, Below wr.heap.size wr wz → wz.rangeAt g1 (o1 + k * 6) (rcL r)) := fun wz hz => pl_rangeAt_block hc1 ((HB.out.trans (hz.mono HB.out.size)).block g1 hb1)
      have R2 : Hid (∀ wz, Below wr.heap.size wr wz → wz.rangeAt g2 (o2 + k * 6) (rcL r)) := fun wz hz => pl_rangeAt_block hc2 ((HB.out.trans (hz.mono HB.out.size)).block g2 hb2)
      clear hr hc1 hc2 hb1 hb2
      go_upto_region 6 with fail
      refine wp_region_held_drew (S := Below wr.heap.size wr) (by kernel_rfl) (Below.refl _ wr).drew (fun hS => ?_)
      refine tkS 0 hS ?_
      refine tkS 1 hS ?_
      refine tkS 2 hS ?_
      refine tkS (v := .agg (rcA r)) 3 hS ?_ (hy := by intro wz hz; exact exec_load_rc (.tmp 19) rfl g1 (o1 + k * 6) rfl r (R1.out wz hz))
      refine tkS 4 hS ?_
      refine tkS 5 hS ?_
      refine tkS 6 hS ?_
      refine tkS (v := .agg (rcA r)) 7 hS ?_ (hy := by intro wz hz; exact exec_load_rc (.tmp 23) rfl g2 (o2 + k * 6) rfl r (R2.out wz hz))
      refine tkS (v := .bool (!(sameR r r))) 8 hS ?_ (hy := by intro wz hz; exact exec_neq_rc (.tmp 20) (.tmp 24) rfl r r wz rfl rfl)
      refine wpAnyH_done (by kernel_rfl) ?_ _
      have HB3 := Lib.hid (HB.out.trans (hS.mono HB.out.size))
      have HM := Lib.hid (show Below wr.heap.size wr _ from hS)
      clear hS
      rw [sameR_refl]
      go_wp2_with fail
      go_round
      case rel => exact ⟨k + 1, by omega, by go_num, HB3⟩
      case measure => simp [intOf]; omega
    · obtain rfl : k = n := by omega
      go_wp2_with fail
      go_ret
      exact ⟨rfl, HB.out⟩
end Go.Proofs.Ytpffnjnncgmgnaa
