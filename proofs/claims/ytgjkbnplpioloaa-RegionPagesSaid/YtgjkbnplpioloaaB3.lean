/-
  slices.Index and slices.Contains over points, the document's Find, Same.
  Conditions: at most 100000 points.
-/
import Derived.Test.YtgjkbnplpioloaaB2
import Derived.Shelf.Abstract
namespace Go.Proofs.Ytgjkbnplpioloaa
open Go.RowKit
attribute [local go_sem] Oper.semAt_some
set_option maxRecDepth 20000

/-- Where the first one stands that p takes; -1: there is none. -/
def idxP (p : Rc → Bool) (l : List Rc) : Int := match l.findIdx? p with | some k => (k : Int) | none => -1
theorem idxP_at {p : Rc → Bool} {l : List Rc} {k : Nat} (hk : k < l.length) (h : ∀ (j : Nat) (hj : j < l.length), j < k → p l[j] = false) (hp : p l[k] = true) : idxP p l = (k : Int) := by
  unfold idxP
  rw [(List.findIdx?_eq_some_iff_getElem).2 ⟨hk, hp, fun j hj => by rw [h j (by omega) hj]; decide⟩]
theorem idxP_none {p : Rc → Bool} {l : List Rc} (h : ∀ (j : Nat) (hj : j < l.length), j < l.length → p l[j] = false) : idxP p l = -1 := by
  unfold idxP
  rw [(List.findIdx?_eq_none_iff).2 fun x hx => by obtain ⟨j, hj, rfl⟩ := List.getElem_of_mem hx; exact h j hj hj]
/-- A value comes back; nothing that was there has turned. -/
def RetV (w : World) (v : Value) (e : Ending) (z : World) : Prop := e = .returned v ∧ Below w.heap.size w z
theorem wpList_load_rc {ops : Array Oper} {rest : List Oper} {op : Oper} {a : Act} {w : World} {Q : Exit → Act → World → Prop} (d : Nat) (x : Operand) (hop : op.dst = some d) (hgd : op.guard = none) (ho : op.op = .load 50 x) (g o : Nat) (hx : a.eval x = .pointer (some ⟨g, o, none⟩)) (r : Rc)
    (hc : w.rangeAt g o (rcL r)) (h : wpList Try.prog ops Q rest (a.put (some d) (.agg (rcA r))) w) : wpList Try.prog ops Q (op :: rest) a w := by
  obtain ⟨ds, h1, h2, h3⟩ := str25
  refine wpList_load_mid hgd 50 x ho g o hx (rcL r) ds hc h1 h2 h3 ?_
  rw [hop]
  exact h
section
variable {op : Oper} {a : Act}
theorem exec_load_rc {w : World} (x : Operand) (ho : op.op = .load 50 x) (g o : Nat) (hx : a.eval x = .pointer (some ⟨g, o, none⟩)) (r : Rc) (hc : w.rangeAt g o (rcL r)) : (execOp a.eval op).run Try.prog w = .ok (.value (.agg (rcA r))) w := by
  obtain ⟨ds, h1, h2, h3⟩ := str25
  unfold execOp
  simp only [ho, hx, Instr.loadAt, Instr.sureAddr, Sem.run_bind, Sem.run_pure, Result.andThen_ok, run_loadVar_mid w g o 50 (rcL r) ds hc h1 h2 (by rw [rcL_length]; exact h3)]
  rfl
theorem exec_neq_rc (u v : Operand) (ho : op.op = .binOp .neq 50 u v 50) (x y : Rc) (w : World) (hu : a.eval u = .agg (rcA x)) (hv : a.eval v = .agg (rcA y)) : (execOp a.eval op).run Try.prog w = .ok (.value (.bool (!(sameR x y)))) w := by
  unfold execOp
  simp only [ho, hu, hv, Sem.run_bind, run_eqGuard_agg w .neq 50 u v _ _ guard25, Result.andThen_ok, Sem.run_pure]
  have := neq_rc x y w
  simp only [rcA, rcL] at *
  rw [this]
  rfl
theorem exec_eql_rc (u v : Operand) (ho : op.op = .binOp .eql 50 u v 50) (x y : Rc) (w : World) (hu : a.eval u = .agg (rcA x)) (hv : a.eval v = .agg (rcA y)) : (execOp a.eval op).run Try.prog w = .ok (.value (.bool (sameR x y))) w := by
  unfold execOp
  simp only [ho, hu, hv, Sem.run_bind, run_eqGuard_agg w .eql 50 u v _ _ guard25, Result.andThen_ok, Sem.run_pure]
  have := eql_rc x y w
  simp only [rcA, rcL] at *
  rw [this]
  rfl
end
theorem sameR_comm (a b : Rc) : sameR a b = sameR b a := by
  rw [Bool.eq_iff_iff, sameR_iff, sameR_iff]
  exact eq_comm
/-- Where the first point stands that is r; -1: there is none. -/
def idxE (r : Rc) (l : List Rc) : Int := idxP (fun x => sameR x r) l
set_option maxHeartbeats 1600000 in
theorem idxR_any (A : Option Addr) (n c : Nat) (l : List Rc) (r : Rc) (w : World) (h : Lz NoX w 4 A n (rcsL l)) (hn : n ≤ 100000) :
    Calls Try.prog 35 #[.slice A n c, .agg (rcA r)] w (RetV w (.int .i64 (idxE r l))) := by
  have HLN := Lib.hid h.rclen
  have HL := Lib.hid h
  have HA0 : Hid (At (w.alloc (.cells (rcA r) 50)) w.heap.size 50 (rcA r)) := At.new w 50 (rcA r)
  have HB0 : Hid (Below w.heap.size w (w.alloc (.cells (rcA r) 50))) := (Below.refl _ w).alloc (Nat.le_refl _) _
  clear h
  go_enter Try.func35, Try.ntmps35
  go_wp2_with fail
  generalize w.alloc (.cells (rcA r) 50) = w1 at HA0 HB0 ⊢
  go_loopw [8] (fun vi wr => ∃ k : Nat, k ≤ n ∧ vi = .int .i64 (k : Int) ∧ Hid (Below w1.heap.size w1 wr) ∧ Hid (∀ (j : Nat) (hj : j < l.length), j < k → sameR l[j] r = false)) (fun i _ => n - (intOf i).toNat)
  case atStart => exact ⟨0, Nat.zero_le _, by go_num, Lib.hid (Below.refl _ w1), Lib.hid (fun _ _ h => absurd h (Nat.not_lt_zero _))⟩
  case round =>
    obtain ⟨k, hk, rfl, HB1, HN⟩ := hrel
    have HA : Hid (At wr w.heap.size 50 (rcA r)) := HA0.out.under HB1.out HA0.out.lt
    have HB : Hid (Below wr.heap.size wr wr) := Below.refl _ wr
    have HW : Hid (Below w.heap.size w wr) := HB0.out.trans (HB1.out.mono HB0.out.size)
    by_cases hlt : k < n
    · obtain ⟨g1, o1, hl, rfl, hb, hc⟩ := HL.out.rc hlt
      obtain ⟨q, hr⟩ : ∃ q, l[k] = q := ⟨_, rfl⟩
      rw [hr] at hc
      have R1 : Hid (∀ wz, Below wr.heap.size wr wz → wz.rangeAt g1 (o1 + k * 4) (rcL q)) := fun wz hz => pl_rangeAt_block hc ((HW.out.trans (hz.mono HW.out.size)).block g1 hb)
      obtain ⟨b, hbv⟩ : ∃ b, sameR q r = b := ⟨_, rfl⟩
      have HQ := Lib.hid hbv
      have HBV : Hid (sameR l[k] r = b) := by show _ = _; rw [hr]; exact hbv
      clear hc hr hbv hb
      go_upto_region 4 with fail
      refine wp_region_held_drew (S := Below wr.heap.size wr) (by kernel_rfl) (Below.refl _ wr).drew (fun hS => ?_)
      refine tkS (v := .agg (rcA r)) 0 hS ?_ (hy := by intro wz hz; exact exec_load_at 50 (.tmp 3) rfl w.heap.size rfl (rcA r) 4 str25 rfl (HA.out.under (HB.out.trans (hz.mono HB.out.size)) HA.out.lt))
      refine tkS 1 hS ?_
      refine tkS 2 hS ?_
      refine tkS 3 hS ?_
      refine tkS (v := .agg (rcA q)) 4 hS ?_ (hy := by intro wz hz; exact exec_load_rc (.tmp 14) rfl g1 (o1 + k * 4) rfl q (R1.out wz hz))
      refine tkS (v := .bool (sameR r q)) 5 hS ?_ (hy := by intro wz hz; exact exec_eql_rc (.tmp 11) (.tmp 15) rfl r q wz rfl rfl)
      refine wpAnyH_done (by kernel_rfl) ?_ _
      have HB3 : Hid (Below w1.heap.size w1 wr.drew) := HB1.out.drew
      clear hS
      rw [sameR_comm r q]
      rw [HQ.out]
      generalize wr.drew = wd at HB3 ⊢
      cases b
      · go_wp2_with fail
        go_round
        case rel => exact ⟨k + 1, by omega, by go_num, HB3, Lib.hid fun j hj hjk => by
          by_cases e : j = k
          · subst e
            exact HBV.out
          · exact HN.out j hj (by omega)⟩
        case measure => simp [intOf]; omega
      · have HI := Lib.hid (idxP_at (p := fun x => sameR x r) hl HN.out HBV.out)
        go_wp2_with fail
        go_ret
        exact ⟨by rw [idxE, HI.out]; rfl, HB0.out.trans (HB3.out.mono HB0.out.size)⟩
    · obtain rfl : k = n := by omega
      have HI : Hid (idxE r l = -1) := idxP_none fun j hj _ => HN.out j hj (by have := HLN.out; omega)
      go_wp2_with fail
      go_ret
      exact ⟨by rw [HI.out]; first | rfl | skip, HW.out⟩

set_option maxHeartbeats 1600000 in
theorem rFind_any (A : Option Addr) (n c : Nat) (l : List Rc) (r : Rc) (w : World) (h : Lz NoX w 4 A n (rcsL l)) (hn : n ≤ 100000) :
    Calls Try.prog 39 #[.slice A n c, .agg (rcA r)] w (RetV w (.int .i64 (idxE r l))) := by
  have HLN := Lib.hid h.rclen
  have HL := Lib.hid h
  have HA0 : Hid (At (w.alloc (.cells (rcA r) 50)) w.heap.size 50 (rcA r)) := At.new w 50 (rcA r)
  have HB0 : Hid (Below w.heap.size w (w.alloc (.cells (rcA r) 50))) := (Below.refl _ w).alloc (Nat.le_refl _) _
  clear h
  go_enter Try.func39, Try.ntmps39
  go_wp2_with fail
  generalize w.alloc (.cells (rcA r) 50) = w1 at HA0 HB0 ⊢
  go_loopw [5] (fun vi wr => ∃ k : Nat, k ≤ n ∧ vi = .int .i64 (k : Int) ∧ Hid (Below w1.heap.size w1 wr) ∧ Hid (∀ (j : Nat) (hj : j < l.length), j < k → sameR l[j] r = false)) (fun i _ => n - (intOf i).toNat)
  case atStart => exact ⟨0, Nat.zero_le _, by go_num, Lib.hid (Below.refl _ w1), Lib.hid (fun _ _ h => absurd h (Nat.not_lt_zero _))⟩
  case round =>
    obtain ⟨k, hk, rfl, HB1, HN⟩ := hrel
    have HA : Hid (At wr w.heap.size 50 (rcA r)) := HA0.out.under HB1.out HA0.out.lt
    have HB : Hid (Below wr.heap.size wr wr) := Below.refl _ wr
    have HW : Hid (Below w.heap.size w wr) := HB0.out.trans (HB1.out.mono HB0.out.size)
    by_cases hlt : k < n
    · obtain ⟨g1, o1, hl, rfl, hb, hc⟩ := HL.out.rc hlt
      obtain ⟨q, hr⟩ : ∃ q, l[k] = q := ⟨_, rfl⟩
      rw [hr] at hc
      have R1 : Hid (∀ wz, Below wr.heap.size wr wz → wz.rangeAt g1 (o1 + k * 4) (rcL q)) := fun wz hz => pl_rangeAt_block hc ((HW.out.trans (hz.mono HW.out.size)).block g1 hb)
      obtain ⟨b, hbv⟩ : ∃ b, sameR q r = b := ⟨_, rfl⟩
      have HQ := Lib.hid hbv
      have HBV : Hid (sameR l[k] r = b) := by show _ = _; rw [hr]; exact hbv
      clear hc hr hbv hb
      go_upto_region 4 with fail
      refine wp_region_held_drew (S := Below wr.heap.size wr) (by kernel_rfl) (Below.refl _ wr).drew (fun hS => ?_)
      refine tkS 0 hS ?_
      refine tkS 1 hS ?_
      refine tkS 2 hS ?_
      refine tkS (v := .agg (rcA q)) 3 hS ?_ (hy := by intro wz hz; exact exec_load_rc (.tmp 14) rfl g1 (o1 + k * 4) rfl q (R1.out wz hz))
      refine tkS (v := .agg (rcA r)) 4 hS ?_ (hy := by intro wz hz; exact exec_load_at 50 (.tmp 3) rfl w.heap.size rfl (rcA r) 4 str25 rfl (HA.out.under (HB.out.trans (hz.mono HB.out.size)) HA.out.lt))
      refine tkS (v := .bool (sameR q r)) 5 hS ?_ (hy := by intro wz hz; exact exec_eql_rc (.tmp 15) (.tmp 16) rfl q r wz rfl rfl)
      refine wpAnyH_done (by kernel_rfl) ?_ _
      have HB3 : Hid (Below w1.heap.size w1 wr.drew) := HB1.out.drew
      clear hS
      skip
      rw [HQ.out]
      generalize wr.drew = wd at HB3 ⊢
      cases b
      · go_wp2_with fail
        go_round
        case rel => exact ⟨k + 1, by omega, by go_num, HB3, Lib.hid fun j hj hjk => by
          by_cases e : j = k
          · subst e
            exact HBV.out
          · exact HN.out j hj (by omega)⟩
        case measure => simp [intOf]; omega
      · have HI := Lib.hid (idxP_at (p := fun x => sameR x r) hl HN.out HBV.out)
        go_wp2_with fail
        go_ret
        exact ⟨by rw [idxE, HI.out]; rfl, HB0.out.trans (HB3.out.mono HB0.out.size)⟩
    · obtain rfl : k = n := by omega
      have HI : Hid (idxE r l = -1) := idxP_none fun j hj _ => HN.out j hj (by have := HLN.out; omega)
      go_wp2_with fail
      go_ret
      exact ⟨by rw [HI.out]; first | rfl | skip, HW.out⟩

set_option maxHeartbeats 800000 in
theorem contR_any (A : Option Addr) (n c : Nat) (l : List Rc) (r : Rc) (w : World) (h : Lz NoX w 4 A n (rcsL l)) (hn : n ≤ 100000) :
    Calls Try.prog 40 #[.slice A n c, .agg (rcA r)] w (RetV w (.bool (decide (0 ≤ idxE r l)))) := by
  have HL := Lib.hid h
  have HA0 : Hid (At (w.alloc (.cells (rcA r) 50)) w.heap.size 50 (rcA r)) := At.new w 50 (rcA r)
  have HB0 : Hid (Below w.heap.size w (w.alloc (.cells (rcA r) 50))) := (Below.refl _ w).alloc (Nat.le_refl _) _
  clear h
  go_enter Try.func40, Try.ntmps40
  go_wp2_with (first
    | (refine wpList_load_at 50 6 (.tmp 3) rfl rfl rfl w.heap.size rfl (rcA r) 4 str25 rfl ?_ ?_; · exact HA0.out)
    | (go_at_call 35; refine (idxR_any A n c l r _ (HL.out.below HB0.out) hn).mono ?_; rintro e z ⟨rfl, hz⟩; have HZ := Lib.hid (HB0.out.trans (hz.mono HB0.out.size)); clear hz))
  go_ret
  exact ⟨by first | rfl | simp, HZ.out⟩
set_option maxHeartbeats 1600000 in
theorem Same_any (A1 A2 : Option Addr) (n c1 c2 : Nat) (l : List Rc) (w : World) (h1 : Lz NoX w 4 A1 n (rcsL l)) (h2 : Lz NoX w 4 A2 n (rcsL l)) (hn : n ≤ 100000) :
    Calls Try.prog 23 #[.slice A1 n c1, .slice A2 n c2] w (RetV w (.bool true)) := by
  have HL1 := Lib.hid h1
  have HL2 := Lib.hid h2
  clear h1 h2
  go_enter Try.func23, Try.ntmps23
  go_wp2_with fail
  go_loopw [5] (fun vi wr => ∃ k : Nat, k ≤ n ∧ vi = .int .i64 (k : Int) ∧ Hid (Below w.heap.size w wr)) (fun i _ => n - (intOf i).toNat)
  case atStart => exact ⟨0, Nat.zero_le _, by go_num, Lib.hid (Below.refl _ w)⟩
  case round =>
    obtain ⟨k, hk, rfl, HB⟩ := hrel
    by_cases hlt : k < n
    · obtain ⟨g1, o1, hl, rfl, hb1, hc1⟩ := HL1.out.rc hlt
      obtain ⟨g2, o2, _, rfl, hb2, hc2⟩ := HL2.out.rc hlt
      obtain ⟨r, hr⟩ : ∃ r, l[k] = r := ⟨_, rfl⟩
      rw [hr] at hc1 hc2
      have R1 : Hid (∀ wz, Below wr.heap.size wr wz → wz.rangeAt g1 (o1 + k * 4) (rcL r)) := fun wz hz => pl_rangeAt_block hc1 ((HB.out.trans (hz.mono HB.out.size)).block g1 hb1)
      have R2 : Hid (∀ wz, Below wr.heap.size wr wz → wz.rangeAt g2 (o2 + k * 4) (rcL r)) := fun wz hz => pl_rangeAt_block hc2 ((HB.out.trans (hz.mono HB.out.size)).block g2 hb2)
      clear hr hc1 hc2 hb1 hb2
      go_upto_region 6 with fail
      refine wp_region_held_drew (S := Below wr.heap.size wr) (by kernel_rfl) (Below.refl _ wr).drew (fun hS => ?_)
      refine tkS 0 hS ?_
      refine tkS 1 hS ?_
      refine tkS 2 hS ?_
      refine tkS (v := .agg (rcA r)) 3 hS ?_ (hy := by intro wz hz; exact exec_load_rc (.tmp 19) rfl g1 (o1 + k * 4) rfl r (R1.out wz hz))
      refine tkS 4 hS ?_
      refine tkS 5 hS ?_
      refine tkS 6 hS ?_
      refine tkS (v := .agg (rcA r)) 7 hS ?_ (hy := by intro wz hz; exact exec_load_rc (.tmp 23) rfl g2 (o2 + k * 4) rfl r (R2.out wz hz))
      refine tkS (v := .bool (!(sameR r r))) 8 hS ?_ (hy := by intro wz hz; exact exec_neq_rc (.tmp 20) (.tmp 24) rfl r r wz rfl rfl)
      refine wpAnyH_done (by kernel_rfl) ?_ _
      have HB3 := Lib.hid (HB.out.trans (hS.mono HB.out.size))
      have HM := Lib.hid (show Below wr.heap.size wr _ from hS)
      clear hS
      rw [sameR_refl]
      go_wp2_with fail
      go_round
      case rel => exact ⟨k + 1, by omega, by go_num, HB3⟩
      case measure => simp [intOf]; omega
    · obtain rfl : k = n := by omega
      go_wp2_with fail
      go_ret
      exact ⟨rfl, HB.out⟩
end Go.Proofs.Ytgjkbnplpioloaa
