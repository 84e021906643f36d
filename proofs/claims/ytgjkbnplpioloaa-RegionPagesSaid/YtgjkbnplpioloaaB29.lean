/-
  RegionOne.
  Conditions: none.
-/
import Derived.Test.YtgjkbnplpioloaaB28
namespace Go.Proofs.Ytgjkbnplpioloaa
open Go.RowKit
attribute [local go_sem] Oper.semAt_some
set_option maxRecDepth 20000

theorem eql_pg (a : Pg) (w : World) : (binOp .eql 62 (.agg (pgA a)) (.agg (pgA a))).run Try.prog w = .ok (.bool true) w := by
  have h := equalIn_pg 9998 a a w
  simp only [binOp]
  have e : (Op.equal 62 (.agg (pgA a)) (.agg (pgA a))).run Try.prog w = .ok true w := by
    show (Op.equalIn (9998 + 2) 62 (.agg (pgA a)) (.agg (pgA a))).run Try.prog w = _
    rw [h]
    simp
  simp [e]
theorem guard39 : Try.prog.eqGuardType Try.prog.depth 62 = false := by kernel_rfl
theorem exec_eql_pg {op : Oper} {a : Act} (u v : Operand) (ho : op.op = .binOp .eql 62 u v 62) (x : Pg) (w : World) (hu : a.eval u = .agg (pgA x)) (hv : a.eval v = .agg (pgA x)) : (execOp a.eval op).run Try.prog w = .ok (.value (.bool true)) w := by
  unfold execOp
  simp only [ho, hu, hv, Sem.run_bind, run_eqGuard_agg w .eql 62 u v _ _ guard39, Result.andThen_ok, eql_pg, Sem.run_pure]
def b1 : Bx := ⟨0, 0, 1, 1⟩
/-- at of RegionOne. -/
def f1 (p : Pg) (n : Int) : Pg × Bool := (p, decide (n = 3))
theorem Get1 (p : Pg) (g : Nat) (w : World) (h : At w g 62 (pgA p)) : Calls Try.prog 27 #[.agg (bxA b1), .int .i64 3, .func (.func 29) #[] #[.pointer (some ⟨g, 0, none⟩)]] w (RetGet w (f1 p) b1 3) :=
  Get_any 29 #[.pointer (some ⟨g, 0, none⟩)] (f1 p) b1 3 w ent_one1 (fun W n hW => one1_any p g n W (h.under hW h.lt))
theorem Get1_yes (p : Pg) (g : Nat) (w : World) (h : At w g 62 (pgA p)) (hm : ∃ m, GetAt (f1 p) 3 m) : Calls Try.prog 27 #[.agg (bxA b1), .int .i64 3, .func (.func 29) #[] #[.pointer (some ⟨g, 0, none⟩)]] w (fun e z => ∃ AP cP AR cR, e = .returned (.tuple #[.agg (bkA b1 (.slice AP 1 cP) (.slice AR (rdRecs p).length cR)), .bool true]) ∧ z.ownsRow w.heap.size 3 1 (.slice AP 1 cP) 1 (ICs [3]) ∧ z.ownsRow w.heap.size 50 4 (.slice AR (rdRecs p).length cR) (rdRecs p).length (rcsL (rdRecs p)) ∧ Below w.heap.size w z) := by
  refine (Get1 p g w h).mono ?_
  rintro e z ⟨hb, ⟨k, hk, AP, cP, AR, cR, he, h1, h2⟩ | ⟨hno, _⟩⟩
  · obtain ⟨rfl, _, _⟩ := one_get (p := p) hk
    have e1 : gRs (f1 p) 3 1 = rdRecs p := by simp [gRs, f1]
    have e2 : gPs (f1 p) 3 1 = [3] := by simp [gPs, gN]
    rw [e1, e2] at he
    rw [e2] at h1
    rw [e1] at h2
    exact ⟨AP, cP, AR, cR, he, h1, h2, hb⟩
  · exact absurd hm hno
theorem Get1_no (p : Pg) (g : Nat) (w : World) (h : At w g 62 (pgA p)) (hm : ¬ ∃ m, GetAt (f1 p) 3 m) : Calls Try.prog 27 #[.agg (bxA b1), .int .i64 3, .func (.func 29) #[] #[.pointer (some ⟨g, 0, none⟩)]] w (fun e z => e = .returned (.tuple #[.agg zbk, .bool false]) ∧ Below w.heap.size w z) := by
  refine (Get1 p g w h).mono ?_
  rintro e z ⟨hb, ⟨k, hk, _⟩ | ⟨_, he⟩⟩
  · exact absurd ⟨k, hk⟩ hm
  · exact ⟨he, hb⟩
set_option maxHeartbeats 6400000 in
theorem One_any (p : Pg) (w : World) : Calls Try.prog 6 #[.agg (pgA p)] w (RetV w (.bool true)) := by
  have HA : Hid (At (w.alloc (.cells (pgA p) 62)) w.heap.size 62 (pgA p)) := At.new w 62 (pgA p)
  have HB : Hid (BelO w (w.alloc (.cells (pgA p) 62))) := (Below.refl _ w).alloc (Nat.le_refl _) _
  have hmf : ∀ (fn : Fn) (first cap : Array Value) (w : World), (Instr.makeFunc fn first cap).run Try.prog w = .ok (.func fn first cap) w := fun _ _ _ _ => rfl
  by_cases hm : ∃ m, GetAt (f1 p) 3 m
  · obtain ⟨hn0, hput⟩ : rdNext p = 0 ∧ putG [3] (rdRecs p) = [⟨3, p⟩] := by
      obtain ⟨k, hk⟩ := hm
      exact (one_get (p := p) hk).2
    have HM := Lib.hid hm
    have HPU := Lib.hid hput
    have HRO := Lib.hid (rdRecs_ok p)
    have HRL := Lib.hid (rdRecs_len p)
    have HBY : Hid ((p.toList.getD 1 0).toNat = 0) := by show _ = _; rw [← rdNext_byte, hn0]
    clear hm hput hn0
    go_enter Try.func6, Try.ntmps6
    go_upto_region 1 with fail
    generalize w.alloc (.cells (pgA p) 62) = w1 at HA HB ⊢
    go_upto_region 5 with (first
      | (go_at_call 27; refine (Get1_yes p w.heap.size w1 HA.out HM.out).mono ?_; rintro e z2 ⟨AP, cP, AR, cR, rfl, h1, h2, hk⟩; have HN2 := Lib.hid h1; have HR2 := Lib.hid h2; have HA2 := Lib.hid (HA.out.under hk HA.out.lt); have HB2 := Lib.hid (HB.out.call hk); clear h1 h2 hk)
      | (refine wpList_store_new 44 (.tmp 3) (.tmp 10) rfl rfl rfl z2.heap.size z2 rfl rfl (bkA b1 (.slice AP 1 cP) (.slice AR (rdRecs p).length cR)) _ 6 rfl strBk rfl rfl (bkA_one _ _ _ _ _ _ _) rfl ?_; have hk := (Below.refl z2.heap.size z2).alloc (Nat.le_refl _) (.cells (bkA b1 (.slice AP 1 cP) (.slice AR (rdRecs p).length cR)) 44); have HA3 := Lib.hid (HA2.out.under hk HA2.out.lt); have HB3 := Lib.hid (HB2.out.call hk); have HK3 := Lib.hid (BkO.new (w := w) (d := b1) (Below.size HB.out) HN2.out HR2.out); clear hk; generalize z2.alloc (.cells (bkA b1 (.slice AP 1 cP) (.slice AR (rdRecs p).length cR)) 44) = w3 at HA3 HB3 HK3 ⊢)
      | (refine wpList_load_at 44 27 (.tmp 3) rfl rfl rfl z2.heap.size rfl (bkA b1 (.slice AP 1 cP) (.slice AR (rdRecs p).length cR)) 6 strBk rfl HK3.out.box ?_)
      | (go_at_call 25; refine (putG_any b1 AP 1 cP AR (rdRecs p).length cR [3] (rdRecs p) w3 HK3.out.bk HRO.out (by omega) (by have := HRL.out; omega) HK3.out.cap).mono ?_; rw [HPU.out]; rintro e z4 ⟨A4, n4, c4, rfl, hl4, hk⟩; have h24' : n4 = 1 := hl4.len.symm; subst h24'; have HI4 := Lib.hid hl4; have HA4 := Lib.hid (HA3.out.under hk HA3.out.lt); have HB4 := Lib.hid (HB3.out.call hk); clear hl4 hk))
    obtain ⟨b, o, _, rfl, hlt, hr0⟩ := HI4.out.at (k := 0) (by omega)
    rw [Nat.zero_mul] at hr0
    have HR : Hid (∀ wz, Below z4.heap.size z4 wz → wz.rangeAt b o (imL ⟨3, p⟩)) := fun wz hz => rangeAt_block hr0 (hz.block b hlt)
    have HAP : Hid (∀ wz, Below z4.heap.size z4 wz → At wz w.heap.size 62 (pgA p)) := fun wz hz => HA4.out.under hz HA4.out.lt
    have HQ2 : Hid (∀ wz, Below z4.heap.size z4 wz → wz.cell? ⟨w.heap.size, 1, none⟩ = some (.int .u8 0)) := fun wz hz => by rw [(HAP.out wz hz).cell, pgA_get p 1 (by omega), HBY.out]; rfl
    clear hr0 hlt
    refine wp_region_held_drew (S := Below z4.heap.size z4) (by kernel_rfl) (Below.refl _ z4).drew (fun hS => ?_)
    refine tkS 0 hS ?_
    refine tkS 1 hS ?_
    refine tkS 2 hS ?_
    refine tkS 3 hS ?_
    refine tkS 4 hS ?_
    refine tkS 5 hS ?_
    refine tkS 6 hS ?_
    refine tkS 7 hS ?_ (hy := by intro wz hz; have q7 : wz.cell? ⟨b, o, none⟩ = some (.int .i64 3) := im_page (HR.out wz hz); have q2 : wz.cell? ⟨w.heap.size, 1, none⟩ = some (.int .u8 0) := HQ2.out wz hz; go_simp <;> with_reducible rfl)
    refine tkS 8 hS ?_
    refine tkS 9 hS ?_
    refine tkS 10 hS ?_
    refine tkS 11 hS ?_
    refine tkS 12 hS ?_
    refine tkS 13 hS ?_
    refine tkS (v := .agg (pgA p)) 14 hS ?_ (hy := by intro wz hz; have q7 : wz.cell? ⟨b, o, none⟩ = some (.int .i64 3) := im_page (HR.out wz hz); have q2 : wz.cell? ⟨w.heap.size, 1, none⟩ = some (.int .u8 0) := HQ2.out wz hz; exact exec_load_pg (.tmp 42) rfl b (o + 1) rfl ⟨3, p⟩ o rfl (HR.out wz hz))
    refine tkS (v := .agg (pgA p)) 15 hS ?_ (hy := by intro wz hz; have q7 : wz.cell? ⟨b, o, none⟩ = some (.int .i64 3) := im_page (HR.out wz hz); have q2 : wz.cell? ⟨w.heap.size, 1, none⟩ = some (.int .u8 0) := HQ2.out wz hz; exact exec_load_at 62 (.tmp 1) rfl w.heap.size rfl (pgA p) 224 str49 (pgA_size _) (HAP.out wz hz))
    refine tkS (v := .bool true) 16 hS ?_ (hy := by intro wz hz; have q7 : wz.cell? ⟨b, o, none⟩ = some (.int .i64 3) := im_page (HR.out wz hz); have q2 : wz.cell? ⟨w.heap.size, 1, none⟩ = some (.int .u8 0) := HQ2.out wz hz; exact exec_eql_pg (.tmp 43) (.tmp 44) rfl p wz rfl rfl)
    refine tkS 17 hS ?_
    refine tkS 18 hS ?_
    refine tkS 19 hS ?_
    refine tkS 20 hS ?_ (hy := by intro wz hz; have q7 : wz.cell? ⟨b, o, none⟩ = some (.int .i64 3) := im_page (HR.out wz hz); have q2 : wz.cell? ⟨w.heap.size, 1, none⟩ = some (.int .u8 0) := HQ2.out wz hz; go_simp <;> with_reducible rfl)
    refine tkS 21 hS ?_
    refine tkS 22 hS ?_
    refine tkS 23 hS ?_
    refine wpAnyH_ready (rs := [24]) (by kernel_rfl) (by simp) ?_
    refine AllReadyH.cons rfl (fun K hK => ?_) AllReadyH.nil
    go_simp
    refine (works_any _).mono ?_
    rintro e z5 ⟨rfl, hb5⟩
    have hb : True := trivial
    have HS5 := Lib.hid (hS.trans (hb5.mono hS.size))
    clear hb5
    refine hK.out _ _ (HS5.out) (fun hT => ?_)
    clear hK hb hS
    have hS := hT
    clear hT
    refine tkS 25 hS ?_
    refine tkS 26 hS ?_
    refine wpAnyH_done (by kernel_rfl) ?_ _
    have HE := Lib.hid (HB4.out.call hS)
    clear hS
    go_wp2_with fail
    go_ret
    exact ⟨rfl, HE.out⟩
  · have HM := Lib.hid hm
    clear hm
    go_enter Try.func6, Try.ntmps6
    go_upto_region 1 with fail
    generalize w.alloc (.cells (pgA p) 62) = w1 at HA HB ⊢
    go_wp2_with (first
      | (go_at_call 27; refine (Get1_no p w.heap.size w1 HA.out HM.out).mono ?_; rintro e z2 ⟨rfl, hk⟩; have HB2 := Lib.hid (HB.out.call hk); clear hk)
      | (refine wpList_store_new 44 (.tmp 3) (.tmp 10) rfl rfl rfl z2.heap.size z2 rfl rfl zbk _ 6 rfl strBk rfl rfl zbk_one rfl ?_; have hk := (Below.refl z2.heap.size z2).alloc (Nat.le_refl _) (.cells zbk 44); have HB3 := Lib.hid (HB2.out.call hk); have HA3 := Lib.hid (At.new z2 44 zbk); clear hk; generalize z2.alloc (.cells zbk 44) = w3 at HA3 HB3 ⊢; have q1 : w3.cell? ⟨z2.heap.size, 4, none⟩ = some (.slice none 0 0) := HA3.out.cell 4; have q2 : w3.cell? ⟨z2.heap.size, 5, none⟩ = some (.slice none 0 0) := HA3.out.cell 5)
      | (go_at_call 15; refine (works_any _).mono ?_; rintro e z4 ⟨rfl, hk⟩; have HB4 := Lib.hid (HB3.out.call hk); clear hk))
    go_ret
    exact ⟨rfl, HB4.out⟩
end Go.Proofs.Ytgjkbnplpioloaa
