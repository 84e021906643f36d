/-
  For every number of pages, every list of acts and every two numbers the law BucketDoes returns true and leaves its arguments as they were.
  Conditions: none.
-/
import Derived.Test.YtpffnjnncgmgnaaB28
import Derived.Test.YtpffnjnncgmgnaaB33
import Derived.Test.YtpffnjnncgmgnaaB22
import Derived.Deep.Slices
import Derived.Lib.SmallJoins
import Derived.OpenShut
import Derived.WideShapes
import Derived.ProofKit
import Derived.Test.YtpffnjnncgmgnaaRows
import Derived.WalkKit
import Derived.ShutString
import Derived.ChangeOld
import Derived.Below
namespace Go.Proofs.Ytpffnjnncgmgnaa
open Go.RowKit
attribute [local go_sem] Oper.semAt_some
set_option maxRecDepth 20000

/-- What a law holds behind its acts. -/
structure LwS (w : World) (g : Nat) (d : Int) (ps : List Int) (pn : Nat) (rs : List Rc) (rn : Nat) (PA : Option Addr) (pc : Nat) (RA : Option Addr) (rc : Nat) (A7 : Option Addr) (y : World) : Prop where
  box : At y g 29 (bkA d (.slice PA pn pc) (.slice RA rn rc))
  bk : BkL y PA pn RA rn ps rs
  cap : rn ≤ rc
  ref : Lz NoX y 6 A7 rn (rcsL rs)
  bel : BelO w y
theorem LwS.call {w y z : World} {g : Nat} {d : Int} {ps : List Int} {pn rn pc rc : Nat} {rs : List Rc} {PA RA A7 : Option Addr} (h : LwS w g d ps pn rs rn PA pc RA rc A7 y) (hb : Below y.heap.size y z) : LwS w g d ps pn rs rn PA pc RA rc A7 z :=
  ⟨h.box.under hb h.box.lt, h.bk.below hb, h.cap, h.ref.below hb, h.bel.call hb⟩
theorem LwS.new {w y : World} {d : Int} {ps : List Int} {pn rn pc rc : Nat} {rs : List Rc} {PA RA A7 : Option Addr} (hw : BelO w y) (h1 : BkL y PA pn RA rn ps rs) (h2 : rn ≤ rc) (h3 : Lz NoX y 6 A7 rn (rcsL rs)) :
    LwS w y.heap.size d ps pn rs rn PA pc RA rc A7 (y.alloc (.cells (bkA d (.slice PA pn pc) (.slice RA rn rc)) 29)) :=
  have hk := (Below.refl y.heap.size y).alloc (Nat.le_refl _) (.cells (bkA d (.slice PA pn pc) (.slice RA rn rc)) 29)
  ⟨At.new y 29 _, h1.below hk, h2, h3.below hk, hw.call hk⟩
/-- The pages of small, by names. -/
theorem small_named (n : Nat) (w : World) (hn : n < 256) (ps : List Int) (pn : Nat) (h1 : smallP n = ps) (h2 : ps.length = pn) : Calls Try.prog 10 #[.int .u8 (n : Int)] w (fun e z => ∃ A c, e = .returned (.slice A pn c) ∧ Lz NoX z 1 A pn (ICs ps) ∧ Below w.heap.size w z) := by
  refine (small_any n w hn).mono ?_
  rintro e z ⟨A, c, rfl, h, hb⟩
  subst h1 h2
  exact ⟨A, c, rfl, Lz.of_own h (fun _ h => h.elim), hb⟩
theorem light_len {l : List Op13} (h : lightB l = true) : l.length ≤ 60 ∧ ∀ o ∈ l, o.r.val.length ≤ 100 := by
  unfold lightB at h
  rw [Bool.and_eq_true, decide_eq_true_eq, List.all_eq_true] at h
  exact ⟨h.1, fun o ho => of_decide_eq_true (h.2 o ho)⟩
set_option maxHeartbeats 12800000 in
theorem Does_any (n8 : Nat) (A : Option Addr) (n c : Nat) (l : List Op13) (id key : Nat) (w : World) (h8 : n8 < 256) (hL : Lz NoX w 7 A n (opsL l)) (hok : ∀ o ∈ l, o.r.ok) :
    Calls Try.prog 3 #[.int .u8 (n8 : Int), .slice A n c, .int .u64 (id : Int), .int .u64 (key : Int)] w (RetV w (.bool true)) := by
  have HL := Lib.hid hL
  have HLN := Lib.hid hL.oplen
  have HOK := Lib.hid hok
  clear hL hok
  obtain ⟨lb, hlb⟩ : ∃ lb, lightB l = lb := ⟨_, rfl⟩
  have HLB := Lib.hid hlb
  cases lb
  · clear hlb
    go_enter Try.func3, Try.ntmps3
    go_wp2_with (first
      | (go_at_call 7; refine (light_any A n c l w HL.out).mono ?_; rintro e z ⟨rfl, rfl⟩; rw [HLB.out])
      | (go_at_call 8; refine (works_any _).mono ?_; rintro e z ⟨rfl, hk⟩; have HB4 := Lib.hid hk; clear hk))
    go_ret
    exact ⟨rfl, HB4.out⟩
  · obtain ⟨hn60, hval⟩ := light_len hlb
    rw [HLN.out] at hn60
    obtain ⟨ps, hps⟩ : ∃ ps, smallP n8 = ps := ⟨_, rfl⟩
    obtain ⟨pn, hpn⟩ : ∃ pn, ps.length = pn := ⟨_, rfl⟩
    have hp4 : pn ≤ 4 := by rw [← hpn, ← hps, smallP_length]; omega
    obtain ⟨rs, hrs⟩ : ∃ rs, madeR pn l n = rs := ⟨_, rfl⟩
    obtain ⟨rn, hrn⟩ : ∃ rn, rs.length = rn := ⟨_, rfl⟩
    have hrn2 : rn ≤ 20 := by
      have := (good_made (pn := pn) HOK.out n (by rw [HLN.out]; exact Nat.le_refl _)).len
      rw [hrs, hrn] at this
      omega
    have HPS := Lib.hid hps
    have HPN := Lib.hid hpn
    have HRS := Lib.hid hrs
    have HRN := Lib.hid hrn
    have HVL := Lib.hid hval
    clear hlb hps hpn hrs hrn hval
    go_enter Try.func3, Try.ntmps3
    go_upto_region 4 with (first
      | (go_at_call 7; refine (light_any A n c l w HL.out).mono ?_; rintro e z ⟨rfl, rfl⟩; rw [HLB.out])
      | (go_at_call 10; refine (small_named n8 z h8 ps pn HPS.out HPN.out).mono ?_; rintro e z1 ⟨A5, c5, rfl, h5, hb1⟩; have H5 := Lib.hid h5; have HB1 : Hid (BelO z z1) := hb1; clear h5 hb1)
      | (go_at_call 9; refine (made_any 0 A5 pn c5 ps A n c l z1 H5.out (HL.out.below HB1.out) HOK.out HVL.out (by omega) hn60 rs rn HRS.out HRN.out).mono ?_; rintro e z2 ⟨PA, pc, RA, rc, A7, c7, rfl, h1, h2, h3, hc7, hb2⟩; have H1 := Lib.hid h1; have H3 := Lib.hid h3; have HB2 := Lib.hid (HB1.out.call hb2); clear h1 h3 hb2)
      | (refine wpList_store_new 29 (.tmp 9) (.tmp 22) rfl rfl rfl z2.heap.size z2 rfl rfl (bkA 0 (.slice PA pn pc) (.slice RA rn rc)) _ 3 rfl strBk rfl rfl (bkA_one _ _ _ _ _ _ _) rfl ?_; have HW := Lib.hid (LwS.new (d := 0) (pc := pc) HB2.out H1.out h2 H3.out)))
    generalize z2.alloc (.cells (bkA 0 (.slice PA pn pc) (.slice RA rn rc)) 29) = y5 at HW ⊢
    generalize z2.heap.size = gB at HW ⊢
    obtain ⟨q, hq⟩ : ∃ q, roomI pn rn = q := ⟨_, rfl⟩
    obtain ⟨f1, hf1⟩ : ∃ f1, idxP (fun r => r.id == id) rs = f1 := ⟨_, rfl⟩
    obtain ⟨f2, hf2⟩ : ∃ f2, idxP (isLive key) rs = f2 := ⟨_, rfl⟩
    have HBX : Hid (∀ wz, Below y5.heap.size y5 wz → At wz gB 29 (bkA 0 (.slice PA pn pc) (.slice RA rn rc))) := fun wz hz => HW.out.box.under hz HW.out.box.lt
    have HRM : Hid (∀ wz, Below y5.heap.size y5 wz → Calls Try.prog 11 #[.agg (bkA 0 (.slice PA pn pc) (.slice RA rn rc))] wz (RetV wz (.int .i64 q))) := fun wz _ => by rw [← hq]; exact Room_any 0 PA pn pc RA rn rc wz (by omega) (by omega)
    have HF1 : Hid (∀ wz, Below y5.heap.size y5 wz → Calls Try.prog 12 #[.agg (bkA 0 (.slice PA pn pc) (.slice RA rn rc)), .int .u64 (id : Int)] wz (RetV wz (.int .i64 f1))) := fun wz hz => by rw [← hf1]; exact Find_any 0 PA pn pc RA rn rc rs id wz (HW.out.bk.below hz).r (by omega)
    have HF2 : Hid (∀ wz, Below y5.heap.size y5 wz → Calls Try.prog 13 #[.slice A7 rn c7, .int .u64 (id : Int)] wz (RetV wz (.int .i64 f1))) := fun wz hz => by rw [← hf1]; exact rFind_any A7 rn c7 rs id wz (HW.out.ref.below hz) (by omega)
    have HL1 : Hid (∀ wz, Below y5.heap.size y5 wz → Calls Try.prog 14 #[.agg (bkA 0 (.slice PA pn pc) (.slice RA rn rc)), .int .u64 (key : Int)] wz (RetV wz (.int .i64 f2))) := fun wz hz => by rw [← hf2]; exact Live_any 0 PA pn pc RA rn rc rs key wz (HW.out.bk.below hz).r (by omega)
    have HL2 : Hid (∀ wz, Below y5.heap.size y5 wz → Calls Try.prog 15 #[.slice A7 rn c7, .int .u64 (key : Int)] wz (RetV wz (.int .i64 f2))) := fun wz hz => by rw [← hf2]; exact rLive_any A7 rn c7 rs key wz (HW.out.ref.below hz) (by omega)
    have hw1 : IntKind.i64.wrap (5 * (pn : Int)) = 5 * (pn : Int) := by rw [IntKind.wrap_i64]; omega
    have hw1' : wrap64 (5 * (pn : Int)) = 5 * (pn : Int) := by unfold wrap64; omega
    have hw2 : wrap64 (5 * (pn : Int) - (rn : Int)) = q := by rw [← hq]; unfold wrap64 roomI; omega
    have hw2' : IntKind.i64.wrap (5 * (pn : Int) - (rn : Int)) = q := by rw [← hq, IntKind.wrap_i64]; unfold roomI; omega
    clear hq hf1 hf2 HL HOK HVL HRS HPS HLN HLB
    refine wp_region_held_drew (S := Below y5.heap.size y5) (by kernel_rfl) (Below.refl _ y5).drew (fun hS => ?_)
    refine tkS 0 hS ?_
    refine tkS 1 hS ?_
    refine tkS (v := .agg (bkA 0 (.slice PA pn pc) (.slice RA rn rc))) 2 hS ?_ (hy := by intro wz hz; have q1 : wz.cell? ⟨gB, 1, none⟩ = some (.slice PA pn pc) := (HBX.out wz hz).cell 1; exact exec_load_at 29 (.tmp 9) rfl gB rfl _ 3 strBk rfl (HBX.out wz hz))
    refine tkS 4 hS ?_
    refine tkS 5 hS ?_ (hy := by intro wz hz; have q1 : wz.cell? ⟨gB, 1, none⟩ = some (.slice PA pn pc) := (HBX.out wz hz).cell 1; go_simp <;> with_reducible rfl)
    refine tkS 6 hS ?_
    refine tkS 7 hS ?_
    refine tkS 8 hS ?_
    refine tkS 9 hS ?_
    refine tkS 10 hS ?_
    refine wpAnyH_ready (rs := [3]) (by kernel_rfl) (by simp) ?_
    refine AllReadyH.cons rfl (fun K hK => ?_) AllReadyH.nil
    go_simp
    refine (HRM.out _ hS).mono ?_
    rintro e y9 ⟨rfl, hb9⟩
    have hb : True := trivial
    have HS5 := Lib.hid (hS.trans (hb9.mono hS.size))
    clear hb9
    refine hK.out _ _ (HS5.out) (fun hT => ?_)
    clear hK hb hS
    have hS := hT
    clear hT
    refine tkS (v := .bool true) 11 hS ?_ (hy := by intro wz hz; have q1 : wz.cell? ⟨gB, 1, none⟩ = some (.slice PA pn pc) := (HBX.out wz hz).cell 1; (go_simp <;> first | rfl | simp))
    refine tkS 12 hS ?_
    refine tkS 13 hS ?_
    refine tkS (v := .agg (bkA 0 (.slice PA pn pc) (.slice RA rn rc))) 14 hS ?_ (hy := by intro wz hz; have q1 : wz.cell? ⟨gB, 1, none⟩ = some (.slice PA pn pc) := (HBX.out wz hz).cell 1; exact exec_load_at 29 (.tmp 9) rfl gB rfl _ 3 strBk rfl (HBX.out wz hz))
    refine tkS 15 hS ?_
    refine tkS 17 hS ?_
    refine tkS 18 hS ?_
    refine wpAnyH_ready (rs := [16]) (by kernel_rfl) (by simp) ?_
    refine AllReadyH.cons rfl (fun K hK => ?_) AllReadyH.nil
    go_simp
    refine (HF1.out _ hS).mono ?_
    rintro e y9 ⟨rfl, hb9⟩
    have hb : True := trivial
    have HS5 := Lib.hid (hS.trans (hb9.mono hS.size))
    clear hb9
    refine hK.out _ _ (HS5.out) (fun hT => ?_)
    clear hK hb hS
    have hS := hT
    clear hT
    refine wpAnyH_ready (rs := [19]) (by kernel_rfl) (by simp) ?_
    refine AllReadyH.cons rfl (fun K hK => ?_) AllReadyH.nil
    go_simp
    refine (HF2.out _ hS).mono ?_
    rintro e y9 ⟨rfl, hb9⟩
    have hb : True := trivial
    have HS5 := Lib.hid (hS.trans (hb9.mono hS.size))
    clear hb9
    refine hK.out _ _ (HS5.out) (fun hT => ?_)
    clear hK hb hS
    have hS := hT
    clear hT
    refine tkS (v := .bool true) 20 hS ?_ (hy := by intro wz hz; have q1 : wz.cell? ⟨gB, 1, none⟩ = some (.slice PA pn pc) := (HBX.out wz hz).cell 1; (go_simp <;> first | rfl | simp))
    refine tkS 21 hS ?_
    refine tkS 22 hS ?_
    refine tkS (v := .agg (bkA 0 (.slice PA pn pc) (.slice RA rn rc))) 23 hS ?_ (hy := by intro wz hz; have q1 : wz.cell? ⟨gB, 1, none⟩ = some (.slice PA pn pc) := (HBX.out wz hz).cell 1; exact exec_load_at 29 (.tmp 9) rfl gB rfl _ 3 strBk rfl (HBX.out wz hz))
    refine tkS 24 hS ?_
    refine tkS 26 hS ?_
    refine tkS 27 hS ?_
    refine wpAnyH_ready (rs := [25]) (by kernel_rfl) (by simp) ?_
    refine AllReadyH.cons rfl (fun K hK => ?_) AllReadyH.nil
    go_simp
    refine (HL1.out _ hS).mono ?_
    rintro e y9 ⟨rfl, hb9⟩
    have hb : True := trivial
    have HS5 := Lib.hid (hS.trans (hb9.mono hS.size))
    clear hb9
    refine hK.out _ _ (HS5.out) (fun hT => ?_)
    clear hK hb hS
    have hS := hT
    clear hT
    refine wpAnyH_ready (rs := [28]) (by kernel_rfl) (by simp) ?_
    refine AllReadyH.cons rfl (fun K hK => ?_) AllReadyH.nil
    go_simp
    refine (HL2.out _ hS).mono ?_
    rintro e y9 ⟨rfl, hb9⟩
    have hb : True := trivial
    have HS5 := Lib.hid (hS.trans (hb9.mono hS.size))
    clear hb9
    refine hK.out _ _ (HS5.out) (fun hT => ?_)
    clear hK hb hS
    have hS := hT
    clear hT
    refine tkS (v := .bool true) 29 hS ?_ (hy := by intro wz hz; have q1 : wz.cell? ⟨gB, 1, none⟩ = some (.slice PA pn pc) := (HBX.out wz hz).cell 1; (go_simp <;> first | rfl | simp))
    refine tkS 30 hS ?_
    refine tkS 31 hS ?_
    refine wpAnyH_ready (rs := [32]) (by kernel_rfl) (by simp) ?_
    refine AllReadyH.cons rfl (fun K hK => ?_) AllReadyH.nil
    go_simp
    refine (works_any _).mono ?_
    rintro e y9 ⟨rfl, hb9⟩
    have hb : True := trivial
    have HS5 := Lib.hid (hS.trans (hb9.mono hS.size))
    clear hb9
    refine hK.out _ _ (HS5.out) (fun hT => ?_)
    clear hK hb hS
    have hS := hT
    clear hT
    refine tkS 33 hS ?_
    refine tkS 34 hS ?_
    refine wpAnyH_done (by kernel_rfl) ?_ _
    have HE := Lib.hid (HW.out.bel.call hS)
    clear hS
    go_wp2_with fail
    go_ret
    exact ⟨rfl, HE.out⟩
end Go.Proofs.Ytpffnjnncgmgnaa

namespace Go.Proofs.Ytpffnjnncgmgnaa
open Go.RowKit Go.Deep Go.Joins Go.ChangeShapes Go.WideShapes
set_option maxRecDepth 20000

theorem ceI : Try.prog.cellsOf 3 = 1 := by kernel_rfl
theorem ceB : Try.prog.cellsOf 4 = 1 := by kernel_rfl
theorem ceS : Try.prog.cellsOf 9 = 1 := by kernel_rfl
theorem ceU : Try.prog.cellsOf 23 = 1 := by kernel_rfl
theorem ceU4 : Try.prog.cellsOf 50 = 1 := by kernel_rfl
theorem ceR : Try.prog.cellsOf 52 = 6 := by kernel_rfl
theorem ceO : Try.prog.cellsOf 59 = 7 := by kernel_rfl
theorem wfIn {k : IntKind} {n : Int} (h : (Lit.int k n).wf = true) : k.min ≤ n ∧ n ≤ k.max := by
  unfold Lit.wf at h
  simpa using h
theorem wfU8 {n : Int} (h : (Lit.int .u8 n).wf = true) : ∃ k : Nat, n = k ∧ k < 256 := by
  have h2 := wfIn h
  rw [show IntKind.u8.min = 0 by decide, show IntKind.u8.max = 255 by decide] at h2
  exact ⟨n.toNat, by omega, by omega⟩
theorem wfU64 {n : Int} (h : (Lit.int .u64 n).wf = true) : ∃ k : Nat, n = k ∧ k < 18446744073709551616 := by
  have h2 := wfIn h
  rw [show IntKind.u64.min = 0 by decide, show IntKind.u64.max = 18446744073709551615 by decide] at h2
  exact ⟨n.toNat, by omega, by omega⟩
theorem wfU32 {n : Int} (h : (Lit.int .u32 n).wf = true) : ∃ k : Nat, n = k ∧ k < 4294967296 := by
  have h2 := wfIn h
  rw [show IntKind.u32.min = 0 by decide, show IntKind.u32.max = 4294967295 by decide] at h2
  exact ⟨n.toNat, by omega, by omega⟩
theorem six_of {α : Type} {l : List α} (h : l.length = 6) : ∃ a b c d e f, l = [a, b, c, d, e, f] := by
  match l, h with
  | [a, b, c, d, e, f], _ => exact ⟨a, b, c, d, e, f, rfl⟩
theorem plain_addr {W : World} {a : Addr} {v : Value} (h : W.cell? (a.add 0) = some v) : ∃ b off, a = ⟨b, off, none⟩ := by
  obtain ⟨b, off, spot⟩ := a
  have hs : spot = none := by simpa [Addr.add] using World.cell?_spot h
  subst hs
  exact ⟨b, off, rfl⟩
theorem opsL_at : ∀ (l : List Op13) (j : Nat) (v : Value), (opsL l)[j]? = some v → ∃ (hk : j / 7 < l.length), (opL l[j / 7])[j % 7]? = some v
  | [], j, v, h => by simp [opsL] at h
  | s :: r, j, v, h => by
    have h : (opL s ++ opsL r)[j]? = some v := by simpa [opsL] using h
    by_cases hj : j < 7
    · rw [List.getElem?_append_left (by rw [opL_length]; exact hj)] at h
      refine ⟨by rw [Nat.div_eq_of_lt hj]; simp, ?_⟩
      simp only [Nat.div_eq_of_lt hj, Nat.mod_eq_of_lt hj, List.getElem_cons_zero]
      exact h
    · rw [List.getElem?_append_right (by rw [opL_length]; omega), opL_length] at h
      obtain ⟨hk, h2⟩ := opsL_at r (j - 7) v h
      have e1 : j / 7 = (j - 7) / 7 + 1 := by omega
      have e2 : j % 7 = (j - 7) % 7 := by omega
      refine ⟨by rw [e1]; simpa using hk, ?_⟩
      simp only [e1, e2, List.getElem_cons_succ]
      exact h2
instance : Inhabited Op13 := ⟨⟨0, zrc⟩⟩
theorem pick_lt {n : Nat} {α : Type} [Inhabited α] {p : Nat → α → Prop} (h : ∀ i, i < n → ∃ a, p i a) : ∃ F : Nat → α, ∀ i, i < n → p i (F i) :=
  ⟨fun i => if hi : i < n then (h i hi).choose else default, fun i hi => by simp only [hi, dif_pos]; exact (h i hi).choose_spec⟩
section
variable {H : Type} {enc : TypeId × Value → H} {W : World} {spare : Nat → Bool} {held : Bool} {fuel : Nat} {cs : List Value} {x : DataW H × List MemPlace}
theorem inU (h : DataW.trod enc Try.prog W 0 spare held fuel 23 cs = some x) : ∃ n : Nat, cs = [.int .u64 (n : Int)] ∧ n < 18446744073709551616 := by
  obtain ⟨z, e, _, wf⟩ := DataW.trod_int Try.underlying23 h
  obtain ⟨k, rfl, hk⟩ := wfU64 wf
  exact ⟨k, e, hk⟩
theorem inU4 (h : DataW.trod enc Try.prog W 0 spare held fuel 50 cs = some x) : ∃ n : Nat, cs = [.int .u32 (n : Int)] ∧ n < 4294967296 := by
  obtain ⟨z, e, _, wf⟩ := DataW.trod_int Try.underlying50 h
  obtain ⟨k, rfl, hk⟩ := wfU32 wf
  exact ⟨k, e, hk⟩
theorem inI (h : DataW.trod enc Try.prog W 0 spare held fuel 3 cs = some x) : ∃ z : Int, cs = [.int .i64 z] := by
  obtain ⟨z, e, _, _⟩ := DataW.trod_int Try.underlying3 h
  exact ⟨z, e⟩
theorem inS (h : DataW.trod enc Try.prog W 0 spare held fuel 9 cs = some x) : ∃ l : List UInt8, cs = [.string (strOf l)] ∧ l.length ≤ maxLen := by
  obtain ⟨s, e, _, hs⟩ := DataW.trod_string Try.underlying9 h
  refine ⟨s.data.toList, by rw [e]; rfl, ?_⟩
  have : s.data.toList.length = s.size := Array.length_toList
  omega
theorem rc_of (h : DataW.trod enc Try.prog W 0 spare held fuel 52 cs = some x) : ∃ r : Rc, r.ok ∧ cs = rcL r := by
  obtain ⟨xs, n, _, _, hl, hxl, hf⟩ := DataW.trod_struct Try.underlying52 h
  rw [ceR] at hl
  obtain ⟨v0, v1, v2, v3, v4, v5, rfl⟩ := six_of hl
  obtain ⟨y0, y1, y2, y3, y4, y5, rfl⟩ := six_of hxl
  have g0 := hf 0 _ rfl
  have g1 := hf 1 _ rfl
  have g2 := hf 2 _ rfl
  have g3 := hf 3 _ rfl
  have g4 := hf 4 _ rfl
  have g5 := hf 5 _ rfl
  simp [ceU, ceU4, ceS, ceB] at g0 g1 g2 g3 g4 g5
  obtain ⟨id, e0, b0⟩ := inU g0
  obtain ⟨key, e1, b1⟩ := inU g1
  obtain ⟨a, e2, b2⟩ := inU4 g2
  obtain ⟨b, e3, b3⟩ := inU4 g3
  obtain ⟨l, e4, b4⟩ := inS g4
  obtain ⟨gh, e5, _⟩ := DataW.trod_bool Try.underlying4 g5
  injection e0 with e0
  injection e1 with e1
  injection e2 with e2
  injection e3 with e3
  injection e4 with e4
  injection e5 with e5
  subst e0 e1 e2 e3 e4 e5
  exact ⟨⟨id, key, a, b, l, gh⟩, ⟨b0, b1, b2, b3⟩, rfl⟩
theorem op_of (h : DataW.trod enc Try.prog W 0 spare held fuel 59 cs = some x) : ∃ o : Op13, o.r.ok ∧ cs = opL o := by
  obtain ⟨y0, y1, n, _, hl, g0, g1⟩ := trod_struct2 Try.underlying59 h
  rw [ceO] at hl
  simp [ceI, ceR] at g0 g1
  obtain ⟨z, e0⟩ := inI g0
  obtain ⟨r, hr, e1⟩ := rc_of g1
  refine ⟨⟨z, r⟩, hr, ?_⟩
  match cs, hl with
  | v :: t, hl =>
    simp at hl e0 e1
    rw [List.take_of_length_le (by omega)] at e1
    rw [e0, e1]
    rfl
end
theorem ops_of {H : Type} {enc : TypeId × Value → H} {W : World} {spare : Nat → Bool} {held : Bool} {A : Option Addr} {len cap : Nat} {d : DataW H} {p : List MemPlace}
    (h : DataW.Trod enc Try.prog W 0 spare held 22 (.slice A len cap) d p) : ∃ l : List Op13, Lz NoX W 7 A len (opsL l) ∧ (∀ o ∈ l, o.r.ok) ∧ len ≤ maxLen := by
  obtain ⟨fuel, hf⟩ := h
  rcases open_slice Try.underlying22 hf with ⟨hcs, _⟩ | ⟨a, len', cap', m, n, D, Pl, hcs, _, hl, hm, hmm, _, hi⟩
  · simp [Value.cells] at hcs
    obtain ⟨rfl, rfl, rfl⟩ := hcs
    exact ⟨[], Lz.empty, fun o h => by simp at h, by simp [maxLen]⟩
  · simp [Value.cells] at hcs
    obtain ⟨rfl, rfl, rfl⟩ := hcs
    have hlm : len ≤ m := by rw [hmm]; split <;> omega
    by_cases hl0 : len = 0
    · subst hl0
      exact ⟨[], Lz.empty, fun o h => by simp at h, by simp [maxLen]⟩
    rw [ceO] at hi
    have each : ∀ i, i < len → ∃ s : Op13, s.r.ok ∧ ∀ j, j < 7 → W.cell? ((a.add (i * 7)).add j) = (opL s)[j]? := fun i hlt => by
      obtain ⟨cs', h1, h2⟩ := hi i (by omega)
      obtain ⟨_, hlen, hcell⟩ := World.cells?_some h1
      obtain ⟨s, hs, rfl⟩ := op_of h2
      exact ⟨s, hs, fun j hj => by rw [hcell j (by omega)]⟩
    obtain ⟨F, hF⟩ := pick_lt each
    have hlen : ((List.range len).map F).length = len := by simp
    have g0 : ∀ s : Op13, (opL s)[0]? = some (.int .i64 s.kind) := fun s => rfl
    obtain ⟨b, off, rfl⟩ : ∃ b off, a = ⟨b, off, none⟩ := by
      have := (hF 0 (by omega)).2 0 (by omega)
      rw [Nat.zero_mul, Go.Deep.add_add, g0] at this
      exact plain_addr this
    refine ⟨(List.range len).map F, ⟨by rw [opsL_length, hlen], fun _ => ⟨b, off, rfl, fun h => h, ?_, fun j v hv => ?_⟩⟩, fun o ho => ?_, by omega⟩
    · have := (hF 0 (by omega)).2 0 (by omega)
      rw [g0] at this
      have := World.block_lt_of_cell? W _ this
      rwa [add_block, add_block] at this
    · obtain ⟨hk, hv2⟩ := opsL_at _ j v hv
      have hk' : j / 7 < len := by rwa [hlen] at hk
      have h3 := (hF (j / 7) hk').2 (j % 7) (Nat.mod_lt _ (by omega))
      rw [add_plain, add_plain, Nat.add_assoc, show j / 7 * 7 + j % 7 = j by omega] at h3
      rw [h3, ← hv2]
      simp
    · obtain ⟨i, hi', rfl⟩ := List.mem_map.1 ho
      exact (hF i (by have := List.mem_range.1 hi'; omega)).1
end Go.Proofs.Ytpffnjnncgmgnaa

namespace Go.Proofs.Ytpffnjnncgmgnaa.bucketDoes
open Go.ChangeShapes Go.WideShapes Go.ChangeAt Go.RowKit
set_option linter.unusedVariables false

theorem own : ownKnob Try.prog.godebug = none := by kernel_rfl
theorem laidOut : laidOutB Try.prog = true := by kernel_rfl

set_option maxRecDepth 100000 in
theorem lifted (os : Os) (started : os.Started) (H : Type) (enc : TypeId × Value → H) :
    ReturnsInHanded {} Try.checked os 3 .any (Rows.bucketDoesSpec.pre6 enc Try.prog Try.f3 Rows.bucketDoesRow.domain false) (Rows.bucketDoesSpec.post enc Try.prog Try.f3 false true false false) := by
  refine returnsInHanded_of_change (C := Try.checked) own started (by kernel_rfl) Try.func3
    (ChangeSpec.witness6 (enc := enc) (C := Try.checked) false ⟨#[], #[.int .u8 0, .slice none 0 0, .int .u64 0, .int .u64 0], []⟩ 8 (by kernel_rfl) (by kernel_rfl) (by kernel_rfl) (by kernel_rfl)) ?_
  intro W base args ds gs before hval0 hW hcnd _
  have hval : ∀ (j : Nat) t v, Try.f3.params[j]? = some t → args[j]? = some v → Value.okWide Try.prog W .any base t v := hval0
  have hW' := hW
  obtain ⟨p, q, hA0, hV, rfl, hfz, hnd⟩ := hW
  have hA : DataW.TrodAll enc Try.prog W 0 (fun _ => true) true Try.f3.params.toList args.toList ds p := hA0
  rw [Try.params3] at hA hval
  obtain ⟨v0, vs0, d0, ds0, p0, q0, hargs, rfl, rfl, h0, r0⟩ := trodAll_cons hA
  obtain ⟨v1, vs1, d1, ds1, p1, q1, rfl, rfl, rfl, h1, r1⟩ := trodAll_cons r0
  obtain ⟨v2, vs2, d2, ds2, p2, q2, rfl, rfl, rfl, h2, r2⟩ := trodAll_cons r1
  obtain ⟨v3, vs3, d3, ds3, p3, q3, rfl, rfl, rfl, h3, r3⟩ := trodAll_cons r2
  obtain ⟨rfl, rfl, rfl⟩ := trodAll_nil r3
  obtain rfl : args = #[v0, v1, v2, v3] := by cases args; simp_all
  obtain ⟨rfl, rfl⟩ := trodVars_none hV
  obtain ⟨a0, rfl, rfl, rfl, w0⟩ := open_int Try.underlying5 (hval 0 5 v0 rfl rfl) h0
  obtain ⟨n0, rfl, u0⟩ := wfU8 w0
  obtain ⟨A1, len1, cap1, rfl⟩ := okWide_slice Try.underlying22 (hval 1 22 v1 rfl rfl)
  have k1 := h1
  have lt1 : ∀ x ∈ p1, x.block < W.heap.size := by obtain ⟨m, hm⟩ := k1; exact DataW.trod_lt m _ _ _ hm
  obtain ⟨L, hL, hU, _⟩ := ops_of h1
  obtain ⟨a2, rfl, rfl, rfl, w2⟩ := open_int Try.underlying23 (hval 2 23 v2 rfl rfl) h2
  obtain ⟨n2, rfl, u2⟩ := wfU64 w2
  obtain ⟨a3, rfl, rfl, rfl, w3⟩ := open_int Try.underlying23 (hval 3 23 v3 rfl rfl) h3
  obtain ⟨n3, rfl, u3⟩ := wfU64 w3
  clear hA0 hval0
  refine (Does_any n0 A1 len1 cap1 L n2 n3 W u0 hL hU).mono fun e W' ⟨he, bel⟩ => ?_
  subst he
  exact ⟨_, rfl, _, _, _, [], _, [], hW', trodAll_mk1 (shut_bool Try.underlying4 _), (trodAll_cons_mk (shut_int Try.underlying5 w0) (trodAll_cons_mk (Below.trod laidOut (by kernel_rfl) (of_decide_eq_true (by kernel_rfl)) k1 bel lt1) (trodAll_cons_mk (shut_int Try.underlying23 w2) (trodAll_cons_mk (shut_int Try.underlying23 w3) trodAll_mk0)))), rfl, bel.frame _, fun h => by cases h⟩

theorem over : Rows.bucketDoesRow.holds Try.pinned (OpenSpec.ofChange Rows.bucketDoesSpec) :=
  OpenClaim.holds_of_wide 3 Try.f3 rfl rfl rfl rfl rfl rfl rfl ⟨rfl, rfl, rfl, rfl, rfl⟩ rfl rfl rfl rfl rfl (by kernel_rfl) Try.func3 (by kernel_rfl)
    (of_decide_eq_true (by kernel_rfl)) (by unfold Func.isWrapper; first | (rw [if_pos (by decide +kernel)]; kernel_rfl) | (rw [if_neg (by decide +kernel)]; exact ⟨rfl, rfl⟩))
    (fun os started H enc _ => lifted os started H enc)

theorem proved : Rows.BucketDoesSaid := over
end Go.Proofs.Ytpffnjnncgmgnaa.bucketDoes
