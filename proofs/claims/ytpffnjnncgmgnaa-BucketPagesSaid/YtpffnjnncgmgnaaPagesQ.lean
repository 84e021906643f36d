/-
  For every depth, every number of pages and every list of acts the law BucketPages returns true and leaves its arguments as they were.
  Conditions: none.
-/
import Derived.Test.YtpffnjnncgmgnaaB26
import Derived.Test.YtpffnjnncgmgnaaB30
import Derived.Test.YtpffnjnncgmgnaaB28
import Derived.Test.YtpffnjnncgmgnaaB33
import Derived.Test.YtpffnjnncgmgnaaB22
import Derived.Deep.Slices
import Derived.Lib.SmallJoins
import Derived.OpenShut
import Derived.WideShapes
import Derived.ProofKit
import Derived.Test.YtpffnjnncgmgnaaRows
import Derived.WalkKit
import Derived.ShutString
import Derived.ChangeOld
import Derived.Below
namespace Go.Proofs.Ytpffnjnncgmgnaa
open Go.RowKit
set_option maxRecDepth 20000

/-- What the law's function tells of images. -/
def fP (l : List Im) (n : Int) : Pg × Bool := match l.find? (fun i => i.page == n) with | some i => (i.p, true) | none => (zpg, false)
structure PsOk (ps : List Int) : Prop where
  one : ps.Nodup
  page : ∀ p ∈ ps, 1 ≤ p ∧ p ≤ 255
  pos : 0 < ps.length
  few : ps.length ≤ 8
theorem getD_lt {ps : List Int} {k : Nat} (hk : k < ps.length) : ps.getD k 0 = ps[k] := by simp [hk]
theorem getD_ge {ps : List Int} {k : Nat} (hk : ps.length ≤ k) : ps.getD k 0 = 0 := by simp [hk]
theorem PsOk.ok {d : Nat} {ps : List Int} {rs : List Rc} (h : PsOk ps) (hd : d ≤ 6) (hg : GoodB ps.length rs) : PutOk d ps rs :=
  ⟨hd, fun p hp => h.page p hp, hg.len, hg.recs⟩
theorem fP_at {d : Nat} {ps : List Int} {rs : List Rc} (h : PsOk ps) {k : Nat} (hk : k < ps.length) : fP (putI d ps rs) (ps.getD k 0) = (pageP d (ps.getD (k + 1) 0).toNat (chunk rs k), true) := by
  have : (putI d ps rs).find? (fun i => i.page == ps.getD k 0) = some (pgK d ps rs k) := by
    rw [List.find?_eq_some_iff_getElem]
    refine ⟨by simp [pgK], k, by simp [putI, putK]; exact hk, by simp [putI, putK], fun j hj => ?_⟩
    have hj2 : j < ps.length := by omega
    simp only [putI, putK, List.getElem_map, List.getElem_range, pgK, getD_lt hj2, getD_lt hk]
    simp only [Bool.not_eq_true', beq_eq_false_iff_ne, ne_eq]
    intro e
    have := nodup_inj h.one hj2 hk e
    omega
  unfold fP
  rw [this]
  rfl
section
variable {d : Nat} {ps : List Int} {rs : List Rc}
theorem next_num (h : PsOk ps) (k : Nat) : ((ps.getD k 0).toNat : Int) = ps.getD k 0 ∧ (ps.getD k 0).toNat < 256 := by
  by_cases hk : k < ps.length
  · rw [getD_lt hk]
    have := h.page _ (List.getElem_mem hk)
    omega
  · rw [getD_ge (by omega)]
    simp
theorem gN_chain (h : PsOk ps) (hd : d ≤ 6) (hg : GoodB ps.length rs) : ∀ k, k ≤ ps.length → gN (fP (putI d ps rs)) (ps.getD 0 0) k = ps.getD k 0
  | 0, _ => rfl
  | k + 1, hk => by
    show (rdNext (fP (putI d ps rs) (gN _ _ k)).1 : Int) = _
    rw [gN_chain h hd hg k (by omega), fP_at h (by omega)]
    rw [(read_back d _ _ (chunk_fits (h.ok hd hg) k) (by omega) (next_num h (k + 1)).2).2.2.1]
    exact (next_num h (k + 1)).1
theorem chunks_all (rs : List Rc) : ∀ k, (List.range k).flatMap (chunk rs) = rs.take (5 * k)
  | 0 => by simp
  | k + 1 => by
    rw [List.range_succ, List.flatMap_append, chunks_all rs k]
    simp only [List.flatMap_cons, List.flatMap_nil, List.append_nil, chunk]
    rw [show 5 * (k + 1) = 5 * k + 5 by omega, List.take_add]
theorem gPs_chain (h : PsOk ps) (hd : d ≤ 6) (hg : GoodB ps.length rs) : gPs (fP (putI d ps rs)) (ps.getD 0 0) ps.length = ps := by
  refine List.ext_getElem (by simp [gPs]) fun i h1 h2 => ?_
  simp only [gPs, List.getElem_map, List.getElem_range]
  rw [gN_chain h hd hg i (by omega), getD_lt h2]
theorem gIm_chain (h : PsOk ps) (hd : d ≤ 6) (hg : GoodB ps.length rs) : gIm (fP (putI d ps rs)) (ps.getD 0 0) ps.length = putI d ps rs := by
  refine List.ext_getElem (by simp [gIm, putI, putK]) fun i h1 h2 => ?_
  have hi : i < ps.length := by simpa [gIm] using h1
  have e : (putI d ps rs)[i] = pgK d ps rs i := by simp [putI, putK]
  rw [e]
  simp only [gIm, List.getElem_map, List.getElem_range]
  rw [gN_chain h hd hg i (by omega), fP_at h hi]
  rfl
theorem gRs_chain (h : PsOk ps) (hd : d ≤ 6) (hg : GoodB ps.length rs) : gRs (fP (putI d ps rs)) (ps.getD 0 0) ps.length = rs := by
  have : gRs (fP (putI d ps rs)) (ps.getD 0 0) ps.length = (List.range ps.length).flatMap (chunk rs) := by
    unfold gRs
    rw [List.flatMap_def, List.flatMap_def]
    congr 1
    apply List.map_congr_left
    intro j hj
    have hj := List.mem_range.1 hj
    rw [gN_chain h hd hg j (by omega), fP_at h hj]
    exact (read_back d _ _ (chunk_fits (h.ok hd hg) j) (by omega) (next_num h (j + 1)).2).2.2.2
  rw [this, chunks_all, List.take_of_length_le hg.len]
theorem gD_chain (h : PsOk ps) (hd : d ≤ 6) (hg : GoodB ps.length rs) : gD (fP (putI d ps rs)) (ps.getD 0 0) ps.length = (d : Int) := by
  obtain ⟨k, hk⟩ : ∃ k, ps.length = k + 1 := ⟨ps.length - 1, by have := h.pos; omega⟩
  rw [hk]
  show (rdDepth (fP (putI d ps rs) (gN _ _ k)).1 : Int) = _
  rw [gN_chain h hd hg k (by omega), fP_at h (by omega)]
  rw [(read_back d _ _ (chunk_fits (h.ok hd hg) k) (by omega) (next_num h (k + 1)).2).2.1]
theorem putG_chain (h : PsOk ps) (hd : d ≤ 6) (hg : GoodB ps.length rs) : putG (d : Int) ps rs = putI d ps rs := by
  unfold putG
  rw [if_pos (h.ok hd hg).right]
  rfl
theorem get_chain (h : PsOk ps) (hd : d ≤ 6) (hg : GoodB ps.length rs) : GetAt (fP (putI d ps rs)) (ps.getD 0 0) ps.length := by
  refine ⟨h.few, ?_, fun j hj => ?_, ?_, ?_⟩
  · rw [getD_lt h.pos]
    have := h.page _ (List.getElem_mem h.pos)
    simp [pageB]
    omega
  · rw [gN_chain h hd hg j (by omega), fP_at h hj, getD_lt hj]
    refine ⟨by have := h.page _ (List.getElem_mem hj); omega, rfl, (read_back d _ _ (chunk_fits (h.ok hd hg) j) (by omega) (next_num h (j + 1)).2).1⟩
  · rw [gN_chain h hd hg _ (Nat.le_refl _), getD_ge (Nat.le_refl _)]
  · rw [gD_chain h hd hg, gPs_chain h hd hg, gRs_chain h hd hg, gIm_chain h hd hg, putG_chain h hd hg]
end
theorem psOk_small (n : Nat) : PsOk (smallP n) := by
  have h4 : n % 4 = 0 ∨ n % 4 = 1 ∨ n % 4 = 2 ∨ n % 4 = 3 := by omega
  have : smallP n = [10] ∨ smallP n = [10, 13] ∨ smallP n = [10, 13, 16] ∨ smallP n = [10, 13, 16, 19] := by
    unfold smallP
    rcases h4 with h | h | h | h <;> rw [h]
    · exact .inl rfl
    · exact .inr (.inl rfl)
    · exact .inr (.inr (.inl rfl))
    · exact .inr (.inr (.inr rfl))
  rcases this with h | h | h | h <;> rw [h] <;> exact ⟨by decide, by decide, by decide, by decide⟩
end Go.Proofs.Ytpffnjnncgmgnaa

namespace Go.Proofs.Ytpffnjnncgmgnaa
open Go.RowKit
attribute [local go_sem] Oper.semAt_some
set_option maxRecDepth 20000

/-- What a law holds behind its acts. -/
structure LwS (w : World) (g : Nat) (d : Int) (ps : List Int) (pn : Nat) (rs : List Rc) (rn : Nat) (PA : Option Addr) (pc : Nat) (RA : Option Addr) (rc : Nat) (A7 : Option Addr) (y : World) : Prop where
  box : At y g 29 (bkA d (.slice PA pn pc) (.slice RA rn rc))
  bk : BkL y PA pn RA rn ps rs
  cap : rn ≤ rc
  ref : Lz NoX y 6 A7 rn (rcsL rs)
  bel : BelO w y
theorem LwS.call {w y z : World} {g : Nat} {d : Int} {ps : List Int} {pn rn pc rc : Nat} {rs : List Rc} {PA RA A7 : Option Addr} (h : LwS w g d ps pn rs rn PA pc RA rc A7 y) (hb : Below y.heap.size y z) : LwS w g d ps pn rs rn PA pc RA rc A7 z :=
  ⟨h.box.under hb h.box.lt, h.bk.below hb, h.cap, h.ref.below hb, h.bel.call hb⟩
theorem LwS.new {w y : World} {d : Int} {ps : List Int} {pn rn pc rc : Nat} {rs : List Rc} {PA RA A7 : Option Addr} (hw : BelO w y) (h1 : BkL y PA pn RA rn ps rs) (h2 : rn ≤ rc) (h3 : Lz NoX y 6 A7 rn (rcsL rs)) :
    LwS w y.heap.size d ps pn rs rn PA pc RA rc A7 (y.alloc (.cells (bkA d (.slice PA pn pc) (.slice RA rn rc)) 29)) :=
  have hk := (Below.refl y.heap.size y).alloc (Nat.le_refl _) (.cells (bkA d (.slice PA pn pc) (.slice RA rn rc)) 29)
  ⟨At.new y 29 _, h1.below hk, h2, h3.below hk, hw.call hk⟩
/-- The pages of small, by names. -/
theorem small_named (n : Nat) (w : World) (hn : n < 256) (ps : List Int) (pn : Nat) (h1 : smallP n = ps) (h2 : ps.length = pn) : Calls Try.prog 10 #[.int .u8 (n : Int)] w (fun e z => ∃ A c, e = .returned (.slice A pn c) ∧ Lz NoX z 1 A pn (ICs ps) ∧ Below w.heap.size w z) := by
  refine (small_any n w hn).mono ?_
  rintro e z ⟨A, c, rfl, h, hb⟩
  subst h1 h2
  exact ⟨A, c, rfl, Lz.of_own h (fun _ h => h.elim), hb⟩
theorem light_len {l : List Op13} (h : lightB l = true) : l.length ≤ 60 ∧ ∀ o ∈ l, o.r.val.length ≤ 100 := by
  unfold lightB at h
  rw [Bool.and_eq_true, decide_eq_true_eq, List.all_eq_true] at h
  exact ⟨h.1, fun o ho => of_decide_eq_true (h.2 o ho)⟩
set_option maxHeartbeats 12800000 in
theorem Does_any (n8 : Nat) (A : Option Addr) (n c : Nat) (l : List Op13) (id key : Nat) (w : World) (h8 : n8 < 256) (hL : Lz NoX w 7 A n (opsL l)) (hok : ∀ o ∈ l, o.r.ok) :
    Calls Try.prog 3 #[.int .u8 (n8 : Int), .slice A n c, .int .u64 (id : Int), .int .u64 (key : Int)] w (RetV w (.bool true)) := by
  have HL := Lib.hid hL
  have HLN := Lib.hid hL.oplen
  have HOK := Lib.hid hok
  clear hL hok
  obtain ⟨lb, hlb⟩ : ∃ lb, lightB l = lb := ⟨_, rfl⟩
  have HLB := Lib.hid hlb
  cases lb
  · clear hlb
    go_enter Try.func3, Try.ntmps3
    go_wp2_with (first
      | (go_at_call 7; refine (light_any A n c l w HL.out).mono ?_; rintro e z ⟨rfl, rfl⟩; rw [HLB.out])
      | (go_at_call 8; refine (works_any _).mono ?_; rintro e z ⟨rfl, hk⟩; have HB4 := Lib.hid hk; clear hk))
    go_ret
    exact ⟨rfl, HB4.out⟩
  · obtain ⟨hn60, hval⟩ := light_len hlb
    rw [HLN.out] at hn60
    obtain ⟨ps, hps⟩ : ∃ ps, smallP n8 = ps := ⟨_, rfl⟩
    obtain ⟨pn, hpn⟩ : ∃ pn, ps.length = pn := ⟨_, rfl⟩
    have hp4 : pn ≤ 4 := by rw [← hpn, ← hps, smallP_length]; omega
    obtain ⟨rs, hrs⟩ : ∃ rs, madeR pn l n = rs := ⟨_, rfl⟩
    obtain ⟨rn, hrn⟩ : ∃ rn, rs.length = rn := ⟨_, rfl⟩
    have hrn2 : rn ≤ 20 := by
      have := (good_made (pn := pn) HOK.out n (by rw [HLN.out]; exact Nat.le_refl _)).len
      rw [hrs, hrn] at this
      omega
    have HPS := Lib.hid hps
    have HPN := Lib.hid hpn
    have HRS := Lib.hid hrs
    have HRN := Lib.hid hrn
    have HVL := Lib.hid hval
    clear hlb hps hpn hrs hrn hval
    go_enter Try.func3, Try.ntmps3
    go_upto_region 4 with (first
      | (go_at_call 7; refine (light_any A n c l w HL.out).mono ?_; rintro e z ⟨rfl, rfl⟩; rw [HLB.out])
      | (go_at_call 10; refine (small_named n8 z h8 ps pn HPS.out HPN.out).mono ?_; rintro e z1 ⟨A5, c5, rfl, h5, hb1⟩; have H5 := Lib.hid h5; have HB1 : Hid (BelO z z1) := hb1; clear h5 hb1)
      | (go_at_call 9; refine (made_any 0 A5 pn c5 ps A n c l z1 H5.out (HL.out.below HB1.out) HOK.out HVL.out (by omega) hn60 rs rn HRS.out HRN.out).mono ?_; rintro e z2 ⟨PA, pc, RA, rc, A7, c7, rfl, h1, h2, h3, hc7, hb2⟩; have H1 := Lib.hid h1; have H3 := Lib.hid h3; have HB2 := Lib.hid (HB1.out.call hb2); clear h1 h3 hb2)
      | (refine wpList_store_new 29 (.tmp 9) (.tmp 22) rfl rfl rfl z2.heap.size z2 rfl rfl (bkA 0 (.slice PA pn pc) (.slice RA rn rc)) _ 3 rfl strBk rfl rfl (bkA_one _ _ _ _ _ _ _) rfl ?_; have HW := Lib.hid (LwS.new (d := 0) (pc := pc) HB2.out H1.out h2 H3.out)))
    generalize z2.alloc (.cells (bkA 0 (.slice PA pn pc) (.slice RA rn rc)) 29) = y5 at HW ⊢
    generalize z2.heap.size = gB at HW ⊢
    obtain ⟨q, hq⟩ : ∃ q, roomI pn rn = q := ⟨_, rfl⟩
    obtain ⟨f1, hf1⟩ : ∃ f1, idxP (fun r => r.id == id) rs = f1 := ⟨_, rfl⟩
    obtain ⟨f2, hf2⟩ : ∃ f2, idxP (isLive key) rs = f2 := ⟨_, rfl⟩
    have HBX : Hid (∀ wz, Below y5.heap.size y5 wz → At wz gB 29 (bkA 0 (.slice PA pn pc) (.slice RA rn rc))) := fun wz hz => HW.out.box.under hz HW.out.box.lt
    have HRM : Hid (∀ wz, Below y5.heap.size y5 wz → Calls Try.prog 11 #[.agg (bkA 0 (.slice PA pn pc) (.slice RA rn rc))] wz (RetV wz (.int .i64 q))) := fun wz _ => by rw [← hq]; exact Room_any 0 PA pn pc RA rn rc wz (by omega) (by omega)
    have HF1 : Hid (∀ wz, Below y5.heap.size y5 wz → Calls Try.prog 12 #[.agg (bkA 0 (.slice PA pn pc) (.slice RA rn rc)), .int .u64 (id : Int)] wz (RetV wz (.int .i64 f1))) := fun wz hz => by rw [← hf1]; exact Find_any 0 PA pn pc RA rn rc rs id wz (HW.out.bk.below hz).r (by omega)
    have HF2 : Hid (∀ wz, Below y5.heap.size y5 wz → Calls Try.prog 13 #[.slice A7 rn c7, .int .u64 (id : Int)] wz (RetV wz (.int .i64 f1))) := fun wz hz => by rw [← hf1]; exact rFind_any A7 rn c7 rs id wz (HW.out.ref.below hz) (by omega)
    have HL1 : Hid (∀ wz, Below y5.heap.size y5 wz → Calls Try.prog 14 #[.agg (bkA 0 (.slice PA pn pc) (.slice RA rn rc)), .int .u64 (key : Int)] wz (RetV wz (.int .i64 f2))) := fun wz hz => by rw [← hf2]; exact Live_any 0 PA pn pc RA rn rc rs key wz (HW.out.bk.below hz).r (by omega)
    have HL2 : Hid (∀ wz, Below y5.heap.size y5 wz → Calls Try.prog 15 #[.slice A7 rn c7, .int .u64 (key : Int)] wz (RetV wz (.int .i64 f2))) := fun wz hz => by rw [← hf2]; exact rLive_any A7 rn c7 rs key wz (HW.out.ref.below hz) (by omega)
    have hw1 : IntKind.i64.wrap (5 * (pn : Int)) = 5 * (pn : Int) := by rw [IntKind.wrap_i64]; omega
    have hw1' : wrap64 (5 * (pn : Int)) = 5 * (pn : Int) := by unfold wrap64; omega
    have hw2 : wrap64 (5 * (pn : Int) - (rn : Int)) = q := by rw [← hq]; unfold wrap64 roomI; omega
    have hw2' : IntKind.i64.wrap (5 * (pn : Int) - (rn : Int)) = q := by rw [← hq, IntKind.wrap_i64]; unfold roomI; omega
    clear hq hf1 hf2 HL HOK HVL HRS HPS HLN HLB
    refine wp_region_held_drew (S := Below y5.heap.size y5) (by kernel_rfl) (Below.refl _ y5).drew (fun hS => ?_)
    refine tkS 0 hS ?_
    refine tkS 1 hS ?_
    refine tkS (v := .agg (bkA 0 (.slice PA pn pc) (.slice RA rn rc))) 2 hS ?_ (hy := by intro wz hz; have q1 : wz.cell? ⟨gB, 1, none⟩ = some (.slice PA pn pc) := (HBX.out wz hz).cell 1; exact exec_load_at 29 (.tmp 9) rfl gB rfl _ 3 strBk rfl (HBX.out wz hz))
    refine tkS 4 hS ?_
    refine tkS 5 hS ?_ (hy := by intro wz hz; have q1 : wz.cell? ⟨gB, 1, none⟩ = some (.slice PA pn pc) := (HBX.out wz hz).cell 1; go_simp <;> with_reducible rfl)
    refine tkS 6 hS ?_
    refine tkS 7 hS ?_
    refine tkS 8 hS ?_
    refine tkS 9 hS ?_
    refine tkS 10 hS ?_
    refine wpAnyH_ready (rs := [3]) (by kernel_rfl) (by simp) ?_
    refine AllReadyH.cons rfl (fun K hK => ?_) AllReadyH.nil
    go_simp
    refine (HRM.out _ hS).mono ?_
    rintro e y9 ⟨rfl, hb9⟩
    have hb : True := trivial
    have HS5 := Lib.hid (hS.trans (hb9.mono hS.size))
    clear hb9
    refine hK.out _ _ (HS5.out) (fun hT => ?_)
    clear hK hb hS
    have hS := hT
    clear hT
    refine tkS (v := .bool true) 11 hS ?_ (hy := by intro wz hz; have q1 : wz.cell? ⟨gB, 1, none⟩ = some (.slice PA pn pc) := (HBX.out wz hz).cell 1; (go_simp <;> first | rfl | simp))
    refine tkS 12 hS ?_
    refine tkS 13 hS ?_
    refine tkS (v := .agg (bkA 0 (.slice PA pn pc) (.slice RA rn rc))) 14 hS ?_ (hy := by intro wz hz; have q1 : wz.cell? ⟨gB, 1, none⟩ = some (.slice PA pn pc) := (HBX.out wz hz).cell 1; exact exec_load_at 29 (.tmp 9) rfl gB rfl _ 3 strBk rfl (HBX.out wz hz))
    refine tkS 15 hS ?_
    refine tkS 17 hS ?_
    refine tkS 18 hS ?_
    refine wpAnyH_ready (rs := [16]) (by kernel_rfl) (by simp) ?_
    refine AllReadyH.cons rfl (fun K hK => ?_) AllReadyH.nil
    go_simp
    refine (HF1.out _ hS).mono ?_
    rintro e y9 ⟨rfl, hb9⟩
    have hb : True := trivial
    have HS5 := Lib.hid (hS.trans (hb9.mono hS.size))
    clear hb9
    refine hK.out _ _ (HS5.out) (fun hT => ?_)
    clear hK hb hS
    have hS := hT
    clear hT
    refine wpAnyH_ready (rs := [19]) (by kernel_rfl) (by simp) ?_
    refine AllReadyH.cons rfl (fun K hK => ?_) AllReadyH.nil
    go_simp
    refine (HF2.out _ hS).mono ?_
    rintro e y9 ⟨rfl, hb9⟩
    have hb : True := trivial
    have HS5 := Lib.hid (hS.trans (hb9.mono hS.size))
    clear hb9
    refine hK.out _ _ (HS5.out) (fun hT => ?_)
    clear hK hb hS
    have hS := hT
    clear hT
    refine tkS (v := .bool true) 20 hS ?_ (hy := by intro wz hz; have q1 : wz.cell? ⟨gB, 1, none⟩ = some (.slice PA pn pc) := (HBX.out wz hz).cell 1; (go_simp <;> first | rfl | simp))
    refine tkS 21 hS ?_
    refine tkS 22 hS ?_
    refine tkS (v := .agg (bkA 0 (.slice PA pn pc) (.slice RA rn rc))) 23 hS ?_ (hy := by intro wz hz; have q1 : wz.cell? ⟨gB, 1, none⟩ = some (.slice PA pn pc) := (HBX.out wz hz).cell 1; exact exec_load_at 29 (.tmp 9) rfl gB rfl _ 3 strBk rfl (HBX.out wz hz))
    refine tkS 24 hS ?_
    refine tkS 26 hS ?_
    refine tkS 27 hS ?_
    refine wpAnyH_ready (rs := [25]) (by kernel_rfl) (by simp) ?_
    refine AllReadyH.cons rfl (fun K hK => ?_) AllReadyH.nil
    go_simp
    refine (HL1.out _ hS).mono ?_
    rintro e y9 ⟨rfl, hb9⟩
    have hb : True := trivial
    have HS5 := Lib.hid (hS.trans (hb9.mono hS.size))
    clear hb9
    refine hK.out _ _ (HS5.out) (fun hT => ?_)
    clear hK hb hS
    have hS := hT
    clear hT
    refine wpAnyH_ready (rs := [28]) (by kernel_rfl) (by simp) ?_
    refine AllReadyH.cons rfl (fun K hK => ?_) AllReadyH.nil
    go_simp
    refine (HL2.out _ hS).mono ?_
    rintro e y9 ⟨rfl, hb9⟩
    have hb : True := trivial
    have HS5 := Lib.hid (hS.trans (hb9.mono hS.size))
    clear hb9
    refine hK.out _ _ (HS5.out) (fun hT => ?_)
    clear hK hb hS
    have hS := hT
    clear hT
    refine tkS (v := .bool true) 29 hS ?_ (hy := by intro wz hz; have q1 : wz.cell? ⟨gB, 1, none⟩ = some (.slice PA pn pc) := (HBX.out wz hz).cell 1; (go_simp <;> first | rfl | simp))
    refine tkS 30 hS ?_
    refine tkS 31 hS ?_
    refine wpAnyH_ready (rs := [32]) (by kernel_rfl) (by simp) ?_
    refine AllReadyH.cons rfl (fun K hK => ?_) AllReadyH.nil
    go_simp
    refine (works_any _).mono ?_
    rintro e y9 ⟨rfl, hb9⟩
    have hb : True := trivial
    have HS5 := Lib.hid (hS.trans (hb9.mono hS.size))
    clear hb9
    refine hK.out _ _ (HS5.out) (fun hT => ?_)
    clear hK hb hS
    have hS := hT
    clear hT
    refine tkS 33 hS ?_
    refine tkS 34 hS ?_
    refine wpAnyH_done (by kernel_rfl) ?_ _
    have HE := Lib.hid (HW.out.bel.call hS)
    clear hS
    go_wp2_with fail
    go_ret
    exact ⟨rfl, HE.out⟩
end Go.Proofs.Ytpffnjnncgmgnaa

namespace Go.Proofs.Ytpffnjnncgmgnaa
open Go.RowKit
attribute [local go_sem] Oper.semAt_some
set_option maxRecDepth 20000

theorem fP_yes {L : List Im} {n : Int} {k : Nat} (hk : k < L.length) (h : ∀ (j : Nat) (hj : j < L.length), j < k → L[j].page ≠ n) (hp : L[k].page = n) : fP L n = (L[k].p, true) := by
  have : L.find? (fun i => i.page == n) = some L[k] := by
    rw [List.find?_eq_some_iff_getElem]
    exact ⟨by simp [hp], k, hk, rfl, fun j hj => by simp [h j (by omega) hj]⟩
  unfold fP
  rw [this]
theorem fP_no {L : List Im} {n : Int} (h : ∀ (j : Nat) (hj : j < L.length), L[j].page ≠ n) : fP L n = (zpg, false) := by
  have : L.find? (fun i => i.page == n) = none := by
    rw [List.find?_eq_none]
    intro x hx
    obtain ⟨j, hj, rfl⟩ := List.getElem_of_mem hx
    simp [h j hj]
  unfold fP
  rw [this]
set_option maxHeartbeats 3200000 in
theorem pages1_any (L : List Im) (g c m : Nat) (A : Option Addr) (n : Int) (w : World) (h : CelO w g (.slice A m c)) (hl : LIO w A m L) (hm : m ≤ 100) : Calls Try.prog 19 #[.int .i64 n, .pointer (some ⟨g, 0, none⟩)] w (RetAt w (fP L n)) := by
  have HA := Lib.hid (pgNew w)
  have hk := (Below.refl w.heap.size w).alloc (Nat.le_refl _) (.cells Try.zeroCells39 39)
  have HB : Hid (Below w.heap.size w (w.alloc (.cells Try.zeroCells39 39))) := hk
  have HL := Lib.hid (hl.call hk)
  have c1 : (w.alloc (.cells Try.zeroCells39 39)).cell? ⟨g, 0, none⟩ = some (.slice A m c) := h.call hk
  have HLL : Hid (L.length = m) := LI.len hl
  clear h hl hk
  go_enter Try.func19, Try.ntmps19
  go_upto_region 1 with fail
  generalize w.alloc (.cells Try.zeroCells39 39) = w1 at HA HB HL c1 ⊢
  go_wp2_with fail
  go_loopw [4, 5] (fun v4 vi wr => ∃ k : Nat, k ≤ m ∧ v4 = .bool false ∧ vi = .int .i64 (k : Int) ∧ wr = w1 ∧ Hid (∀ (j : Nat) (hj : j < L.length), j < k → L[j].page ≠ n)) (fun _ i _ => m - (intOf i).toNat)
  case atStart => exact ⟨0, Nat.zero_le _, rfl, by go_num, rfl, Lib.hid (fun _ _ h => absurd h (Nat.not_lt_zero _))⟩
  case round =>
    obtain ⟨k, hk, rfl, rfl, rfl, HN⟩ := hrel
    by_cases hlt : k < m
    · obtain ⟨b, o, hkl, rfl, hb, hr⟩ := LI.at HL.out hlt
      obtain ⟨x, hx⟩ : ∃ x, L[k] = x := ⟨_, rfl⟩
      rw [hx] at hr
      have HX : Hid (∀ h : k < L.length, L[k] = x) := fun _ => hx
      have HR := Lib.hid hr
      obtain ⟨pg, hpg⟩ : ∃ pg, x.page = pg := ⟨_, rfl⟩
      have q1 : wr.cell? ⟨b, o + k * 225, none⟩ = some (.int .i64 pg) := by rw [← hpg]; exact im_page hr
      have HPG := Lib.hid hpg
      clear hx hr hpg
      by_cases he : pg = n
      · have HE : Hid (fP L n = (x.p, true)) := by
          show _ = _
          have := fP_yes hkl HN.out (by rw [HX.out, HPG.out]; exact he)
          rw [HX.out] at this
          exact this
        subst he
        go_wp2_with (first
          | (refine wpList_of_exec 23 (.agg (pgA x.p)) rfl rfl (exec_load_pg (.tmp 22) rfl b (o + k * 225 + 1) rfl x (o + k * 225) rfl HR.out) ?_)
          | (refine wpList_store_at 39 (.tmp 3) (.tmp 23) rfl rfl rfl w.heap.size rfl (pgA x.p) (pgA zpg) 224 rfl str49 (pgA_size _) (pgA_size _) (pgA_one _) HA.out ?_; intro w9 h9 g9; have H9 := Lib.hid h9; have HB9 := Lib.hid (HB.out.grown g9 HB.out.size (fun j e => by injection e with e; omega)); clear h9 g9))
        rw [HE.out]
        exact bodyPost_ret (results_at2 (g := w.heap.size) rfl H9.out str49 (pgA_size _) rfl rfl) rfl ⟨rfl, HB9.out⟩
      · have he2 : (pg == n) = false := by simp [he]
        go_wp2_with fail
        go_round
        case rel => exact ⟨k + 1, by omega, by first | rfl | trivial, by go_num, by first | rfl | trivial, Lib.hid fun j hj hjk => by
          by_cases e : j = k
          · subst e
            rw [HX.out, HPG.out]
            exact he
          · exact HN.out j hj (by omega)⟩
        case measure => simp [intOf]; omega
    · obtain rfl : k = m := by omega
      have HE : Hid (fP L n = (zpg, false)) := fP_no fun j hj => HN.out j hj (by have := HLL.out; omega)
      go_wp2_with (refine wpList_store_at 39 (.tmp 3) (.tmp 24) rfl rfl rfl w.heap.size rfl (pgA zpg) (pgA zpg) 224 (congrArg Value.agg zero39) str49 (pgA_size _) (pgA_size _) (pgA_one _) HA.out ?_; intro w9 h9 g9; have H9 := Lib.hid h9; have HB9 := Lib.hid (HB.out.grown g9 HB.out.size (fun j e => by injection e with e; omega)); clear h9 g9)
      rw [HE.out]
      exact bodyPost_ret (results_at2 (g := w.heap.size) rfl H9.out str49 (pgA_size _) rfl rfl) rfl ⟨rfl, HB9.out⟩
theorem ent_pages1 : ∀ args w, (callFunc 19 args).run Try.prog w = .ok (.enter 19 args) w := enters_of Try.func19 (by kernel_rfl) rfl
/-- Get over the pages that Put made. -/
theorem GetP {d : Nat} {ps : List Int} {pn rn : Nat} {rs : List Rc} (hps : PsOk ps) (hpn : ps.length = pn) (hd : d ≤ 6) (hg : GoodB pn rs) (hrn : rs.length = rn) (first : Int) (hf : ps.getD 0 0 = first) (g c : Nat) (A : Option Addr) (w : World) (h : CelO w g (.slice A pn c)) (hl : LIO w A pn (putI d ps rs)) :
    Calls Try.prog 18 #[.int .i64 first, .func (.func 19) #[] #[.pointer (some ⟨g, 0, none⟩)]] w (fun e z => ∃ AP cP AR cR, e = .returned (.tuple #[.agg (bkA (d : Int) (.slice AP pn cP) (.slice AR rn cR)), .bool true]) ∧ z.ownsRow w.heap.size 3 1 (.slice AP pn cP) pn (ICs ps) ∧ z.ownsRow w.heap.size 52 6 (.slice AR rn cR) rn (rcsL rs) ∧ Below w.heap.size w z) := by
  subst hpn hrn hf
  refine (Get_any 19 #[.pointer (some ⟨g, 0, none⟩)] (fP (putI d ps rs)) (ps.getD 0 0) w ent_pages1 (fun W n hW => pages1_any (putI d ps rs) g c ps.length A n W (h.call hW) (hl.call hW) (by have := hps.few; omega))).mono ?_
  have hG := get_chain hps hd hg
  rintro e z ⟨hb, ⟨k, hk, AP, cP, AR, cR, he, h1, h2⟩ | ⟨hno, _⟩⟩
  · obtain rfl := hk.one hG.2.2.1 hG.2.2.2.1
    rw [gPs_chain hps hd hg] at he h1
    rw [gRs_chain hps hd hg] at he h2
    rw [gD_chain hps hd hg] at he
    exact ⟨AP, cP, AR, cR, he, h1, h2, hb⟩
  · exact absurd ⟨_, hG⟩ hno
/-- r[a:b] of records. -/
def cutA (A : Option Addr) (c a : Nat) : Option Addr := if c = a then A else A.map (·.add (a * 6))
theorem wpList_part {ops : Array Oper} {rest : List Oper} {op : Oper} {a : Act} {w : World} {Q : Exit → Act → World → Prop} (d : Nat) (x y z : Operand) (hop : op.dst = some d) (hgd : op.guard = none) (ho : op.op = .slice 27 x (some y) (some z) none) (A : Option Addr) (m c lo hi : Nat) (hx : a.eval x = .slice A m c) (hy : a.eval y = .int .i64 (lo : Int)) (hz : a.eval z = .int .i64 (hi : Int)) (h1 : lo ≤ hi) (h2 : hi ≤ c)
    (h : wpList Try.prog ops Q rest (a.put (some d) (.slice (cutA A c lo) (hi - lo) (c - lo))) w) : wpList Try.prog ops Q (op :: rest) a w := by
  refine wpList_plain hgd fun K hK => ?_
  have h0 : (Instr.sliceAt 27 (.slice A m c) (some (.int .i64 (lo : Int))) (some (.int .i64 (hi : Int))) none).run Try.prog w = .ok (.slice (cutA A c lo) (hi - lo) (c - lo)) w := by
    rw [run_sliceAt_slice w 27 _ _ _ _ (by rw [show Try.prog.elem 27 = 52 from rfl]; exact Try.underlying27)]
    rw [run_slice_lh w 27 A m c (by rw [show Try.prog.elem 27 = 52 from rfl]; exact Try.underlying27) .i64 .i64 (lo : Int) (hi : Int) (by omega) (by omega) (by omega)]
    have : (sizeOf (Try.prog.elem 27)).run Try.prog w = .ok 6 w := by go_simp
    rw [this]
    rfl
  unfold Oper.wp
  simp [execOp, ho, hx, hy, hz, h0, Result.andThen]
  simp only [Oper.upon]
  rw [hop]
  exact hK _ _ h
theorem chunk_part {X : Nat → Prop} {w : World} {A : Option Addr} {n c k lo hi : Nat} {rs : List Rc} (h : Lz X w 6 A n (rcsL rs)) (hc : n ≤ c) (h1 : lo = min (5 * k) n) (h2 : hi = min (5 * k + 5) n) : Lz X w 6 (cutA A c lo) (hi - lo) (rcsL (chunk rs k)) := by
  have hl := h.rclen
  have t := h.rtail (k := lo) (by omega) (cutA A c lo) (fun hlt => by unfold cutA; rw [if_neg (by omega)])
  have t2 := t.rhead (k := hi - lo) (by omega)
  have e : (rs.drop lo).take (hi - lo) = chunk rs k := by
    unfold chunk
    by_cases h5 : 5 * k ≤ n
    · have e1 : lo = 5 * k := by omega
      rw [e1]
      by_cases h6 : 5 * k + 5 ≤ n
      · rw [show hi - 5 * k = 5 by omega]
      · rw [List.take_of_length_le (by rw [List.length_drop]; omega), List.take_of_length_le (by rw [List.length_drop]; omega)]
    · rw [List.drop_of_length_le (by omega), List.drop_of_length_le (by omega)]
      simp
  rw [e] at t2
  exact t2
end Go.Proofs.Ytpffnjnncgmgnaa

namespace Go.Proofs.Ytpffnjnncgmgnaa
open Go.RowKit
attribute [local go_sem] Oper.semAt_some
set_option maxRecDepth 20000

theorem wr_sm (k : Nat) (h : k ≤ 100000) : IntKind.i64.wrap (k : Int) = (k : Int) ∧ wrap64 (k : Int) = (k : Int) := ⟨by rw [IntKind.wrap_i64]; omega, by unfold wrap64; omega⟩
/-- Got back, readable. -/
structure GtB (g : Nat) (d : Int) (ps : List Int) (pn : Nat) (rs : List Rc) (rn : Nat) (PA : Option Addr) (pc : Nat) (RA : Option Addr) (rc : Nat) (y : World) : Prop where
  box : At y g 29 (bkA d (.slice PA pn pc) (.slice RA rn rc))
  bk : BkL y PA pn RA rn ps rs
theorem GtB.call {g : Nat} {d : Int} {ps : List Int} {pn rn pc rc : Nat} {rs : List Rc} {PA RA : Option Addr} {y z : World} (h : GtB g d ps pn rs rn PA pc RA rc y) (hb : Below y.heap.size y z) : GtB g d ps pn rs rn PA pc RA rc z := ⟨h.box.under hb h.box.lt, h.bk.below hb⟩
theorem GtB.new {d : Int} {ps : List Int} {pn rn pc rc B B' : Nat} {rs : List Rc} {PA RA : Option Addr} {y : World} (h1 : y.ownsRow B 3 1 (.slice PA pn pc) pn (ICs ps)) (h2 : y.ownsRow B' 52 6 (.slice RA rn rc) rn (rcsL rs)) : GtB y.heap.size d ps pn rs rn PA pc RA rc (y.alloc (.cells (bkA d (.slice PA pn pc) (.slice RA rn rc)) 29)) :=
  have hk := (Below.refl y.heap.size y).alloc (Nat.le_refl _) (.cells (bkA d (.slice PA pn pc) (.slice RA rn rc)) 29)
  ⟨At.new y 29 _, BkL.below ⟨Lz.of_own h1 (fun _ h => h.elim), Lz.of_own h2 (fun _ h => h.elim)⟩ hk⟩
/-- What the law holds behind Put. -/
structure PgL (w : World) (gB gP : Nat) (d : Nat) (ps : List Int) (pn : Nat) (rs : List Rc) (rn : Nat) (PA : Option Addr) (pc : Nat) (RA : Option Addr) (rc : Nat) (A7 AP : Option Addr) (cP : Nat) (y : World) : Prop where
  lw : LwS w gB (d : Int) ps pn rs rn PA pc RA rc A7 y
  cell : CelO y gP (.slice AP pn cP)
  ims : LIO y AP pn (putI d ps rs)
theorem PgL.call {w y z : World} {gB gP d pn rn pc rc cP : Nat} {ps : List Int} {rs : List Rc} {PA RA A7 AP : Option Addr} (h : PgL w gB gP d ps pn rs rn PA pc RA rc A7 AP cP y) (hb : Below y.heap.size y z) : PgL w gB gP d ps pn rs rn PA pc RA rc A7 AP cP z := ⟨h.lw.call hb, h.cell.call hb, h.ims.call hb⟩
set_option maxHeartbeats 60000000 in
theorem Pages_any (nd n8 : Nat) (A : Option Addr) (n c : Nat) (l : List Op13) (w : World) (hd8 : nd < 256) (h8 : n8 < 256) (hL : Lz NoX w 7 A n (opsL l)) (hok : ∀ o ∈ l, o.r.ok) :
    Calls Try.prog 4 #[.int .u8 (nd : Int), .int .u8 (n8 : Int), .slice A n c] w (RetV w (.bool true)) := by
  have HL := Lib.hid hL
  have HLN := Lib.hid hL.oplen
  have HOK := Lib.hid hok
  have hmf : ∀ (fn : Fn) (first cap : Array Value) (w : World), (Instr.makeFunc fn first cap).run Try.prog w = .ok (.func fn first cap) w := fun _ _ _ _ => rfl
  clear hL hok
  obtain ⟨lb, hlb⟩ : ∃ lb, lightB l = lb := ⟨_, rfl⟩
  have HLB := Lib.hid hlb
  cases lb
  · clear hlb
    go_enter Try.func4, Try.ntmps4
    go_wp2_with (first
      | (go_at_call 7; refine (light_any A n c l w HL.out).mono ?_; rintro e z ⟨rfl, rfl⟩; rw [HLB.out])
      | (go_at_call 8; refine (works_any _).mono ?_; rintro e z ⟨rfl, hk⟩; have HB4 := Lib.hid hk; clear hk))
    go_ret
    exact ⟨rfl, HB4.out⟩
  · obtain ⟨hn60, hval⟩ := light_len hlb
    rw [HLN.out] at hn60
    obtain ⟨ps, hps⟩ : ∃ ps, smallP n8 = ps := ⟨_, rfl⟩
    obtain ⟨pn, hpn⟩ : ∃ pn, ps.length = pn := ⟨_, rfl⟩
    have hp4 : pn ≤ 4 := by rw [← hpn, ← hps, smallP_length]; omega
    have hp0 : 0 < pn := by rw [← hpn, ← hps, smallP_length]; omega
    have HPO : Hid (PsOk ps) := by show PsOk _; rw [← hps]; exact psOk_small n8
    obtain ⟨rs, hrs⟩ : ∃ rs, madeR pn l n = rs := ⟨_, rfl⟩
    obtain ⟨rn, hrn⟩ : ∃ rn, rs.length = rn := ⟨_, rfl⟩
    have HG : Hid (GoodB pn rs) := by show GoodB _ _; rw [← hrs]; exact good_made HOK.out n (by rw [HLN.out]; exact Nat.le_refl _)
    have hrn2 : rn ≤ 20 := by
      have := HG.out.len
      rw [hrn] at this
      omega
    obtain ⟨d, hdd⟩ : ∃ d, nd % 7 = d := ⟨_, rfl⟩
    have hd6 : d ≤ 6 := by omega
    have hwn : IntKind.i64.wrap (nd : Int) = (nd : Int) := by rw [IntKind.wrap_i64]; omega
    have hq1 : Int.tmod (nd : Int) 7 = (d : Int) := by rw [Int.tmod_eq_emod_of_nonneg (by omega)]; omega
    have hq2 : (nd : Int) % 7 = (d : Int) := by omega
    have HPS := Lib.hid hps
    have HPN := Lib.hid hpn
    have HRS := Lib.hid hrs
    have HRN := Lib.hid hrn
    have HVL := Lib.hid hval
    have HPG : Hid (putG (d : Int) ps rs = putI d ps rs) := putG_chain HPO.out hd6 (by rw [hpn]; exact HG.out)
    clear hlb hps hpn hrs hrn hval hdd
    go_enter Try.func4, Try.ntmps4
    go_upto_region 7 with (first
      | (go_at_call 7; refine (light_any A n c l w HL.out).mono ?_; rintro e z ⟨rfl, rfl⟩; rw [HLB.out])
      | (go_at_call 10; refine (small_named n8 z h8 ps pn HPS.out HPN.out).mono ?_; rintro e z1 ⟨A5, c5, rfl, h5, hb1⟩; have H5 := Lib.hid h5; have HB1 : Hid (BelO z z1) := hb1; clear h5 hb1)
      | (go_at_call 9; refine (made_any (d : Int) A5 pn c5 ps A n c l z1 H5.out (HL.out.below HB1.out) HOK.out HVL.out (by omega) hn60 rs rn HRS.out HRN.out).mono ?_; rintro e z2 ⟨PA, pc, RA, rc, A7, c7, rfl, h1, h2, h3, hc7, hb2⟩; have H1 := Lib.hid h1; have H3 := Lib.hid h3; have HB2 := Lib.hid (HB1.out.call hb2); clear h1 h3 hb2)
      | (refine wpList_store_new 29 (.tmp 8) (.tmp 32) rfl rfl rfl z2.heap.size z2 rfl rfl (bkA (d : Int) (.slice PA pn pc) (.slice RA rn rc)) _ 3 rfl strBk rfl rfl (bkA_one _ _ _ _ _ _ _) rfl ?_; have HW := Lib.hid (LwS.new (d := (d : Int)) (pc := pc) HB2.out H1.out h2 H3.out)))
    generalize z2.alloc (.cells (bkA (d : Int) (.slice PA pn pc) (.slice RA rn rc)) 29) = y5 at HW ⊢
    generalize z2.heap.size = gB at HW ⊢
    have hcap := HW.out.cap
    clear HL HOK HVL HRS HPS HLN HLB H1 H3 HB2 HB1 H5 hq1 hq2 hwn
    go_upto_region 8 with (first
      | (refine wpList_load_at 29 37 (.tmp 8) rfl rfl rfl gB rfl (bkA (d : Int) (.slice PA pn pc) (.slice RA rn rc)) 3 strBk rfl HW.out.box ?_)
      | (go_at_call 16; refine (putG_any (d : Int) PA pn pc RA rn rc ps rs y5 HW.out.bk HG.out.recs (by omega) (by omega) HW.out.cap).mono ?_; rw [HPG.out]; rintro e y6 ⟨AP, nP, cP, rfl, hl6, hb6⟩; have h26 := hl6.len; have h27 : pn = nP := (by rw [← h26, ← HPN.out]; simp [putI, putK]); subst h27; have HI6 : Hid (LIO y6 AP pn (putI d ps rs)) := hl6; have HW6 := Lib.hid (HW.out.call hb6); clear hl6 hb6 h26))
    have hk7 := (Below.refl y6.heap.size y6).alloc (Nat.le_refl _) (.cells #[.slice AP pn cP] 37)
    have HP : Hid (PgL z gB y6.heap.size d ps pn rs rn PA pc RA rc A7 AP cP (y6.alloc (.cells #[.slice AP pn cP] 37))) := ⟨HW6.out.call hk7, (At.new y6 37 #[.slice AP pn cP]).cell 0, HI6.out.call hk7⟩
    clear hk7 HW6 HI6 HW
    generalize (y6.alloc (.cells #[.slice AP pn cP] 37)) = y7 at HP ⊢
    generalize y6.heap.size = gP at HP ⊢
    have c0 : y7.cell? ⟨gP, 0, none⟩ = some (.slice AP pn cP) := HP.out.cell
    have c1 : y7.cell? ⟨gB, 1, none⟩ = some (.slice PA pn pc) := HP.out.lw.box.cell 1
    have hc7b := hc7
    go_wp2_with fail
    go_loopw [6, 12] (fun v6 vi wr => ∃ k : Nat, k ≤ pn ∧ v6 = .bool false ∧ vi = .int .i64 (k : Int) ∧ Hid (Below y7.heap.size y7 wr)) (fun _ i _ => pn - (intOf i).toNat)
    case atStart => exact ⟨0, Nat.zero_le _, rfl, by go_num, Lib.hid (Below.refl _ _)⟩
    case round =>
      obtain ⟨k, hk, rfl, rfl, HB⟩ := hrel
      have HPw := Lib.hid (HP.out.call HB.out)
      clear c0 c1
      have c0 : wr.cell? ⟨gP, 0, none⟩ = some (.slice AP pn cP) := HPw.out.cell
      have c1 : wr.cell? ⟨gB, 1, none⟩ = some (.slice PA pn pc) := HPw.out.lw.box.cell 1
      by_cases hlt : k < pn
      · obtain ⟨b, o, hl1, hAP, hb, hr⟩ := LI.at HPw.out.ims hlt
        subst hAP
        obtain ⟨pb, po, hl2, hPA, hb2, hc2⟩ := HPw.out.lw.bk.p.ic hlt
        subst hPA
        obtain ⟨pk, hpk⟩ : ∃ pk, ps[k] = pk := ⟨_, rfl⟩
        obtain ⟨nx, hnx⟩ : ∃ nx, (ps.getD (k + 1) 0).toNat = nx := ⟨_, rfl⟩
        have hnn := next_num HPO.out (k + 1)
        rw [hnx] at hnn
        obtain ⟨hnI, hnx2⟩ := hnn
        obtain ⟨pg, hpg⟩ : ∃ pg, pageP d nx (chunk rs k) = pg := ⟨_, rfl⟩
        have hei : (putI d ps rs)[k] = ⟨pk, pg⟩ := by
          have : (putI d ps rs)[k] = pgK d ps rs k := by simp [putI, putK]
          rw [this, pgK, hnx, hpg, getD_lt hl2, hpk]
        rw [hei] at hr
        rw [hpk] at hc2
        have HI1 : Hid (∀ wz, Below wr.heap.size wr wz → wz.rangeAt b (o + k * 225) (imL ⟨pk, pg⟩)) := fun wz hz => pl_rangeAt_block hr (hz.block b hb)
        have HI2 : Hid (∀ wz, Below wr.heap.size wr wz → wz.cell? ⟨pb, po + k, none⟩ = some (.int .i64 pk)) := fun wz hz => (hz.cell (p := ⟨pb, po + k, none⟩) hb2).trans hc2
        obtain ⟨lo, hlo⟩ : ∃ lo, lo = min (5 * k) rn := ⟨_, rfl⟩
        obtain ⟨hi, hhi⟩ : ∃ hi, hi = min (5 * k + 5) rn := ⟨_, rfl⟩
        have HCH : Hid (∀ wz, Below wr.heap.size wr wz → Lz NoX wz 6 (cutA A7 c7 lo) (hi - lo) (rcsL (chunk rs k))) := fun wz hz => chunk_part (HPw.out.lw.ref.below hz) hc7 hlo hhi
        have HFT : Hid (Fits (chunk rs k)) := chunk_fits (d := d) (ps := ps) (HPO.out.ok hd6 (by rw [HPN.out]; exact HG.out)) k
        have HRP : Hid (∀ wz, Below wr.heap.size wr wz → Calls Try.prog 17 #[.int .i64 (d : Int), .int .i64 (nx : Int), .slice (cutA A7 c7 lo) (hi - lo) (c7 - lo)] wz (RetPg wz pg)) := fun wz hz => by rw [← hpg]; exact rPage_any d nx _ _ _ _ wz (HCH.out wz hz) HFT.out (by omega) hnx2
        have hlh : lo ≤ hi := by omega
        have hhc : hi ≤ c7 := by omega
        obtain ⟨k5, hk5⟩ : ∃ k5, k5 = 5 * k := ⟨_, rfl⟩
        obtain ⟨k55, hk55⟩ : ∃ k55, k55 = 5 * k + 5 := ⟨_, rfl⟩
        have f1 : 5 * (k : Int) = (k5 : Int) := by omega
        obtain ⟨f2, f3⟩ := wr_sm k5 (by omega)
        have f4 : (k5 : Int) + 5 = (k55 : Int) := by omega
        obtain ⟨f5, f6⟩ := wr_sm k55 (by omega)
        have g1 : (if (rn : Int) < (k5 : Int) then (rn : Int) else (k5 : Int)) = (lo : Int) := by split <;> omega
        have g2 : (if rn < k5 then (rn : Int) else (k5 : Int)) = (lo : Int) := by split <;> omega
        have g3 : (if (rn : Int) < (k55 : Int) then (rn : Int) else (k55 : Int)) = (hi : Int) := by split <;> omega
        have g4 : (if rn < k55 then (rn : Int) else (k55 : Int)) = (hi : Int) := by split <;> omega
        obtain ⟨kx, hkx⟩ : ∃ kx, kx = k + 1 := ⟨_, rfl⟩
        have e1 : (k : Int) + 1 = (kx : Int) := by omega
        obtain ⟨e2, e3⟩ := wr_sm kx (by omega)
        have HKX := Lib.hid hkx
        by_cases hk1 : k + 1 < pn
        · obtain ⟨pb', po', hl3, e7, _, hc3⟩ := HPw.out.lw.bk.p.ic hk1
          injection e7 with e7
          injection e7 with e8 e9
          subst e8 e9
          have c3 : wr.cell? ⟨pb, po + kx, none⟩ = some (.int .i64 (nx : Int)) := by
            rw [hkx, hnI, getD_lt hl3]
            exact hc3
          have hkxn : kx < pn := by rw [hkx]; exact hk1
          clear hpk hnx hpg hei hr hc2 hb hb2 hlo hhi hk5 hk55 hkx hnI hc3 hk1
          go_upto_region 16 with fail
          go_upto_region 17 with (refine wpList_part 74 (.tmp 62) (.tmp 67) (.tmp 73) rfl rfl rfl A7 rn c7 lo hi rfl rfl rfl hlh hhc ?_)
          refine wp_region_held_drew (S := Below wr.heap.size wr) (by kernel_rfl) (Below.refl _ wr).drew (fun hS => ?_)
          refine tkS 0 hS ?_ (hy := by intro wz hz; have HPz := HPw.out.call hz; have q0 : wz.cell? ⟨gP, 0, none⟩ = some (.slice (some ⟨b, o, none⟩) pn cP) := HPz.cell; have q1 : wz.cell? ⟨gB, 1, none⟩ = some (.slice (some ⟨pb, po, none⟩) pn pc) := HPz.lw.box.cell 1; have q2 : wz.cell? ⟨b, o + k * 225, none⟩ = some (.int .i64 pk) := im_page (HI1.out wz hz); have q3 : wz.cell? ⟨pb, po + k, none⟩ = some (.int .i64 pk) := HI2.out wz hz; go_simp <;> with_reducible rfl)
          refine tkS 1 hS ?_
          refine tkS 2 hS ?_
          refine tkS 3 hS ?_
          refine tkS 4 hS ?_ (hy := by intro wz hz; have HPz := HPw.out.call hz; have q0 : wz.cell? ⟨gP, 0, none⟩ = some (.slice (some ⟨b, o, none⟩) pn cP) := HPz.cell; have q1 : wz.cell? ⟨gB, 1, none⟩ = some (.slice (some ⟨pb, po, none⟩) pn pc) := HPz.lw.box.cell 1; have q2 : wz.cell? ⟨b, o + k * 225, none⟩ = some (.int .i64 pk) := im_page (HI1.out wz hz); have q3 : wz.cell? ⟨pb, po + k, none⟩ = some (.int .i64 pk) := HI2.out wz hz; go_simp <;> with_reducible rfl)
          refine tkS 5 hS ?_
          refine tkS 6 hS ?_ (hy := by intro wz hz; have HPz := HPw.out.call hz; have q0 : wz.cell? ⟨gP, 0, none⟩ = some (.slice (some ⟨b, o, none⟩) pn cP) := HPz.cell; have q1 : wz.cell? ⟨gB, 1, none⟩ = some (.slice (some ⟨pb, po, none⟩) pn pc) := HPz.lw.box.cell 1; have q2 : wz.cell? ⟨b, o + k * 225, none⟩ = some (.int .i64 pk) := im_page (HI1.out wz hz); have q3 : wz.cell? ⟨pb, po + k, none⟩ = some (.int .i64 pk) := HI2.out wz hz; go_simp <;> with_reducible rfl)
          refine tkS 7 hS ?_
          refine tkS 8 hS ?_
          refine tkS 9 hS ?_ (hy := by intro wz hz; have HPz := HPw.out.call hz; have q0 : wz.cell? ⟨gP, 0, none⟩ = some (.slice (some ⟨b, o, none⟩) pn cP) := HPz.cell; have q1 : wz.cell? ⟨gB, 1, none⟩ = some (.slice (some ⟨pb, po, none⟩) pn pc) := HPz.lw.box.cell 1; have q2 : wz.cell? ⟨b, o + k * 225, none⟩ = some (.int .i64 pk) := im_page (HI1.out wz hz); have q3 : wz.cell? ⟨pb, po + k, none⟩ = some (.int .i64 pk) := HI2.out wz hz; go_simp <;> with_reducible rfl)
          refine tkS (v := .bool false) 10 hS ?_ (hy := by intro wz hz; have HPz := HPw.out.call hz; have q0 : wz.cell? ⟨gP, 0, none⟩ = some (.slice (some ⟨b, o, none⟩) pn cP) := HPz.cell; have q1 : wz.cell? ⟨gB, 1, none⟩ = some (.slice (some ⟨pb, po, none⟩) pn pc) := HPz.lw.box.cell 1; have q2 : wz.cell? ⟨b, o + k * 225, none⟩ = some (.int .i64 pk) := im_page (HI1.out wz hz); have q3 : wz.cell? ⟨pb, po + k, none⟩ = some (.int .i64 pk) := HI2.out wz hz; (go_simp <;> first | rfl | simp))
          refine tkS 11 hS ?_
          refine tkS 12 hS ?_ (hy := by intro wz hz; have HPz := HPw.out.call hz; have q0 : wz.cell? ⟨gP, 0, none⟩ = some (.slice (some ⟨b, o, none⟩) pn cP) := HPz.cell; have q1 : wz.cell? ⟨gB, 1, none⟩ = some (.slice (some ⟨pb, po, none⟩) pn pc) := HPz.lw.box.cell 1; have q2 : wz.cell? ⟨b, o + k * 225, none⟩ = some (.int .i64 pk) := im_page (HI1.out wz hz); have q3 : wz.cell? ⟨pb, po + k, none⟩ = some (.int .i64 pk) := HI2.out wz hz; go_simp <;> with_reducible rfl)
          refine tkS 13 hS ?_
          refine tkS 14 hS ?_
          refine tkS 15 hS ?_
          refine tkS (v := .agg (pgA pg)) 16 hS ?_ (hy := by intro wz hz; have HPz := HPw.out.call hz; have q0 : wz.cell? ⟨gP, 0, none⟩ = some (.slice (some ⟨b, o, none⟩) pn cP) := HPz.cell; have q1 : wz.cell? ⟨gB, 1, none⟩ = some (.slice (some ⟨pb, po, none⟩) pn pc) := HPz.lw.box.cell 1; have q2 : wz.cell? ⟨b, o + k * 225, none⟩ = some (.int .i64 pk) := im_page (HI1.out wz hz); have q3 : wz.cell? ⟨pb, po + k, none⟩ = some (.int .i64 pk) := HI2.out wz hz; exact exec_load_pg (.tmp 90) rfl b (o + k * 225 + 1) rfl ⟨pk, pg⟩ (o + k * 225) rfl (HI1.out wz hz))
          refine tkS 17 hS ?_
          refine tkS 18 hS ?_
          refine tkS 19 hS ?_
          refine wpAnyH_ready (rs := [20]) (by kernel_rfl) (by simp) ?_
          refine AllReadyH.cons rfl (fun K hK => ?_) AllReadyH.nil
          go_simp
          refine (HRP.out _ hS).mono ?_
          rintro e y9 ⟨rfl, hb9⟩
          have hb : True := trivial
          have HS5 := Lib.hid (hS.trans (hb9.mono hS.size))
          clear hb9
          refine hK.out _ _ (HS5.out) (fun hT => ?_)
          clear hK hb hS
          have hS := hT
          clear hT
          refine tkS (v := .bool (!(pg == pg))) 21 hS ?_ (hy := by intro wz hz; have HPz := HPw.out.call hz; have q0 : wz.cell? ⟨gP, 0, none⟩ = some (.slice (some ⟨b, o, none⟩) pn cP) := HPz.cell; have q1 : wz.cell? ⟨gB, 1, none⟩ = some (.slice (some ⟨pb, po, none⟩) pn pc) := HPz.lw.box.cell 1; have q2 : wz.cell? ⟨b, o + k * 225, none⟩ = some (.int .i64 pk) := im_page (HI1.out wz hz); have q3 : wz.cell? ⟨pb, po + k, none⟩ = some (.int .i64 pk) := HI2.out wz hz; exact exec_neq_pg (.tmp 91) (.tmp 95) rfl pg pg wz rfl rfl)
          refine tkS (v := .bool false) 22 hS ?_ (hy := by intro wz hz; have HPz := HPw.out.call hz; have q0 : wz.cell? ⟨gP, 0, none⟩ = some (.slice (some ⟨b, o, none⟩) pn cP) := HPz.cell; have q1 : wz.cell? ⟨gB, 1, none⟩ = some (.slice (some ⟨pb, po, none⟩) pn pc) := HPz.lw.box.cell 1; have q2 : wz.cell? ⟨b, o + k * 225, none⟩ = some (.int .i64 pk) := im_page (HI1.out wz hz); have q3 : wz.cell? ⟨pb, po + k, none⟩ = some (.int .i64 pk) := HI2.out wz hz; (go_simp <;> first | rfl | simp))
          refine wpAnyH_done (by kernel_rfl) ?_ _
          have HB3 := Lib.hid (HB.out.trans (hS.mono HB.out.size))
          clear hS
          go_wp2_with fail
          clear e2 e3 f2 f3 f5 f6 g1 g2 g3 g4
          go_round
          case rel => exact ⟨k + 1, by omega, by first | rfl | trivial, by rw [HKX.out], HB3⟩
          case measure => have := HKX.out; simp [intOf]; omega
        · have hz0 : ((nx : Nat) : Int) = 0 := by rw [hnI]; exact getD_ge (by rw [HPN.out]; exact Nat.le_of_not_lt hk1)
          have hkxn : ¬ kx < pn := by rw [hkx]; exact hk1
          rw [hz0] at HRP
          clear hpk hnx hpg hei hr hc2 hb hb2 hlo hhi hk5 hk55 hkx hnI hk1 hz0
          go_upto_region 16 with fail
          go_upto_region 17 with (refine wpList_part 74 (.tmp 62) (.tmp 67) (.tmp 73) rfl rfl rfl A7 rn c7 lo hi rfl rfl rfl hlh hhc ?_)
          refine wp_region_held_drew (S := Below wr.heap.size wr) (by kernel_rfl) (Below.refl _ wr).drew (fun hS => ?_)
          refine tkS 0 hS ?_ (hy := by intro wz hz; have HPz := HPw.out.call hz; have q0 : wz.cell? ⟨gP, 0, none⟩ = some (.slice (some ⟨b, o, none⟩) pn cP) := HPz.cell; have q1 : wz.cell? ⟨gB, 1, none⟩ = some (.slice (some ⟨pb, po, none⟩) pn pc) := HPz.lw.box.cell 1; have q2 : wz.cell? ⟨b, o + k * 225, none⟩ = some (.int .i64 pk) := im_page (HI1.out wz hz); have q3 : wz.cell? ⟨pb, po + k, none⟩ = some (.int .i64 pk) := HI2.out wz hz; go_simp <;> with_reducible rfl)
          refine tkS 1 hS ?_
          refine tkS 2 hS ?_
          refine tkS 3 hS ?_
          refine tkS 4 hS ?_ (hy := by intro wz hz; have HPz := HPw.out.call hz; have q0 : wz.cell? ⟨gP, 0, none⟩ = some (.slice (some ⟨b, o, none⟩) pn cP) := HPz.cell; have q1 : wz.cell? ⟨gB, 1, none⟩ = some (.slice (some ⟨pb, po, none⟩) pn pc) := HPz.lw.box.cell 1; have q2 : wz.cell? ⟨b, o + k * 225, none⟩ = some (.int .i64 pk) := im_page (HI1.out wz hz); have q3 : wz.cell? ⟨pb, po + k, none⟩ = some (.int .i64 pk) := HI2.out wz hz; go_simp <;> with_reducible rfl)
          refine tkS 5 hS ?_
          refine tkS 6 hS ?_ (hy := by intro wz hz; have HPz := HPw.out.call hz; have q0 : wz.cell? ⟨gP, 0, none⟩ = some (.slice (some ⟨b, o, none⟩) pn cP) := HPz.cell; have q1 : wz.cell? ⟨gB, 1, none⟩ = some (.slice (some ⟨pb, po, none⟩) pn pc) := HPz.lw.box.cell 1; have q2 : wz.cell? ⟨b, o + k * 225, none⟩ = some (.int .i64 pk) := im_page (HI1.out wz hz); have q3 : wz.cell? ⟨pb, po + k, none⟩ = some (.int .i64 pk) := HI2.out wz hz; go_simp <;> with_reducible rfl)
          refine tkS 7 hS ?_
          refine tkS 8 hS ?_
          refine tkS 9 hS ?_ (hy := by intro wz hz; have HPz := HPw.out.call hz; have q0 : wz.cell? ⟨gP, 0, none⟩ = some (.slice (some ⟨b, o, none⟩) pn cP) := HPz.cell; have q1 : wz.cell? ⟨gB, 1, none⟩ = some (.slice (some ⟨pb, po, none⟩) pn pc) := HPz.lw.box.cell 1; have q2 : wz.cell? ⟨b, o + k * 225, none⟩ = some (.int .i64 pk) := im_page (HI1.out wz hz); have q3 : wz.cell? ⟨pb, po + k, none⟩ = some (.int .i64 pk) := HI2.out wz hz; go_simp <;> with_reducible rfl)
          refine tkS (v := .bool false) 10 hS ?_ (hy := by intro wz hz; have HPz := HPw.out.call hz; have q0 : wz.cell? ⟨gP, 0, none⟩ = some (.slice (some ⟨b, o, none⟩) pn cP) := HPz.cell; have q1 : wz.cell? ⟨gB, 1, none⟩ = some (.slice (some ⟨pb, po, none⟩) pn pc) := HPz.lw.box.cell 1; have q2 : wz.cell? ⟨b, o + k * 225, none⟩ = some (.int .i64 pk) := im_page (HI1.out wz hz); have q3 : wz.cell? ⟨pb, po + k, none⟩ = some (.int .i64 pk) := HI2.out wz hz; (go_simp <;> first | rfl | simp))
          refine tkS 11 hS ?_
          refine tkS 12 hS ?_ (hy := by intro wz hz; have HPz := HPw.out.call hz; have q0 : wz.cell? ⟨gP, 0, none⟩ = some (.slice (some ⟨b, o, none⟩) pn cP) := HPz.cell; have q1 : wz.cell? ⟨gB, 1, none⟩ = some (.slice (some ⟨pb, po, none⟩) pn pc) := HPz.lw.box.cell 1; have q2 : wz.cell? ⟨b, o + k * 225, none⟩ = some (.int .i64 pk) := im_page (HI1.out wz hz); have q3 : wz.cell? ⟨pb, po + k, none⟩ = some (.int .i64 pk) := HI2.out wz hz; go_simp <;> with_reducible rfl)
          refine tkS 13 hS ?_
          refine tkS 14 hS ?_
          refine tkS 15 hS ?_
          refine tkS (v := .agg (pgA pg)) 16 hS ?_ (hy := by intro wz hz; have HPz := HPw.out.call hz; have q0 : wz.cell? ⟨gP, 0, none⟩ = some (.slice (some ⟨b, o, none⟩) pn cP) := HPz.cell; have q1 : wz.cell? ⟨gB, 1, none⟩ = some (.slice (some ⟨pb, po, none⟩) pn pc) := HPz.lw.box.cell 1; have q2 : wz.cell? ⟨b, o + k * 225, none⟩ = some (.int .i64 pk) := im_page (HI1.out wz hz); have q3 : wz.cell? ⟨pb, po + k, none⟩ = some (.int .i64 pk) := HI2.out wz hz; exact exec_load_pg (.tmp 90) rfl b (o + k * 225 + 1) rfl ⟨pk, pg⟩ (o + k * 225) rfl (HI1.out wz hz))
          refine tkS 17 hS ?_
          refine tkS 18 hS ?_
          refine tkS 19 hS ?_
          refine wpAnyH_ready (rs := [20]) (by kernel_rfl) (by simp) ?_
          refine AllReadyH.cons rfl (fun K hK => ?_) AllReadyH.nil
          go_simp
          refine (HRP.out _ hS).mono ?_
          rintro e y9 ⟨rfl, hb9⟩
          have hb : True := trivial
          have HS5 := Lib.hid (hS.trans (hb9.mono hS.size))
          clear hb9
          refine hK.out _ _ (HS5.out) (fun hT => ?_)
          clear hK hb hS
          have hS := hT
          clear hT
          refine tkS (v := .bool (!(pg == pg))) 21 hS ?_ (hy := by intro wz hz; have HPz := HPw.out.call hz; have q0 : wz.cell? ⟨gP, 0, none⟩ = some (.slice (some ⟨b, o, none⟩) pn cP) := HPz.cell; have q1 : wz.cell? ⟨gB, 1, none⟩ = some (.slice (some ⟨pb, po, none⟩) pn pc) := HPz.lw.box.cell 1; have q2 : wz.cell? ⟨b, o + k * 225, none⟩ = some (.int .i64 pk) := im_page (HI1.out wz hz); have q3 : wz.cell? ⟨pb, po + k, none⟩ = some (.int .i64 pk) := HI2.out wz hz; exact exec_neq_pg (.tmp 91) (.tmp 95) rfl pg pg wz rfl rfl)
          refine tkS (v := .bool false) 22 hS ?_ (hy := by intro wz hz; have HPz := HPw.out.call hz; have q0 : wz.cell? ⟨gP, 0, none⟩ = some (.slice (some ⟨b, o, none⟩) pn cP) := HPz.cell; have q1 : wz.cell? ⟨gB, 1, none⟩ = some (.slice (some ⟨pb, po, none⟩) pn pc) := HPz.lw.box.cell 1; have q2 : wz.cell? ⟨b, o + k * 225, none⟩ = some (.int .i64 pk) := im_page (HI1.out wz hz); have q3 : wz.cell? ⟨pb, po + k, none⟩ = some (.int .i64 pk) := HI2.out wz hz; (go_simp <;> first | rfl | simp))
          refine wpAnyH_done (by kernel_rfl) ?_ _
          have HB3 := Lib.hid (HB.out.trans (hS.mono HB.out.size))
          clear hS
          go_wp2_with fail
          clear e2 e3 f2 f3 f5 f6 g1 g2 g3 g4
          go_round
          case rel => exact ⟨k + 1, by omega, by first | rfl | trivial, by rw [HKX.out], HB3⟩
          case measure => have := HKX.out; simp [intOf]; omega
      · obtain rfl : k = pn := by omega
        obtain ⟨pb, po, hl2, hPA, hb2, hc2⟩ := HPw.out.lw.bk.p.ic hp0
        subst hPA
        obtain ⟨p0, hp0k⟩ : ∃ p0, ps[0] = p0 := ⟨_, rfl⟩
        have hp0f : ps.getD 0 0 = p0 := by rw [getD_lt hl2]; exact hp0k
        rw [hp0k] at hc2
        have c3 : wr.cell? ⟨pb, po, none⟩ = some (.int .i64 p0) := hc2
        clear hp0k hc2 hb2
        go_upto_region 20 with (first
          | (go_at_call 18; refine (GetP HPO.out HPN.out hd6 HG.out HRN.out p0 hp0f gP cP AP wr HPw.out.cell HPw.out.ims).mono ?_; rintro e y8 ⟨AQ, cQ, AR, cR, rfl, h1, h2, hk8⟩; have HQ := Lib.hid h1; have HQR := Lib.hid h2; have HP8 := Lib.hid (HPw.out.call hk8); clear h1 h2 hk8)
          | (refine wpList_store_new 29 (.tmp 15) (.tmp 105) rfl rfl rfl y8.heap.size y8 rfl rfl (bkA (d : Int) (.slice AQ k cQ) (.slice AR rn cR)) _ 3 rfl strBk rfl rfl (bkA_one _ _ _ _ _ _ _) rfl ?_; have HGw := Lib.hid (GtB.new (d := (d : Int)) HQ.out HQR.out); have HP9 := Lib.hid (HP8.out.call ((Below.refl y8.heap.size y8).alloc (Nat.le_refl _) (.cells (bkA (d : Int) (.slice AQ k cQ) (.slice AR rn cR)) 29)))))
        generalize (y8.alloc (.cells (bkA (d : Int) (.slice AQ k cQ) (.slice AR rn cR)) 29)) = y9 at HGw HP9 ⊢
        generalize y8.heap.size = gG at HGw ⊢
        clear HQ HQR HP8 HPw c0 c1 c3 HB HP
        have d0 : y9.cell? ⟨gG, 0, none⟩ = some (.int .i64 (d : Int)) := HGw.out.box.cell 0
        have d2 : y9.cell? ⟨gG, 2, none⟩ = some (.slice AR rn cR) := HGw.out.box.cell 2
        go_wp2_with fail
        refine (Same_any AR A7 rn cR c7 rs y9 HGw.out.bk.r HP9.out.lw.ref (by omega)).mono ?_
        rintro e ya ⟨rfl, hka⟩
        have HGa := Lib.hid (HGw.out.call hka)
        have HPa := Lib.hid (HP9.out.call hka)
        clear hka d0 d2 HGw HP9
        have d1 : ya.cell? ⟨gG, 1, none⟩ = some (.slice AQ k cQ) := HGa.out.box.cell 1
        have c1 : ya.cell? ⟨gB, 1, none⟩ = some (.slice (some ⟨pb, po, none⟩) k pc) := HPa.out.lw.box.cell 1
        go_wp2_with fail
        go_loopw [6, 17] (fun v6 vi wr => ∃ j : Nat, j ≤ k ∧ v6 = .bool false ∧ vi = .int .i64 (j : Int) ∧ Hid (Below ya.heap.size ya wr)) (fun _ i _ => k - (intOf i).toNat)
        case atStart => exact ⟨0, Nat.zero_le _, rfl, by go_num, Lib.hid (Below.refl _ _)⟩
        case round =>
          obtain ⟨j, hj, rfl, rfl, HB⟩ := hrel
          have HPw := Lib.hid (HPa.out.call HB.out)
          have HGw := Lib.hid (HGa.out.call HB.out)
          clear d1 c1
          have d1 : wr.cell? ⟨gG, 1, none⟩ = some (.slice AQ k cQ) := HGw.out.box.cell 1
          by_cases hlt2 : j < k
          · obtain ⟨qb, qo, hl5, hAQ, hbq, hcq⟩ := HGw.out.bk.p.ic hlt2
            subst hAQ
            obtain ⟨pb2, po2, hl6, e7, hbp, hcp⟩ := HPw.out.lw.bk.p.ic hlt2
            injection e7 with e7
            injection e7 with e8 e9
            subst e8 e9
            obtain ⟨pk, hpk⟩ : ∃ pk, ps[j] = pk := ⟨_, rfl⟩
            rw [hpk] at hcq hcp
            have HI1 : Hid (∀ wz, Below wr.heap.size wr wz → wz.cell? ⟨qb, qo + j, none⟩ = some (.int .i64 pk)) := fun wz hz => (hz.cell (p := ⟨qb, qo + j, none⟩) hbq).trans hcq
            have HI2 : Hid (∀ wz, Below wr.heap.size wr wz → wz.cell? ⟨pb, po + j, none⟩ = some (.int .i64 pk)) := fun wz hz => (hz.cell (p := ⟨pb, po + j, none⟩) hbp).trans hcp
            obtain ⟨jx, hjx⟩ : ∃ jx, jx = j + 1 := ⟨_, rfl⟩
            have e1 : (j : Int) + 1 = (jx : Int) := by rw [hjx]; rfl
            obtain ⟨e2, e3⟩ := wr_sm jx (by rw [hjx]; omega)
            have HJX := Lib.hid hjx
            clear hpk hcq hcp hbq hbp hjx
            go_upto_region 25 with fail
            refine wp_region_held_drew (S := Below wr.heap.size wr) (by kernel_rfl) (Below.refl _ wr).drew (fun hS => ?_)
            refine tkS 0 hS ?_
            refine tkS 1 hS ?_ (hy := by intro wz hz; have HPz := HPw.out.call hz; have HGz := HGw.out.call hz; have q1 : wz.cell? ⟨gB, 1, none⟩ = some (.slice (some ⟨pb, po, none⟩) k pc) := HPz.lw.box.cell 1; have q2 : wz.cell? ⟨gG, 1, none⟩ = some (.slice (some ⟨qb, qo, none⟩) k cQ) := HGz.box.cell 1; have q3 : wz.cell? ⟨pb, po + j, none⟩ = some (.int .i64 pk) := HI2.out wz hz; have q4 : wz.cell? ⟨qb, qo + j, none⟩ = some (.int .i64 pk) := HI1.out wz hz; go_simp <;> with_reducible rfl)
            refine tkS 2 hS ?_
            refine tkS 3 hS ?_
            refine tkS 4 hS ?_ (hy := by intro wz hz; have HPz := HPw.out.call hz; have HGz := HGw.out.call hz; have q1 : wz.cell? ⟨gB, 1, none⟩ = some (.slice (some ⟨pb, po, none⟩) k pc) := HPz.lw.box.cell 1; have q2 : wz.cell? ⟨gG, 1, none⟩ = some (.slice (some ⟨qb, qo, none⟩) k cQ) := HGz.box.cell 1; have q3 : wz.cell? ⟨pb, po + j, none⟩ = some (.int .i64 pk) := HI2.out wz hz; have q4 : wz.cell? ⟨qb, qo + j, none⟩ = some (.int .i64 pk) := HI1.out wz hz; go_simp <;> with_reducible rfl)
            refine tkS 5 hS ?_
            refine tkS 6 hS ?_ (hy := by intro wz hz; have HPz := HPw.out.call hz; have HGz := HGw.out.call hz; have q1 : wz.cell? ⟨gB, 1, none⟩ = some (.slice (some ⟨pb, po, none⟩) k pc) := HPz.lw.box.cell 1; have q2 : wz.cell? ⟨gG, 1, none⟩ = some (.slice (some ⟨qb, qo, none⟩) k cQ) := HGz.box.cell 1; have q3 : wz.cell? ⟨pb, po + j, none⟩ = some (.int .i64 pk) := HI2.out wz hz; have q4 : wz.cell? ⟨qb, qo + j, none⟩ = some (.int .i64 pk) := HI1.out wz hz; go_simp <;> with_reducible rfl)
            refine tkS 7 hS ?_
            refine tkS 8 hS ?_
            refine tkS 9 hS ?_ (hy := by intro wz hz; have HPz := HPw.out.call hz; have HGz := HGw.out.call hz; have q1 : wz.cell? ⟨gB, 1, none⟩ = some (.slice (some ⟨pb, po, none⟩) k pc) := HPz.lw.box.cell 1; have q2 : wz.cell? ⟨gG, 1, none⟩ = some (.slice (some ⟨qb, qo, none⟩) k cQ) := HGz.box.cell 1; have q3 : wz.cell? ⟨pb, po + j, none⟩ = some (.int .i64 pk) := HI2.out wz hz; have q4 : wz.cell? ⟨qb, qo + j, none⟩ = some (.int .i64 pk) := HI1.out wz hz; go_simp <;> with_reducible rfl)
            refine tkS (v := .bool false) 10 hS ?_ (hy := by intro wz hz; have HPz := HPw.out.call hz; have HGz := HGw.out.call hz; have q1 : wz.cell? ⟨gB, 1, none⟩ = some (.slice (some ⟨pb, po, none⟩) k pc) := HPz.lw.box.cell 1; have q2 : wz.cell? ⟨gG, 1, none⟩ = some (.slice (some ⟨qb, qo, none⟩) k cQ) := HGz.box.cell 1; have q3 : wz.cell? ⟨pb, po + j, none⟩ = some (.int .i64 pk) := HI2.out wz hz; have q4 : wz.cell? ⟨qb, qo + j, none⟩ = some (.int .i64 pk) := HI1.out wz hz; (go_simp <;> first | rfl | simp))
            refine wpAnyH_done (by kernel_rfl) ?_ _
            have HB3 := Lib.hid (HB.out.trans (hS.mono HB.out.size))
            clear hS
            go_wp2_with fail
            clear e2 e3
            go_round
            case rel => exact ⟨j + 1, by omega, by first | rfl | trivial, by rw [HJX.out], HB3⟩
            case measure => have := HJX.out; simp [intOf]; omega
          · obtain rfl : j = k := Nat.le_antisymm hj (Nat.le_of_not_lt hlt2)
            go_wp2_with fail
            refine (works_any _).mono ?_
            rintro e yg ⟨rfl, hkk⟩
            have HLAST := Lib.hid (HPw.out.lw.bel.call hkk)
            clear hkk
            go_wp2_with fail
            go_ret
            exact ⟨rfl, HLAST.out⟩
end Go.Proofs.Ytpffnjnncgmgnaa

namespace Go.Proofs.Ytpffnjnncgmgnaa
open Go.RowKit Go.Deep Go.Joins Go.ChangeShapes Go.WideShapes
set_option maxRecDepth 20000

theorem ceI : Try.prog.cellsOf 3 = 1 := by kernel_rfl
theorem ceB : Try.prog.cellsOf 4 = 1 := by kernel_rfl
theorem ceS : Try.prog.cellsOf 9 = 1 := by kernel_rfl
theorem ceU : Try.prog.cellsOf 23 = 1 := by kernel_rfl
theorem ceU4 : Try.prog.cellsOf 50 = 1 := by kernel_rfl
theorem ceR : Try.prog.cellsOf 52 = 6 := by kernel_rfl
theorem ceO : Try.prog.cellsOf 59 = 7 := by kernel_rfl
theorem wfIn {k : IntKind} {n : Int} (h : (Lit.int k n).wf = true) : k.min ≤ n ∧ n ≤ k.max := by
  unfold Lit.wf at h
  simpa using h
theorem wfU8 {n : Int} (h : (Lit.int .u8 n).wf = true) : ∃ k : Nat, n = k ∧ k < 256 := by
  have h2 := wfIn h
  rw [show IntKind.u8.min = 0 by decide, show IntKind.u8.max = 255 by decide] at h2
  exact ⟨n.toNat, by omega, by omega⟩
theorem wfU64 {n : Int} (h : (Lit.int .u64 n).wf = true) : ∃ k : Nat, n = k ∧ k < 18446744073709551616 := by
  have h2 := wfIn h
  rw [show IntKind.u64.min = 0 by decide, show IntKind.u64.max = 18446744073709551615 by decide] at h2
  exact ⟨n.toNat, by omega, by omega⟩
theorem wfU32 {n : Int} (h : (Lit.int .u32 n).wf = true) : ∃ k : Nat, n = k ∧ k < 4294967296 := by
  have h2 := wfIn h
  rw [show IntKind.u32.min = 0 by decide, show IntKind.u32.max = 4294967295 by decide] at h2
  exact ⟨n.toNat, by omega, by omega⟩
theorem six_of {α : Type} {l : List α} (h : l.length = 6) : ∃ a b c d e f, l = [a, b, c, d, e, f] := by
  match l, h with
  | [a, b, c, d, e, f], _ => exact ⟨a, b, c, d, e, f, rfl⟩
theorem plain_addr {W : World} {a : Addr} {v : Value} (h : W.cell? (a.add 0) = some v) : ∃ b off, a = ⟨b, off, none⟩ := by
  obtain ⟨b, off, spot⟩ := a
  have hs : spot = none := by simpa [Addr.add] using World.cell?_spot h
  subst hs
  exact ⟨b, off, rfl⟩
theorem opsL_at : ∀ (l : List Op13) (j : Nat) (v : Value), (opsL l)[j]? = some v → ∃ (hk : j / 7 < l.length), (opL l[j / 7])[j % 7]? = some v
  | [], j, v, h => by simp [opsL] at h
  | s :: r, j, v, h => by
    have h : (opL s ++ opsL r)[j]? = some v := by simpa [opsL] using h
    by_cases hj : j < 7
    · rw [List.getElem?_append_left (by rw [opL_length]; exact hj)] at h
      refine ⟨by rw [Nat.div_eq_of_lt hj]; simp, ?_⟩
      simp only [Nat.div_eq_of_lt hj, Nat.mod_eq_of_lt hj, List.getElem_cons_zero]
      exact h
    · rw [List.getElem?_append_right (by rw [opL_length]; omega), opL_length] at h
      obtain ⟨hk, h2⟩ := opsL_at r (j - 7) v h
      have e1 : j / 7 = (j - 7) / 7 + 1 := by omega
      have e2 : j % 7 = (j - 7) % 7 := by omega
      refine ⟨by rw [e1]; simpa using hk, ?_⟩
      simp only [e1, e2, List.getElem_cons_succ]
      exact h2
instance : Inhabited Op13 := ⟨⟨0, zrc⟩⟩
theorem pick_lt {n : Nat} {α : Type} [Inhabited α] {p : Nat → α → Prop} (h : ∀ i, i < n → ∃ a, p i a) : ∃ F : Nat → α, ∀ i, i < n → p i (F i) :=
  ⟨fun i => if hi : i < n then (h i hi).choose else default, fun i hi => by simp only [hi, dif_pos]; exact (h i hi).choose_spec⟩
section
variable {H : Type} {enc : TypeId × Value → H} {W : World} {spare : Nat → Bool} {held : Bool} {fuel : Nat} {cs : List Value} {x : DataW H × List MemPlace}
theorem inU (h : DataW.trod enc Try.prog W 0 spare held fuel 23 cs = some x) : ∃ n : Nat, cs = [.int .u64 (n : Int)] ∧ n < 18446744073709551616 := by
  obtain ⟨z, e, _, wf⟩ := DataW.trod_int Try.underlying23 h
  obtain ⟨k, rfl, hk⟩ := wfU64 wf
  exact ⟨k, e, hk⟩
theorem inU4 (h : DataW.trod enc Try.prog W 0 spare held fuel 50 cs = some x) : ∃ n : Nat, cs = [.int .u32 (n : Int)] ∧ n < 4294967296 := by
  obtain ⟨z, e, _, wf⟩ := DataW.trod_int Try.underlying50 h
  obtain ⟨k, rfl, hk⟩ := wfU32 wf
  exact ⟨k, e, hk⟩
theorem inI (h : DataW.trod enc Try.prog W 0 spare held fuel 3 cs = some x) : ∃ z : Int, cs = [.int .i64 z] := by
  obtain ⟨z, e, _, _⟩ := DataW.trod_int Try.underlying3 h
  exact ⟨z, e⟩
theorem inS (h : DataW.trod enc Try.prog W 0 spare held fuel 9 cs = some x) : ∃ l : List UInt8, cs = [.string (strOf l)] ∧ l.length ≤ maxLen := by
  obtain ⟨s, e, _, hs⟩ := DataW.trod_string Try.underlying9 h
  refine ⟨s.data.toList, by rw [e]; rfl, ?_⟩
  have : s.data.toList.length = s.size := Array.length_toList
  omega
theorem rc_of (h : DataW.trod enc Try.prog W 0 spare held fuel 52 cs = some x) : ∃ r : Rc, r.ok ∧ cs = rcL r := by
  obtain ⟨xs, n, _, _, hl, hxl, hf⟩ := DataW.trod_struct Try.underlying52 h
  rw [ceR] at hl
  obtain ⟨v0, v1, v2, v3, v4, v5, rfl⟩ := six_of hl
  obtain ⟨y0, y1, y2, y3, y4, y5, rfl⟩ := six_of hxl
  have g0 := hf 0 _ rfl
  have g1 := hf 1 _ rfl
  have g2 := hf 2 _ rfl
  have g3 := hf 3 _ rfl
  have g4 := hf 4 _ rfl
  have g5 := hf 5 _ rfl
  simp [ceU, ceU4, ceS, ceB] at g0 g1 g2 g3 g4 g5
  obtain ⟨id, e0, b0⟩ := inU g0
  obtain ⟨key, e1, b1⟩ := inU g1
  obtain ⟨a, e2, b2⟩ := inU4 g2
  obtain ⟨b, e3, b3⟩ := inU4 g3
  obtain ⟨l, e4, b4⟩ := inS g4
  obtain ⟨gh, e5, _⟩ := DataW.trod_bool Try.underlying4 g5
  injection e0 with e0
  injection e1 with e1
  injection e2 with e2
  injection e3 with e3
  injection e4 with e4
  injection e5 with e5
  subst e0 e1 e2 e3 e4 e5
  exact ⟨⟨id, key, a, b, l, gh⟩, ⟨b0, b1, b2, b3⟩, rfl⟩
theorem op_of (h : DataW.trod enc Try.prog W 0 spare held fuel 59 cs = some x) : ∃ o : Op13, o.r.ok ∧ cs = opL o := by
  obtain ⟨y0, y1, n, _, hl, g0, g1⟩ := trod_struct2 Try.underlying59 h
  rw [ceO] at hl
  simp [ceI, ceR] at g0 g1
  obtain ⟨z, e0⟩ := inI g0
  obtain ⟨r, hr, e1⟩ := rc_of g1
  refine ⟨⟨z, r⟩, hr, ?_⟩
  match cs, hl with
  | v :: t, hl =>
    simp at hl e0 e1
    rw [List.take_of_length_le (by omega)] at e1
    rw [e0, e1]
    rfl
end
theorem ops_of {H : Type} {enc : TypeId × Value → H} {W : World} {spare : Nat → Bool} {held : Bool} {A : Option Addr} {len cap : Nat} {d : DataW H} {p : List MemPlace}
    (h : DataW.Trod enc Try.prog W 0 spare held 22 (.slice A len cap) d p) : ∃ l : List Op13, Lz NoX W 7 A len (opsL l) ∧ (∀ o ∈ l, o.r.ok) ∧ len ≤ maxLen := by
  obtain ⟨fuel, hf⟩ := h
  rcases open_slice Try.underlying22 hf with ⟨hcs, _⟩ | ⟨a, len', cap', m, n, D, Pl, hcs, _, hl, hm, hmm, _, hi⟩
  · simp [Value.cells] at hcs
    obtain ⟨rfl, rfl, rfl⟩ := hcs
    exact ⟨[], Lz.empty, fun o h => by simp at h, by simp [maxLen]⟩
  · simp [Value.cells] at hcs
    obtain ⟨rfl, rfl, rfl⟩ := hcs
    have hlm : len ≤ m := by rw [hmm]; split <;> omega
    by_cases hl0 : len = 0
    · subst hl0
      exact ⟨[], Lz.empty, fun o h => by simp at h, by simp [maxLen]⟩
    rw [ceO] at hi
    have each : ∀ i, i < len → ∃ s : Op13, s.r.ok ∧ ∀ j, j < 7 → W.cell? ((a.add (i * 7)).add j) = (opL s)[j]? := fun i hlt => by
      obtain ⟨cs', h1, h2⟩ := hi i (by omega)
      obtain ⟨_, hlen, hcell⟩ := World.cells?_some h1
      obtain ⟨s, hs, rfl⟩ := op_of h2
      exact ⟨s, hs, fun j hj => by rw [hcell j (by omega)]⟩
    obtain ⟨F, hF⟩ := pick_lt each
    have hlen : ((List.range len).map F).length = len := by simp
    have g0 : ∀ s : Op13, (opL s)[0]? = some (.int .i64 s.kind) := fun s => rfl
    obtain ⟨b, off, rfl⟩ : ∃ b off, a = ⟨b, off, none⟩ := by
      have := (hF 0 (by omega)).2 0 (by omega)
      rw [Nat.zero_mul, Go.Deep.add_add, g0] at this
      exact plain_addr this
    refine ⟨(List.range len).map F, ⟨by rw [opsL_length, hlen], fun _ => ⟨b, off, rfl, fun h => h, ?_, fun j v hv => ?_⟩⟩, fun o ho => ?_, by omega⟩
    · have := (hF 0 (by omega)).2 0 (by omega)
      rw [g0] at this
      have := World.block_lt_of_cell? W _ this
      rwa [add_block, add_block] at this
    · obtain ⟨hk, hv2⟩ := opsL_at _ j v hv
      have hk' : j / 7 < len := by rwa [hlen] at hk
      have h3 := (hF (j / 7) hk').2 (j % 7) (Nat.mod_lt _ (by omega))
      rw [add_plain, add_plain, Nat.add_assoc, show j / 7 * 7 + j % 7 = j by omega] at h3
      rw [h3, ← hv2]
      simp
    · obtain ⟨i, hi', rfl⟩ := List.mem_map.1 ho
      exact (hF i (by have := List.mem_range.1 hi'; omega)).1
end Go.Proofs.Ytpffnjnncgmgnaa

namespace Go.Proofs.Ytpffnjnncgmgnaa.bucketPages
open Go.ChangeShapes Go.WideShapes Go.ChangeAt Go.RowKit
set_option linter.unusedVariables false

theorem own : ownKnob Try.prog.godebug = none := by kernel_rfl
theorem laidOut : laidOutB Try.prog = true := by kernel_rfl

set_option maxRecDepth 100000 in
theorem lifted (os : Os) (started : os.Started) (H : Type) (enc : TypeId × Value → H) :
    ReturnsInHanded {} Try.checked os 4 .any (Rows.bucketPagesSpec.pre6 enc Try.prog Try.f4 Rows.bucketPagesRow.domain false) (Rows.bucketPagesSpec.post enc Try.prog Try.f4 false true false false) := by
  refine returnsInHanded_of_change (C := Try.checked) own started (by kernel_rfl) Try.func4
    (ChangeSpec.witness6 (enc := enc) (C := Try.checked) false ⟨#[], #[.int .u8 0, .int .u8 0, .slice none 0 0], []⟩ 8 (by kernel_rfl) (by kernel_rfl) (by kernel_rfl) (by kernel_rfl)) ?_
  intro W base args ds gs before hval0 hW hcnd _
  have hval : ∀ (j : Nat) t v, Try.f4.params[j]? = some t → args[j]? = some v → Value.okWide Try.prog W .any base t v := hval0
  have hW' := hW
  obtain ⟨p, q, hA0, hV, rfl, hfz, hnd⟩ := hW
  have hA : DataW.TrodAll enc Try.prog W 0 (fun _ => true) true Try.f4.params.toList args.toList ds p := hA0
  rw [Try.params4] at hA hval
  obtain ⟨v0, vs0, d0, ds0, p0, q0, hargs, rfl, rfl, h0, r0⟩ := trodAll_cons hA
  obtain ⟨v1, vs1, d1, ds1, p1, q1, rfl, rfl, rfl, h1, r1⟩ := trodAll_cons r0
  obtain ⟨v2, vs2, d2, ds2, p2, q2, rfl, rfl, rfl, h2, r2⟩ := trodAll_cons r1
  obtain ⟨rfl, rfl, rfl⟩ := trodAll_nil r2
  obtain rfl : args = #[v0, v1, v2] := by cases args; simp_all
  obtain ⟨rfl, rfl⟩ := trodVars_none hV
  obtain ⟨a0, rfl, rfl, rfl, w0⟩ := open_int Try.underlying5 (hval 0 5 v0 rfl rfl) h0
  obtain ⟨n0, rfl, u0⟩ := wfU8 w0
  obtain ⟨a1, rfl, rfl, rfl, w1⟩ := open_int Try.underlying5 (hval 1 5 v1 rfl rfl) h1
  obtain ⟨n1, rfl, u1⟩ := wfU8 w1
  obtain ⟨A2, len2, cap2, rfl⟩ := okWide_slice Try.underlying22 (hval 2 22 v2 rfl rfl)
  have k2 := h2
  have lt2 : ∀ x ∈ p2, x.block < W.heap.size := by obtain ⟨m, hm⟩ := k2; exact DataW.trod_lt m _ _ _ hm
  obtain ⟨L, hL, hU, _⟩ := ops_of h2
  clear hA0 hval0
  refine (Pages_any n0 n1 A2 len2 cap2 L  W u0 u1 hL hU).mono fun e W' ⟨he, bel⟩ => ?_
  subst he
  exact ⟨_, rfl, _, _, _, [], _, [], hW', trodAll_mk1 (shut_bool Try.underlying4 _), (trodAll_cons_mk (shut_int Try.underlying5 w0) (trodAll_cons_mk (shut_int Try.underlying5 w1) (trodAll_cons_mk (Below.trod laidOut (by kernel_rfl) (of_decide_eq_true (by kernel_rfl)) k2 bel lt2) trodAll_mk0))), rfl, bel.frame _, fun h => by cases h⟩

theorem over : Rows.bucketPagesRow.holds Try.pinned (OpenSpec.ofChange Rows.bucketPagesSpec) :=
  OpenClaim.holds_of_wide 4 Try.f4 rfl rfl rfl rfl rfl rfl rfl ⟨rfl, rfl, rfl, rfl, rfl⟩ rfl rfl rfl rfl rfl (by kernel_rfl) Try.func4 (by kernel_rfl)
    (of_decide_eq_true (by kernel_rfl)) (by unfold Func.isWrapper; first | (rw [if_pos (by decide +kernel)]; kernel_rfl) | (rw [if_neg (by decide +kernel)]; exact ⟨rfl, rfl⟩))
    (fun os started H enc _ => lifted os started H enc)

theorem proved : Rows.BucketPagesSaid := over
end Go.Proofs.Ytpffnjnncgmgnaa.bucketPages
