/-
  For every number of pages, every list of acts and every number the law BucketMarks returns true and leaves its arguments as they were.
  Conditions: none.
-/
import Derived.Test.YtpffnjnncgmgnaaB28
import Derived.Test.YtpffnjnncgmgnaaB33
import Derived.Test.YtpffnjnncgmgnaaB22
import Derived.Deep.Slices
import Derived.Lib.SmallJoins
import Derived.OpenShut
import Derived.WideShapes
import Derived.ProofKit
import Derived.Test.YtpffnjnncgmgnaaRows
import Derived.WalkKit
import Derived.ShutString
import Derived.ChangeOld
import Derived.Below
namespace Go.Proofs.Ytpffnjnncgmgnaa
open Go.RowKit
attribute [local go_sem] Oper.semAt_some
set_option maxRecDepth 20000

/-- What a law holds behind its acts. -/
structure LwS (w : World) (g : Nat) (d : Int) (ps : List Int) (pn : Nat) (rs : List Rc) (rn : Nat) (PA : Option Addr) (pc : Nat) (RA : Option Addr) (rc : Nat) (A7 : Option Addr) (y : World) : Prop where
  box : At y g 29 (bkA d (.slice PA pn pc) (.slice RA rn rc))
  bk : BkL y PA pn RA rn ps rs
  cap : rn ≤ rc
  ref : Lz NoX y 6 A7 rn (rcsL rs)
  bel : BelO w y
theorem LwS.call {w y z : World} {g : Nat} {d : Int} {ps : List Int} {pn rn pc rc : Nat} {rs : List Rc} {PA RA A7 : Option Addr} (h : LwS w g d ps pn rs rn PA pc RA rc A7 y) (hb : Below y.heap.size y z) : LwS w g d ps pn rs rn PA pc RA rc A7 z :=
  ⟨h.box.under hb h.box.lt, h.bk.below hb, h.cap, h.ref.below hb, h.bel.call hb⟩
theorem LwS.new {w y : World} {d : Int} {ps : List Int} {pn rn pc rc : Nat} {rs : List Rc} {PA RA A7 : Option Addr} (hw : BelO w y) (h1 : BkL y PA pn RA rn ps rs) (h2 : rn ≤ rc) (h3 : Lz NoX y 6 A7 rn (rcsL rs)) :
    LwS w y.heap.size d ps pn rs rn PA pc RA rc A7 (y.alloc (.cells (bkA d (.slice PA pn pc) (.slice RA rn rc)) 29)) :=
  have hk := (Below.refl y.heap.size y).alloc (Nat.le_refl _) (.cells (bkA d (.slice PA pn pc) (.slice RA rn rc)) 29)
  ⟨At.new y 29 _, h1.below hk, h2, h3.below hk, hw.call hk⟩
/-- The pages of small, by names. -/
theorem small_named (n : Nat) (w : World) (hn : n < 256) (ps : List Int) (pn : Nat) (h1 : smallP n = ps) (h2 : ps.length = pn) : Calls Try.prog 10 #[.int .u8 (n : Int)] w (fun e z => ∃ A c, e = .returned (.slice A pn c) ∧ Lz NoX z 1 A pn (ICs ps) ∧ Below w.heap.size w z) := by
  refine (small_any n w hn).mono ?_
  rintro e z ⟨A, c, rfl, h, hb⟩
  subst h1 h2
  exact ⟨A, c, rfl, Lz.of_own h (fun _ h => h.elim), hb⟩
theorem light_len {l : List Op13} (h : lightB l = true) : l.length ≤ 60 ∧ ∀ o ∈ l, o.r.val.length ≤ 100 := by
  unfold lightB at h
  rw [Bool.and_eq_true, decide_eq_true_eq, List.all_eq_true] at h
  exact ⟨h.1, fun o ho => of_decide_eq_true (h.2 o ho)⟩
set_option maxHeartbeats 12800000 in
theorem Does_any (n8 : Nat) (A : Option Addr) (n c : Nat) (l : List Op13) (id key : Nat) (w : World) (h8 : n8 < 256) (hL : Lz NoX w 7 A n (opsL l)) (hok : ∀ o ∈ l, o.r.ok) :
    Calls Try.prog 3 #[.int .u8 (n8 : Int), .slice A n c, .int .u64 (id : Int), .int .u64 (key : Int)] w (RetV w (.bool true)) := by
  have HL := Lib.hid hL
  have HLN := Lib.hid hL.oplen
  have HOK := Lib.hid hok
  clear hL hok
  obtain ⟨lb, hlb⟩ : ∃ lb, lightB l = lb := ⟨_, rfl⟩
  have HLB := Lib.hid hlb
  cases lb
  · clear hlb
    go_enter Try.func3, Try.ntmps3
    go_wp2_with (first
      | (go_at_call 7; refine (light_any A n c l w HL.out).mono ?_; rintro e z ⟨rfl, rfl⟩; rw [HLB.out])
      | (go_at_call 8; refine (works_any _).mono ?_; rintro e z ⟨rfl, hk⟩; have HB4 := Lib.hid hk; clear hk))
    go_ret
    exact ⟨rfl, HB4.out⟩
  · obtain ⟨hn60, hval⟩ := light_len hlb
    rw [HLN.out] at hn60
    obtain ⟨ps, hps⟩ : ∃ ps, smallP n8 = ps := ⟨_, rfl⟩
    obtain ⟨pn, hpn⟩ : ∃ pn, ps.length = pn := ⟨_, rfl⟩
    have hp4 : pn ≤ 4 := by rw [← hpn, ← hps, smallP_length]; omega
    obtain ⟨rs, hrs⟩ : ∃ rs, madeR pn l n = rs := ⟨_, rfl⟩
    obtain ⟨rn, hrn⟩ : ∃ rn, rs.length = rn := ⟨_, rfl⟩
    have hrn2 : rn ≤ 20 := by
      have := (good_made (pn := pn) HOK.out n (by rw [HLN.out]; exact Nat.le_refl _)).len
      rw [hrs, hrn] at this
      omega
    have HPS := Lib.hid hps
    have HPN := Lib.hid hpn
    have HRS := Lib.hid hrs
    have HRN := Lib.hid hrn
    have HVL := Lib.hid hval
    clear hlb hps hpn hrs hrn hval
    go_enter Try.func3, Try.ntmps3
    go_upto_region 4 with (first
      | (go_at_call 7; refine (light_any A n c l w HL.out).mono ?_; rintro e z ⟨rfl, rfl⟩; rw [HLB.out])
      | (go_at_call 10; refine (small_named n8 z h8 ps pn HPS.out HPN.out).mono ?_; rintro e z1 ⟨A5, c5, rfl, h5, hb1⟩; have H5 := Lib.hid h5; have HB1 : Hid (BelO z z1) := hb1; clear h5 hb1)
      | (go_at_call 9; refine (made_any 0 A5 pn c5 ps A n c l z1 H5.out (HL.out.below HB1.out) HOK.out HVL.out (by omega) hn60 rs rn HRS.out HRN.out).mono ?_; rintro e z2 ⟨PA, pc, RA, rc, A7, c7, rfl, h1, h2, h3, hc7, hb2⟩; have H1 := Lib.hid h1; have H3 := Lib.hid h3; have HB2 := Lib.hid (HB1.out.call hb2); clear h1 h3 hb2)
      | (refine wpList_store_new 29 (.tmp 9) (.tmp 22) rfl rfl rfl z2.heap.size z2 rfl rfl (bkA 0 (.slice PA pn pc) (.slice RA rn rc)) _ 3 rfl strBk rfl rfl (bkA_one _ _ _ _ _ _ _) rfl ?_; have HW := Lib.hid (LwS.new (d := 0) (pc := pc) HB2.out H1.out h2 H3.out)))
    generalize z2.alloc (.cells (bkA 0 (.slice PA pn pc) (.slice RA rn rc)) 29) = y5 at HW ⊢
    generalize z2.heap.size = gB at HW ⊢
    obtain ⟨q, hq⟩ : ∃ q, roomI pn rn = q := ⟨_, rfl⟩
    obtain ⟨f1, hf1⟩ : ∃ f1, idxP (fun r => r.id == id) rs = f1 := ⟨_, rfl⟩
    obtain ⟨f2, hf2⟩ : ∃ f2, idxP (isLive key) rs = f2 := ⟨_, rfl⟩
    have HBX : Hid (∀ wz, Below y5.heap.size y5 wz → At wz gB 29 (bkA 0 (.slice PA pn pc) (.slice RA rn rc))) := fun wz hz => HW.out.box.under hz HW.out.box.lt
    have HRM : Hid (∀ wz, Below y5.heap.size y5 wz → Calls Try.prog 11 #[.agg (bkA 0 (.slice PA pn pc) (.slice RA rn rc))] wz (RetV wz (.int .i64 q))) := fun wz _ => by rw [← hq]; exact Room_any 0 PA pn pc RA rn rc wz (by omega) (by omega)
    have HF1 : Hid (∀ wz, Below y5.heap.size y5 wz → Calls Try.prog 12 #[.agg (bkA 0 (.slice PA pn pc) (.slice RA rn rc)), .int .u64 (id : Int)] wz (RetV wz (.int .i64 f1))) := fun wz hz => by rw [← hf1]; exact Find_any 0 PA pn pc RA rn rc rs id wz (HW.out.bk.below hz).r (by omega)
    have HF2 : Hid (∀ wz, Below y5.heap.size y5 wz → Calls Try.prog 13 #[.slice A7 rn c7, .int .u64 (id : Int)] wz (RetV wz (.int .i64 f1))) := fun wz hz => by rw [← hf1]; exact rFind_any A7 rn c7 rs id wz (HW.out.ref.below hz) (by omega)
    have HL1 : Hid (∀ wz, Below y5.heap.size y5 wz → Calls Try.prog 14 #[.agg (bkA 0 (.slice PA pn pc) (.slice RA rn rc)), .int .u64 (key : Int)] wz (RetV wz (.int .i64 f2))) := fun wz hz => by rw [← hf2]; exact Live_any 0 PA pn pc RA rn rc rs key wz (HW.out.bk.below hz).r (by omega)
    have HL2 : Hid (∀ wz, Below y5.heap.size y5 wz → Calls Try.prog 15 #[.slice A7 rn c7, .int .u64 (key : Int)] wz (RetV wz (.int .i64 f2))) := fun wz hz => by rw [← hf2]; exact rLive_any A7 rn c7 rs key wz (HW.out.ref.below hz) (by omega)
    have hw1 : IntKind.i64.wrap (5 * (pn : Int)) = 5 * (pn : Int) := by rw [IntKind.wrap_i64]; omega
    have hw1' : wrap64 (5 * (pn : Int)) = 5 * (pn : Int) := by unfold wrap64; omega
    have hw2 : wrap64 (5 * (pn : Int) - (rn : Int)) = q := by rw [← hq]; unfold wrap64 roomI; omega
    have hw2' : IntKind.i64.wrap (5 * (pn : Int) - (rn : Int)) = q := by rw [← hq, IntKind.wrap_i64]; unfold roomI; omega
    clear hq hf1 hf2 HL HOK HVL HRS HPS HLN HLB
    refine wp_region_held_drew (S := Below y5.heap.size y5) (by kernel_rfl) (Below.refl _ y5).drew (fun hS => ?_)
    refine tkS 0 hS ?_
    refine tkS 1 hS ?_
    refine tkS (v := .agg (bkA 0 (.slice PA pn pc) (.slice RA rn rc))) 2 hS ?_ (hy := by intro wz hz; have q1 : wz.cell? ⟨gB, 1, none⟩ = some (.slice PA pn pc) := (HBX.out wz hz).cell 1; exact exec_load_at 29 (.tmp 9) rfl gB rfl _ 3 strBk rfl (HBX.out wz hz))
    refine tkS 4 hS ?_
    refine tkS 5 hS ?_ (hy := by intro wz hz; have q1 : wz.cell? ⟨gB, 1, none⟩ = some (.slice PA pn pc) := (HBX.out wz hz).cell 1; go_simp <;> with_reducible rfl)
    refine tkS 6 hS ?_
    refine tkS 7 hS ?_
    refine tkS 8 hS ?_
    refine tkS 9 hS ?_
    refine tkS 10 hS ?_
    refine wpAnyH_ready (rs := [3]) (by kernel_rfl) (by simp) ?_
    refine AllReadyH.cons rfl (fun K hK => ?_) AllReadyH.nil
    go_simp
    refine (HRM.out _ hS).mono ?_
    rintro e y9 ⟨rfl, hb9⟩
    have hb : True := trivial
    have HS5 := Lib.hid (hS.trans (hb9.mono hS.size))
    clear hb9
    refine hK.out _ _ (HS5.out) (fun hT => ?_)
    clear hK hb hS
    have hS := hT
    clear hT
    refine tkS (v := .bool true) 11 hS ?_ (hy := by intro wz hz; have q1 : wz.cell? ⟨gB, 1, none⟩ = some (.slice PA pn pc) := (HBX.out wz hz).cell 1; (go_simp <;> first | rfl | simp))
    refine tkS 12 hS ?_
    refine tkS 13 hS ?_
    refine tkS (v := .agg (bkA 0 (.slice PA pn pc) (.slice RA rn rc))) 14 hS ?_ (hy := by intro wz hz; have q1 : wz.cell? ⟨gB, 1, none⟩ = some (.slice PA pn pc) := (HBX.out wz hz).cell 1; exact exec_load_at 29 (.tmp 9) rfl gB rfl _ 3 strBk rfl (HBX.out wz hz))
    refine tkS 15 hS ?_
    refine tkS 17 hS ?_
    refine tkS 18 hS ?_
    refine wpAnyH_ready (rs := [16]) (by kernel_rfl) (by simp) ?_
    refine AllReadyH.cons rfl (fun K hK => ?_) AllReadyH.nil
    go_simp
    refine (HF1.out _ hS).mono ?_
    rintro e y9 ⟨rfl, hb9⟩
    have hb : True := trivial
    have HS5 := Lib.hid (hS.trans (hb9.mono hS.size))
    clear hb9
    refine hK.out _ _ (HS5.out) (fun hT => ?_)
    clear hK hb hS
    have hS := hT
    clear hT
    refine wpAnyH_ready (rs := [19]) (by kernel_rfl) (by simp) ?_
    refine AllReadyH.cons rfl (fun K hK => ?_) AllReadyH.nil
    go_simp
    refine (HF2.out _ hS).mono ?_
    rintro e y9 ⟨rfl, hb9⟩
    have hb : True := trivial
    have HS5 := Lib.hid (hS.trans (hb9.mono hS.size))
    clear hb9
    refine hK.out _ _ (HS5.out) (fun hT => ?_)
    clear hK hb hS
    have hS := hT
    clear hT
    refine tkS (v := .bool true) 20 hS ?_ (hy := by intro wz hz; have q1 : wz.cell? ⟨gB, 1, none⟩ = some (.slice PA pn pc) := (HBX.out wz hz).cell 1; (go_simp <;> first | rfl | simp))
    refine tkS 21 hS ?_
    refine tkS 22 hS ?_
    refine tkS (v := .agg (bkA 0 (.slice PA pn pc) (.slice RA rn rc))) 23 hS ?_ (hy := by intro wz hz; have q1 : wz.cell? ⟨gB, 1, none⟩ = some (.slice PA pn pc) := (HBX.out wz hz).cell 1; exact exec_load_at 29 (.tmp 9) rfl gB rfl _ 3 strBk rfl (HBX.out wz hz))
    refine tkS 24 hS ?_
    refine tkS 26 hS ?_
    refine tkS 27 hS ?_
    refine wpAnyH_ready (rs := [25]) (by kernel_rfl) (by simp) ?_
    refine AllReadyH.cons rfl (fun K hK => ?_) AllReadyH.nil
    go_simp
    refine (HL1.out _ hS).mono ?_
    rintro e y9 ⟨rfl, hb9⟩
    have hb : True := trivial
    have HS5 := Lib.hid (hS.trans (hb9.mono hS.size))
    clear hb9
    refine hK.out _ _ (HS5.out) (fun hT => ?_)
    clear hK hb hS
    have hS := hT
    clear hT
    refine wpAnyH_ready (rs := [28]) (by kernel_rfl) (by simp) ?_
    refine AllReadyH.cons rfl (fun K hK => ?_) AllReadyH.nil
    go_simp
    refine (HL2.out _ hS).mono ?_
    rintro e y9 ⟨rfl, hb9⟩
    have hb : True := trivial
    have HS5 := Lib.hid (hS.trans (hb9.mono hS.size))
    clear hb9
    refine hK.out _ _ (HS5.out) (fun hT => ?_)
    clear hK hb hS
    have hS := hT
    clear hT
    refine tkS (v := .bool true) 29 hS ?_ (hy := by intro wz hz; have q1 : wz.cell? ⟨gB, 1, none⟩ = some (.slice PA pn pc) := (HBX.out wz hz).cell 1; (go_simp <;> first | rfl | simp))
    refine tkS 30 hS ?_
    refine tkS 31 hS ?_
    refine wpAnyH_ready (rs := [32]) (by kernel_rfl) (by simp) ?_
    refine AllReadyH.cons rfl (fun K hK => ?_) AllReadyH.nil
    go_simp
    refine (works_any _).mono ?_
    rintro e y9 ⟨rfl, hb9⟩
    have hb : True := trivial
    have HS5 := Lib.hid (hS.trans (hb9.mono hS.size))
    clear hb9
    refine hK.out _ _ (HS5.out) (fun hT => ?_)
    clear hK hb hS
    have hS := hT
    clear hT
    refine tkS 33 hS ?_
    refine tkS 34 hS ?_
    refine wpAnyH_done (by kernel_rfl) ?_ _
    have HE := Lib.hid (HW.out.bel.call hS)
    clear hS
    go_wp2_with fail
    go_ret
    exact ⟨rfl, HE.out⟩
end Go.Proofs.Ytpffnjnncgmgnaa

namespace Go.Proofs.Ytpffnjnncgmgnaa
open Go.RowKit
attribute [local go_sem] Oper.semAt_some
set_option maxRecDepth 20000

/-- A bucket in a box, readable. -/
structure BxS (g : Nat) (ps : List Int) (pn : Nat) (rs : List Rc) (rn : Nat) (PA : Option Addr) (pc : Nat) (RA : Option Addr) (rc : Nat) (y : World) : Prop where
  box : At y g 29 (bkA 0 (.slice PA pn pc) (.slice RA rn rc))
  bk : BkL y PA pn RA rn ps rs
  cap : rn ≤ rc
section
variable {g : Nat} {ps : List Int} {pn rn pc rc : Nat} {rs : List Rc} {PA RA : Option Addr} {y z : World}
theorem BxS.call (h : BxS g ps pn rs rn PA pc RA rc y) (hb : Below y.heap.size y z) : BxS g ps pn rs rn PA pc RA rc z := ⟨h.box.under hb h.box.lt, h.bk.below hb, h.cap⟩
theorem own_cap {B n m : Nat} {t : TypeId} {sz : Nat} {A : Option Addr} {c : Nat} {xs : List Value} (h : y.ownsRow B t sz (.slice A n c) m xs) : m ≤ c := by
  obtain ⟨A, c, e, h1, _⟩ := pl_own_slice h
  injection e with _ e1 e2
  omega
theorem BxS.new {B B' : Nat} (h1 : y.ownsRow B 3 1 (.slice PA pn pc) pn (ICs ps)) (h2 : y.ownsRow B' 52 6 (.slice RA rn rc) rn (rcsL rs)) : BxS y.heap.size ps pn rs rn PA pc RA rc (y.alloc (.cells (bkA 0 (.slice PA pn pc) (.slice RA rn rc)) 29)) :=
  have hk := (Below.refl y.heap.size y).alloc (Nat.le_refl _) (.cells (bkA 0 (.slice PA pn pc) (.slice RA rn rc)) 29)
  ⟨At.new y 29 _, BkL.below ⟨Lz.of_own h1 (fun _ h => h.elim), Lz.of_own h2 (fun _ h => h.elim)⟩ hk, own_cap h2⟩
theorem BkN.bx {y0 : World} (h : BkN y0 g 0 ps pn rs rn PA pc RA rc y) : BxS g ps pn rs rn PA pc RA rc y := ⟨h.box, ⟨Lz.of_own h.nums (fun _ h => h.elim), Lz.of_own h.recs (fun _ h => h.elim)⟩, own_cap h.recs⟩
end
theorem wr_small (k : Nat) (h : k ≤ 100000) : IntKind.i64.wrap (k : Int) = (k : Int) ∧ wrap64 (k : Int) = (k : Int) := ⟨by rw [IntKind.wrap_i64]; omega, by unfold wrap64; omega⟩
/-- What the law needs of the records. -/
structure MkF (pn : Nat) (rs : List Rc) (id q : Nat) (r : Rc) (rsC rsE rsF : List Rc) (f2 : Int) : Prop where
  c : markR rs id true = (rsC, true)
  d : markR rsC id r.ghost = (rs, true)
  fc : idxP (fun x => x.id == id) rsC = (q : Int)
  lc : idxP (isLive r.key) rsC = f2
  ne : (f2 == (q : Int)) = false
  e : dropR rs id = (rsE, true)
  fe : idxP (fun x => x.id == id) rsE = -1
  f : addR pn rsE r = (rsF, 0)
  ff : idxP (fun x => x.id == id) rsF = ((rs.length - 1 : Nat) : Int)
  lenC : rsC.length = rs.length
  lenE : rsE.length = rs.length - 1
  lenF : rsF.length = rs.length
  at_ : ∀ k, k < rs.length - 1 → ∃ (h1 : k < rsF.length) (h2 : (if k < q then k else k + 1) < rs.length), rsF[k] = rs[if k < q then k else k + 1]
theorem mkF {pn : Nat} {rs : List Rc} {id q : Nat} (hg : GoodB pn rs) (h : idxP (fun x => x.id == id) rs = (q : Int)) (hq : q < rs.length) : MkF pn rs id q rs[q] (ghostAt rs q true) (dropAt rs q) (dropAt rs q ++ [rs[q]]) (idxP (isLive rs[q].key) (ghostAt rs q true)) := by
  have hfc : idxP (fun x => x.id == id) (ghostAt rs q true) = (q : Int) := by rw [idxP_ids id _ rs (ids_ghost rs q true)]; exact h
  have hle := dropAt_length rs hq
  refine ⟨mark_yes h true, by rw [mark_yes hfc, ghost_back rs q true hq], hfc, rfl, ?_, drop_yes h, idxP_none' (drop_gone hg.ids h), add_again hg h hq, find_again hg.ids h hq, ghostAt_length _ _ _, hle, by rw [List.length_append, hle]; simp; omega, fun k hk => ?_⟩
  · have := live_ghost (key := rs[q].key) hq
    exact decide_eq_false this
  · have hk2 : k < (dropAt rs q).length := by omega
    obtain ⟨h1, e⟩ := dropAt_get rs q k hk2
    refine ⟨by rw [List.length_append, hle]; simp; omega, h1, ?_⟩
    rw [List.getElem_append_left hk2]
    exact e
set_option maxHeartbeats 60000000 in
theorem Marks_any (n8 : Nat) (A : Option Addr) (n c : Nat) (l : List Op13) (id : Nat) (w : World) (h8 : n8 < 256) (hL : Lz NoX w 7 A n (opsL l)) (hok : ∀ o ∈ l, o.r.ok) :
    Calls Try.prog 6 #[.int .u8 (n8 : Int), .slice A n c, .int .u64 (id : Int)] w (RetV w (.bool true)) := by
  have HL := Lib.hid hL
  have HLN := Lib.hid hL.oplen
  have HOK := Lib.hid hok
  have zb0 : Hid ((#[Value.int .i64 0, .slice none 0 0, .slice none 0 0] : Array Value) = zbk) := rfl
  clear hL hok
  obtain ⟨lb, hlb⟩ : ∃ lb, lightB l = lb := ⟨_, rfl⟩
  have HLB := Lib.hid hlb
  cases lb
  · clear hlb
    go_enter Try.func6, Try.ntmps6
    go_wp2_with (first
      | (go_at_call 7; refine (light_any A n c l w HL.out).mono ?_; rintro e z ⟨rfl, rfl⟩; rw [HLB.out])
      | (go_at_call 8; refine (works_any _).mono ?_; rintro e z ⟨rfl, hk⟩; have HB4 := Lib.hid hk; clear hk))
    go_ret
    exact ⟨rfl, HB4.out⟩
  · obtain ⟨hn60, hval⟩ := light_len hlb
    rw [HLN.out] at hn60
    obtain ⟨ps, hps⟩ : ∃ ps, smallP n8 = ps := ⟨_, rfl⟩
    obtain ⟨pn, hpn⟩ : ∃ pn, ps.length = pn := ⟨_, rfl⟩
    have hp4 : pn ≤ 4 := by rw [← hpn, ← hps, smallP_length]; omega
    obtain ⟨rs, hrs⟩ : ∃ rs, madeR pn l n = rs := ⟨_, rfl⟩
    obtain ⟨rn, hrn⟩ : ∃ rn, rs.length = rn := ⟨_, rfl⟩
    have HG : Hid (GoodB pn rs) := by show GoodB _ _; rw [← hrs]; exact good_made HOK.out n (by rw [HLN.out]; exact Nat.le_refl _)
    have hrn2 : rn ≤ 20 := by
      have := HG.out.len
      rw [hrn] at this
      omega
    have HPS := Lib.hid hps
    have HPN := Lib.hid hpn
    have HRS := Lib.hid hrs
    have HRN := Lib.hid hrn
    have HVL := Lib.hid hval
    clear hlb hps hpn hrs hrn hval
    go_enter Try.func6, Try.ntmps6
    go_upto_region 4 with (first
      | (go_at_call 7; refine (light_any A n c l w HL.out).mono ?_; rintro e z ⟨rfl, rfl⟩; rw [HLB.out])
      | (go_at_call 10; refine (small_named n8 z h8 ps pn HPS.out HPN.out).mono ?_; rintro e z1 ⟨A5, c5, rfl, h5, hb1⟩; have H5 := Lib.hid h5; have HB1 : Hid (BelO z z1) := hb1; clear h5 hb1)
      | (go_at_call 9; refine (made_any 0 A5 pn c5 ps A n c l z1 H5.out (HL.out.below HB1.out) HOK.out HVL.out (by omega) hn60 rs rn HRS.out HRN.out).mono ?_; rintro e z2 ⟨PA, pc, RA, rc, A7, c7, rfl, h1, h2, h3, hc7, hb2⟩; have H1 := Lib.hid h1; have H3 := Lib.hid h3; have HB2 := Lib.hid (HB1.out.call hb2); clear h1 h3 hb2)
      | (refine wpList_store_new 29 (.tmp 7) (.tmp 31) rfl rfl rfl z2.heap.size z2 rfl rfl (bkA 0 (.slice PA pn pc) (.slice RA rn rc)) _ 3 rfl strBk rfl rfl (bkA_one _ _ _ _ _ _ _) rfl ?_; have HW := Lib.hid (LwS.new (d := 0) (pc := pc) HB2.out H1.out h2 H3.out)))
    generalize z2.alloc (.cells (bkA 0 (.slice PA pn pc) (.slice RA rn rc)) 29) = y5 at HW ⊢
    generalize z2.heap.size = gB at HW ⊢
    clear HL HOK HVL HRS HPS HLN HLB H1 H3 HB2 HB1 H5
    rcases idxP_cases (fun x => x.id == id) rs with hq | ⟨q, hql, hq⟩
    · have HQ := Lib.hid hq
      have HM1 : Hid (markR rs id true = (rs, false)) := mark_no hq true
      clear hq
      go_upto_region 9 with (first
        | (refine wpList_load_at 29 36 (.tmp 7) rfl rfl rfl gB rfl (bkA 0 (.slice PA pn pc) (.slice RA rn rc)) 3 strBk rfl HW.out.box ?_)
        | (go_at_call 12; refine (Find_any 0 PA pn pc RA rn rc rs id y5 HW.out.bk.r (by omega)).mono ?_; rw [HQ.out]; rintro e y6 ⟨rfl, hk⟩; have HW6 := Lib.hid (HW.out.call hk); clear hk)
        | (refine wpList_load_at 29 40 (.tmp 7) rfl rfl rfl gB rfl (bkA 0 (.slice PA pn pc) (.slice RA rn rc)) 3 strBk rfl HW6.out.box ?_)
        | (go_at_call 22; refine ((Mark_any 0 PA pn pc RA rn rc ps rs id true y6 HW6.out.bk (by omega) (by omega)).mono fun _ _ h => h.named (congrArg Prod.fst HM1.out) HRN.out (congrArg (fun p => Value.bool p.2) HM1.out)).mono ?_; rintro e y7 ⟨PC, cpC, RC, crC, rfl, h5, h6, hk⟩; have HW7 := Lib.hid (HW6.out.call hk); have O5 := Lib.hid h5; have O6 := Lib.hid h6; clear h5 h6 hk)
        | (refine wpList_store_new 29 (.tmp 11) (.tmp 43) rfl rfl rfl y7.heap.size y7 rfl rfl (bkA 0 (.slice PC pn cpC) (.slice RC rn crC)) _ 3 rfl strBk rfl rfl (bkA_one _ _ _ _ _ _ _) rfl ?_; have HC := Lib.hid (BxS.new O5.out O6.out); have HW8 := Lib.hid (HW7.out.call ((Below.refl y7.heap.size y7).alloc (Nat.le_refl _) (.cells (bkA 0 (.slice PC pn cpC) (.slice RC rn crC)) 29)))))
      generalize (y7.alloc (.cells (bkA 0 (.slice PC pn cpC) (.slice RC rn crC)) 29)) = y8 at HC HW8 ⊢
      generalize y7.heap.size = gC at HC ⊢
      have cc : y8.cell? ⟨gC, 2, none⟩ = some (.slice RC rn crC) := HC.out.box.cell 2
      have cb : y8.cell? ⟨gB, 2, none⟩ = some (.slice RA rn rc) := HW8.out.box.cell 2
      go_wp2_with fail
      refine (Same_any RC RA rn crC rc rs y8 HC.out.bk.r HW8.out.bk.r (by omega)).mono ?_
      rintro e y9 ⟨rfl, hk⟩
      have HW9 := Lib.hid (HW8.out.call hk)
      clear hk cc cb
      go_wp2_with fail
      refine (works_any _).mono ?_
      rintro e ya ⟨rfl, hk⟩
      have HWA := Lib.hid (HW9.out.call hk)
      clear hk
      go_wp2_with fail
      go_ret
      exact ⟨rfl, HWA.out.bel⟩
    · obtain ⟨r, hr⟩ : ∃ r, rs[q] = r := ⟨_, rfl⟩
      obtain ⟨rsC, rsE, rsF, f2, hmf⟩ : ∃ rsC rsE rsF f2, MkF pn rs id q r rsC rsE rsF f2 := ⟨_, _, _, _, hr ▸ mkF HG.out hq hql⟩
      have HMF := Lib.hid hmf
      have HQ := Lib.hid hq
      have HRQ : Hid (∀ h : q < rs.length, rs[q] = r) := fun _ => hr
      obtain ⟨n1, hn1⟩ : ∃ n1, rn = n1 + 1 := ⟨rn - 1, by rw [HRN.out] at hql; omega⟩
      have hqn : q < rn := by rw [HRN.out] at hql; exact hql
      have HLCn : Hid (rsC.length = rn) := by show _ = _; rw [hmf.lenC, HRN.out]
      have HLE : Hid (rsE.length = n1) := by show _ = _; rw [hmf.lenE, HRN.out]; omega
      have HLF : Hid (rsF.length = rn) := by show _ = _; rw [hmf.lenF, HRN.out]
      have HFF : Hid (idxP (fun x => x.id == id) rsF = (n1 : Int)) := by show _ = _; rw [hmf.ff, HRN.out]; omega
      have HN1 := Lib.hid hn1
      have hn1r : n1 < rn := by omega
      have hn1s : rn ≤ n1 + 1 := by omega
      clear hq hr hmf hn1 hql
      go_upto_region 10 with (first
        | (refine wpList_load_at 29 36 (.tmp 7) rfl rfl rfl gB rfl (bkA 0 (.slice PA pn pc) (.slice RA rn rc)) 3 strBk rfl HW.out.box ?_)
        | (go_at_call 12; refine (Find_any 0 PA pn pc RA rn rc rs id y5 HW.out.bk.r (by omega)).mono ?_; rw [HQ.out]; rintro e y6 ⟨rfl, hk⟩; have HW6 := Lib.hid (HW.out.call hk); clear hk)
        | (refine wpList_load_at 29 40 (.tmp 7) rfl rfl rfl gB rfl (bkA 0 (.slice PA pn pc) (.slice RA rn rc)) 3 strBk rfl HW6.out.box ?_)
        | (go_at_call 22; refine ((Mark_any 0 PA pn pc RA rn rc ps rs id true y6 HW6.out.bk (by omega) (by omega)).mono fun _ _ h => h.named (congrArg Prod.fst HMF.out.c) HLCn.out (congrArg (fun p => Value.bool p.2) HMF.out.c)).mono ?_; rintro e y7 ⟨PC, cpC, RC, crC, rfl, h5, h6, hk⟩; have HW7 := Lib.hid (HW6.out.call hk); have O5 := Lib.hid h5; have O6 := Lib.hid h6; clear h5 h6 hk)
        | (refine wpList_store_new 29 (.tmp 11) (.tmp 43) rfl rfl rfl y7.heap.size y7 rfl rfl (bkA 0 (.slice PC pn cpC) (.slice RC rn crC)) _ 3 rfl strBk rfl rfl (bkA_one _ _ _ _ _ _ _) rfl ?_; have HC := Lib.hid (BxS.new O5.out O6.out); have HW8 := Lib.hid (HW7.out.call ((Below.refl y7.heap.size y7).alloc (Nat.le_refl _) (.cells (bkA 0 (.slice PC pn cpC) (.slice RC rn crC)) 29)))))
      generalize (y7.alloc (.cells (bkA 0 (.slice PC pn cpC) (.slice RC rn crC)) 29)) = y8 at HC HW8 ⊢
      generalize y7.heap.size = gC at HC ⊢
      clear HW HW6 HW7 O5 O6
      obtain ⟨g, o, _, rfl, hgb, hgr⟩ := HW8.out.ref.rc hqn
      have R0 : Hid (∀ wz, Below y8.heap.size y8 wz → wz.rangeAt g (o + q * 6) (rcL r)) := fun wz hz => by
        have := pl_rangeAt_block hgr (hz.block g hgb)
        rw [HRQ.out _] at this
        exact this
      clear hgr hgb
      have R1 := R0
      have HCX : Hid (∀ wz, Below y8.heap.size y8 wz → At wz gC 29 (bkA 0 (.slice PC pn cpC) (.slice RC rn crC))) := fun wz hz => HC.out.box.under hz HC.out.box.lt
      have HMD : Hid (∀ wz, Below y8.heap.size y8 wz → Calls Try.prog 22 #[.agg (bkA 0 (.slice PC pn cpC) (.slice RC rn crC)), .int .u64 (id : Int), .bool r.ghost] wz (RetBN wz 0 ps pn rs rn (.bool true))) := fun wz hz => (Mark_any 0 PC pn cpC RC rn crC ps rsC id r.ghost wz (HC.out.bk.below hz) (by omega) (by omega)).mono fun _ _ h => h.named (congrArg Prod.fst HMF.out.d) HRN.out (congrArg (fun p => Value.bool p.2) HMF.out.d)
      go_cut [13, 14] from 59 to 69 (fun sx sc wx => ∃ (gD : Nat) (PD : Option Addr) (cpD : Nat) (RD : Option Addr) (crD : Nat), sx = .pointer (some ⟨gD, 0, none⟩) ∧ sc = .bool true ∧ Hid (BkN y8 gD 0 ps pn rs rn PD cpD RD crD wx))
      case first =>
        refine wp_region_held_drew (S := fun wz => Below y8.heap.size y8 wz) (by kernel_rfl) (Below.refl _ y8).drew (fun hS => ?_)
        refine tkS (v := .agg (bkA 0 (.slice PC pn cpC) (.slice RC rn crC))) 0 hS ?_ (hy := by intro wz hz; have q5 : wz.cell? ⟨g, o + q * 6 + 5, none⟩ = some (.bool r.ghost) := R1.out wz hz 5 _ rfl; exact exec_load_at 29 (.tmp 11) rfl gC rfl _ 3 strBk rfl (HCX.out wz hz))
        refine tkS 1 hS ?_
        refine tkS 2 hS ?_
        refine tkS 3 hS ?_
        refine tkS 4 hS ?_
        refine tkS 5 hS ?_
        refine tkS 6 hS ?_ (hy := by intro wz hz; have q5 : wz.cell? ⟨g, o + q * 6 + 5, none⟩ = some (.bool r.ghost) := R1.out wz hz 5 _ rfl; go_simp <;> with_reducible rfl)
        refine wpAnyH_ready (rs := [7, 11]) (by kernel_rfl) (by simp) ?_
        refine AllReadyH.cons rfl (fun K hK => ?_) (AllReadyH.cons rfl (fun K hK => ?_) AllReadyH.nil)
        · go_simp
          refine (HMD.out y8.drew hS).mono ?_
          rintro e y6 ⟨A5, c5, A6, c6, rfl, h5, h6, hb6⟩
          have hb : True := trivial
          have O5 := Lib.hid h5
          have O6 := Lib.hid h6
          have B6 := Lib.hid hb6
          have HS1 := Lib.hid hS
          clear h5 h6 hb6
          refine hK.out _ _ (HS1.out.trans (B6.out.mono (Below.size HS1.out))) (fun hT => ?_)
          clear hK hS
          have hS := hT
          clear hT
          refine tkS 8 hS ?_
          refine tkS 9 hS ?_
          refine tkS 10 hS ?_
          refine wpAnyH_ready (rs := [11]) (by kernel_rfl) (by simp) ?_
          refine AllReadyH.cons rfl (fun K hK => ?_) AllReadyH.nil
          go_simp
          rw [zb0.out]
          have AX := Lib.hid (At.new y6 29 zbk)
          have HY := Lib.hid (Below.size HS1.out)
          have HG := Lib.hid (show y8.heap.size ≤ y6.heap.size from Below.size hS)
          have OX5 := Lib.hid (own_under O5.out ((Below.refl y6.heap.size y6).alloc (Nat.le_refl _) (.cells zbk 29)) (Nat.le_refl _))
          have OX6 := Lib.hid (own_under O6.out ((Below.refl y6.heap.size y6).alloc (Nat.le_refl _) (.cells zbk 29)) (Nat.le_refl _))
          have HT0 := Below.alloc hS (Below.size hS) (.cells zbk 29)
          refine hK.out _ _ (HT0) (fun hT => ?_)
          clear hK hS
          have hS := hT
          clear hT
          refine wpAnyH_ready (rs := [12]) (by kernel_rfl) (by simp) ?_
          refine AllReadyH.cons rfl (fun K hK => ?_) AllReadyH.nil
          rw [if_pos (by rfl)]
          refine wp_store_at 29 (.tmp 13) (.tmp 68) rfl rfl y6.heap.size rfl (bkA 0 (.slice A5 pn c5) (.slice A6 rn c6)) zbk 3 rfl strBk rfl rfl (bkA_one _ _ _ _ _ _ _) AX.out ?_
          intro w9 ha9 hg9
          have HN := Lib.hid (show BkN y8 y6.heap.size 0 ps pn rs rn A5 c5 A6 c6 w9 from BkN.put hS HY.out OX5.out OX6.out HG.out AX.out ha9 hg9)
          clear ha9 hg9
          refine hK.out _ _ (HN.out.bel) (fun hT => ?_)
          clear hK hS
          have hS := hT
          clear hT
          dsimp only [Act.put]
          refine tkS 13 hS ?_
          refine wpAnyH_done (by kernel_rfl) ?_ _
          go_wp2_with fail
          go_meet
          exact ⟨_, A5, c5, A6, c6, rfl, rfl, HN⟩
        · go_simp
          rw [zb0.out]
          have AX0 := Lib.hid (At.new y8.drew 29 zbk)
          have HT0 := Below.alloc hS (Below.size hS) (.cells zbk 29)
          have HG := Lib.hid (Below.size hS)
          refine hK.out _ _ (HT0) (fun hT => ?_)
          clear hK hS
          have hS := hT
          clear hT
          refine wpAnyH_ready (rs := [7]) (by kernel_rfl) (by simp) ?_
          refine AllReadyH.cons rfl (fun K hK => ?_) AllReadyH.nil
          go_simp
          refine (HMD.out (y8.drew.alloc (.cells zbk 29)) hS).mono ?_
          rintro e y6 ⟨A5, c5, A6, c6, rfl, h5, h6, hb6⟩
          have hb : True := trivial
          have O5 := Lib.hid h5
          have O6 := Lib.hid h6
          have B6 := Lib.hid hb6
          have HS1 := Lib.hid hS
          clear h5 h6 hb6
          refine hK.out _ _ (HS1.out.trans (B6.out.mono (Below.size HS1.out))) (fun hT => ?_)
          clear hK hS
          have hS := hT
          clear hT
          have AX := Lib.hid (AX0.out.under B6.out AX0.out.lt)
          have OX5 := O5
          have OX6 := O6
          have HY := Lib.hid (Below.size HS1.out)
          refine tkS 8 hS ?_
          refine tkS 9 hS ?_
          refine tkS 10 hS ?_
          refine wpAnyH_ready (rs := [12]) (by kernel_rfl) (by simp) ?_
          refine AllReadyH.cons rfl (fun K hK => ?_) AllReadyH.nil
          rw [if_pos (by rfl)]
          refine wp_store_at 29 (.tmp 13) (.tmp 68) rfl rfl y8.drew.heap.size rfl (bkA 0 (.slice A5 pn c5) (.slice A6 rn c6)) zbk 3 rfl strBk rfl rfl (bkA_one _ _ _ _ _ _ _) AX.out ?_
          intro w9 ha9 hg9
          have HN := Lib.hid (show BkN y8 y8.drew.heap.size 0 ps pn rs rn A5 c5 A6 c6 w9 from BkN.put hS HY.out OX5.out OX6.out HG.out AX.out ha9 hg9)
          clear ha9 hg9
          refine hK.out _ _ (HN.out.bel) (fun hT => ?_)
          clear hK hS
          have hS := hT
          clear hT
          dsimp only [Act.put]
          refine tkS 13 hS ?_
          refine wpAnyH_done (by kernel_rfl) ?_ _
          go_wp2_with fail
          go_meet
          exact ⟨_, A5, c5, A6, c6, rfl, rfl, HN⟩
      obtain ⟨gD, PD, cpD, RD, crD, rfl, rfl, HN⟩ := hcut
      rename World => y9
      have HD := Lib.hid HN.out.bx
      have HW9 := Lib.hid (HW8.out.call HN.out.bel)
      have HC9 := Lib.hid (HC.out.call HN.out.bel)
      have R2 : Hid (∀ wz, Below y9.heap.size y9 wz → wz.rangeAt g (o + q * 6) (rcL r)) := fun wz hz => R0.out wz (HN.out.bel.trans (hz.mono HN.out.bel.size))
      have HCY : Hid (∀ wz, Below y9.heap.size y9 wz → At wz gC 29 (bkA 0 (.slice PC pn cpC) (.slice RC rn crC))) := fun wz hz => HC9.out.box.under hz HC9.out.box.lt
      have HDX : Hid (∀ wz, Below y9.heap.size y9 wz → At wz gD 29 (bkA 0 (.slice PD pn cpD) (.slice RD rn crD))) := fun wz hz => HD.out.box.under hz HD.out.box.lt
      have HFC : Hid (∀ wz, Below y9.heap.size y9 wz → Calls Try.prog 12 #[.agg (bkA 0 (.slice PC pn cpC) (.slice RC rn crC)), .int .u64 (id : Int)] wz (RetV wz (.int .i64 (q : Int)))) := fun wz hz => by rw [← HMF.out.fc]; exact Find_any 0 PC pn cpC RC rn crC rsC id wz (HC9.out.bk.below hz).r (by omega)
      have HLC : Hid (∀ wz, Below y9.heap.size y9 wz → Calls Try.prog 14 #[.agg (bkA 0 (.slice PC pn cpC) (.slice RC rn crC)), .int .u64 (r.key : Int)] wz (RetV wz (.int .i64 f2))) := fun wz hz => by rw [← HMF.out.lc]; exact Live_any 0 PC pn cpC RC rn crC rsC r.key wz (HC9.out.bk.below hz).r (by omega)
      have HSD : Hid (∀ wz, Below y9.heap.size y9 wz → Calls Try.prog 20 #[.slice RD rn crD, .slice (some ⟨g, o, none⟩) rn c7] wz (RetV wz (.bool true))) := fun wz hz => Same_any RD (some ⟨g, o, none⟩) rn crD c7 rs wz (HD.out.bk.below hz).r (HW9.out.ref.below hz) (by omega)
      have HNE : Hid (¬ f2 = (q : Int)) := fun e => by have := HMF.out.ne; rw [e] at this; simp at this
      clear HMD HCX R1 R0
      go_upto_region 11 with fail
      refine wp_region_held_drew (S := Below y9.heap.size y9) (by kernel_rfl) (Below.refl _ y9).drew (fun hS => ?_)
      refine tkS 0 hS ?_
      refine tkS 1 hS ?_
      refine tkS 2 hS ?_
      refine tkS 3 hS ?_
      refine tkS 4 hS ?_
      refine tkS 5 hS ?_
      refine tkS 6 hS ?_
      refine tkS (v := .agg (bkA 0 (.slice PC pn cpC) (.slice RC rn crC))) 7 hS ?_ (hy := by intro wz hz; have q1 : wz.cell? ⟨g, o + q * 6 + 1, none⟩ = some (.int .u64 (r.key : Int)) := R2.out wz hz 1 _ rfl; have q2 : wz.cell? ⟨gD, 2, none⟩ = some (.slice RD rn crD) := (HDX.out wz hz).cell 2; exact exec_load_at 29 (.tmp 11) rfl gC rfl _ 3 strBk rfl (HCY.out wz hz))
      refine tkS 8 hS ?_
      refine tkS 10 hS ?_
      refine wpAnyH_ready (rs := [9]) (by kernel_rfl) (by simp) ?_
      refine AllReadyH.cons rfl (fun K hK => ?_) AllReadyH.nil
      go_simp
      refine (HFC.out _ hS).mono ?_
      rintro e ya ⟨rfl, hb9⟩
      have hb : True := trivial
      have HS5 := Lib.hid (hS.trans (hb9.mono hS.size))
      clear hb9
      refine hK.out _ _ (HS5.out) (fun hT => ?_)
      clear hK hb hS
      have hS := hT
      clear hT
      refine tkS (v := .bool false) 11 hS ?_ (hy := by intro wz hz; have q1 : wz.cell? ⟨g, o + q * 6 + 1, none⟩ = some (.int .u64 (r.key : Int)) := R2.out wz hz 1 _ rfl; have q2 : wz.cell? ⟨gD, 2, none⟩ = some (.slice RD rn crD) := (HDX.out wz hz).cell 2; (go_simp <;> first | rfl | simp))
      refine tkS 12 hS ?_
      refine tkS 13 hS ?_
      refine tkS (v := .agg (bkA 0 (.slice PC pn cpC) (.slice RC rn crC))) 14 hS ?_ (hy := by intro wz hz; have q1 : wz.cell? ⟨g, o + q * 6 + 1, none⟩ = some (.int .u64 (r.key : Int)) := R2.out wz hz 1 _ rfl; have q2 : wz.cell? ⟨gD, 2, none⟩ = some (.slice RD rn crD) := (HDX.out wz hz).cell 2; exact exec_load_at 29 (.tmp 11) rfl gC rfl _ 3 strBk rfl (HCY.out wz hz))
      refine tkS 15 hS ?_
      refine tkS 16 hS ?_
      refine tkS 17 hS ?_
      refine tkS 18 hS ?_
      refine tkS 19 hS ?_ (hy := by intro wz hz; have q1 : wz.cell? ⟨g, o + q * 6 + 1, none⟩ = some (.int .u64 (r.key : Int)) := R2.out wz hz 1 _ rfl; have q2 : wz.cell? ⟨gD, 2, none⟩ = some (.slice RD rn crD) := (HDX.out wz hz).cell 2; go_simp <;> with_reducible rfl)
      refine tkS 21 hS ?_
      refine wpAnyH_ready (rs := [20]) (by kernel_rfl) (by simp) ?_
      refine AllReadyH.cons rfl (fun K hK => ?_) AllReadyH.nil
      go_simp
      refine (HLC.out _ hS).mono ?_
      rintro e ya ⟨rfl, hb9⟩
      have hb : True := trivial
      have HS5 := Lib.hid (hS.trans (hb9.mono hS.size))
      clear hb9
      refine hK.out _ _ (HS5.out) (fun hT => ?_)
      clear hK hb hS
      have hS := hT
      clear hT
      refine tkS (v := .bool false) 22 hS ?_ (hy := by intro wz hz; have q1 : wz.cell? ⟨g, o + q * 6 + 1, none⟩ = some (.int .u64 (r.key : Int)) := R2.out wz hz 1 _ rfl; have q2 : wz.cell? ⟨gD, 2, none⟩ = some (.slice RD rn crD) := (HDX.out wz hz).cell 2; (go_simp <;> exact HNE.out))
      refine tkS 23 hS ?_
      refine tkS 24 hS ?_
      refine tkS 25 hS ?_
      refine tkS 26 hS ?_ (hy := by intro wz hz; have q1 : wz.cell? ⟨g, o + q * 6 + 1, none⟩ = some (.int .u64 (r.key : Int)) := R2.out wz hz 1 _ rfl; have q2 : wz.cell? ⟨gD, 2, none⟩ = some (.slice RD rn crD) := (HDX.out wz hz).cell 2; go_simp <;> with_reducible rfl)
      refine tkS 27 hS ?_
      refine wpAnyH_ready (rs := [28]) (by kernel_rfl) (by simp) ?_
      refine AllReadyH.cons rfl (fun K hK => ?_) AllReadyH.nil
      go_simp
      refine (HSD.out _ hS).mono ?_
      rintro e ya ⟨rfl, hb9⟩
      have hb : True := trivial
      have HS5 := Lib.hid (hS.trans (hb9.mono hS.size))
      clear hb9
      refine hK.out _ _ (HS5.out) (fun hT => ?_)
      clear hK hb hS
      have hS := hT
      clear hT
      refine tkS 29 hS ?_
      refine tkS 30 hS ?_
      refine wpAnyH_done (by kernel_rfl) ?_ _
      have HWA := Lib.hid (HW9.out.call hS)
      have HRA : Hid (∀ wz, Below ya.heap.size ya wz → wz.rangeAt g (o + q * 6) (rcL r)) := fun wz hz => R2.out wz (hS.trans (hz.mono (Below.size hS)))
      clear hS HC HW8 HN HD HW9 HC9 R2 HCY HDX HFC HLC HSD HNE
      go_upto_region 14 with (first
        | (refine wpList_load_at 29 102 (.tmp 7) rfl rfl rfl gB rfl (bkA 0 (.slice PA pn pc) (.slice RA rn rc)) 3 strBk rfl HWA.out.box ?_)
        | (go_at_call 23; refine ((Drop_any 0 PA pn pc RA rn rc ps rs id ya HWA.out.bk (by omega) (by omega) HWA.out.cap).mono fun _ _ h => h.named (congrArg Prod.fst HMF.out.e) HLE.out (congrArg (fun p => Value.bool p.2) HMF.out.e)).mono ?_; rintro e yb ⟨PE, cpE, RE, crE, rfl, h5, h6, hk⟩; have HWB := Lib.hid (HWA.out.call hk); have HKB : Hid (Below ya.heap.size ya yb) := hk; have O5 := Lib.hid h5; have O6 := Lib.hid h6; clear h5 h6 hk)
        | (refine wpList_store_new 29 (.tmp 15) (.tmp 105) rfl rfl rfl yb.heap.size yb rfl rfl (bkA 0 (.slice PE pn cpE) (.slice RE n1 crE)) _ 3 rfl strBk rfl rfl (bkA_one _ _ _ _ _ _ _) rfl ?_; have HE := Lib.hid (BxS.new O5.out O6.out); have hka := (Below.refl yb.heap.size yb).alloc (Nat.le_refl _) (.cells (bkA 0 (.slice PE pn cpE) (.slice RE n1 crE)) 29); have HWC := Lib.hid (HWB.out.call hka); have HKC := Lib.hid (HKB.out.trans (hka.mono HKB.out.size)); clear hka))
      generalize (yb.alloc (.cells (bkA 0 (.slice PE pn cpE) (.slice RE n1 crE)) 29)) = yc at HE HWC HKC ⊢
      generalize yb.heap.size = gE at HE ⊢
      have R3 : Hid (∀ wz, Below yc.heap.size yc wz → wz.rangeAt g (o + q * 6) (rcL r)) := fun wz hz => HRA.out wz (HKC.out.trans (hz.mono HKC.out.size))
      have HEX : Hid (∀ wz, Below yc.heap.size yc wz → At wz gE 29 (bkA 0 (.slice PE pn cpE) (.slice RE n1 crE))) := fun wz hz => HE.out.box.under hz HE.out.box.lt
      have HVR : Hid (r.val.length ≤ 90000) := by
        have hql : q < rs.length := by rw [HRN.out]; exact hqn
        have := (HG.out.recs _ (List.getElem_mem hql)).2
        rw [HRQ.out hql] at this
        show _ ≤ _
        omega
      have HAD : Hid (∀ wz, Below yc.heap.size yc wz → Calls Try.prog 24 #[.agg (bkA 0 (.slice PE pn cpE) (.slice RE n1 crE)), .agg (rcA r)] wz (RetBN wz 0 ps pn rsF rn (.int .i64 0))) := fun wz hz => (Add_any 0 PE pn cpE RE n1 crE ps rsE r wz (HE.out.bk.below hz) (by omega) (by omega) HE.out.cap HVR.out).mono fun _ _ h => h.named (congrArg Prod.fst HMF.out.f) HLF.out (congrArg (fun p => Value.int .i64 p.2) HMF.out.f)
      clear HWA HRA HWB HKB O5 O6 HKC
      go_cut [17, 18] from 107 to 115 (fun sx sc wx => ∃ (gF : Nat) (PF : Option Addr) (cpF : Nat) (RF : Option Addr) (crF : Nat), sx = .pointer (some ⟨gF, 0, none⟩) ∧ sc = .int .i64 0 ∧ Hid (BkN yc gF 0 ps pn rsF rn PF cpF RF crF wx))
      case first =>
        refine wp_region_held_drew (S := fun wz => Below yc.heap.size yc wz) (by kernel_rfl) (Below.refl _ yc).drew (fun hS => ?_)
        refine tkS (v := .agg (bkA 0 (.slice PE pn cpE) (.slice RE n1 crE))) 0 hS ?_ (hy := by intro wz hz; exact exec_load_at 29 (.tmp 15) rfl gE rfl _ 3 strBk rfl (HEX.out wz hz))
        refine tkS 1 hS ?_
        refine tkS 2 hS ?_
        refine tkS 3 hS ?_
        refine tkS (v := .agg (rcA r)) 4 hS ?_ (hy := by intro wz hz; exact exec_load_rc (.tmp 111) rfl g (o + q * 6) rfl r (R3.out wz hz))
        refine wpAnyH_ready (rs := [5, 9]) (by kernel_rfl) (by simp) ?_
        refine AllReadyH.cons rfl (fun K hK => ?_) (AllReadyH.cons rfl (fun K hK => ?_) AllReadyH.nil)
        · go_simp
          refine (HAD.out yc.drew hS).mono ?_
          rintro e y6 ⟨A5, c5, A6, c6, rfl, h5, h6, hb6⟩
          have hb : True := trivial
          have O5 := Lib.hid h5
          have O6 := Lib.hid h6
          have B6 := Lib.hid hb6
          have HS1 := Lib.hid hS
          clear h5 h6 hb6
          refine hK.out _ _ (HS1.out.trans (B6.out.mono (Below.size HS1.out))) (fun hT => ?_)
          clear hK hS
          have hS := hT
          clear hT
          refine tkS 6 hS ?_
          refine tkS 7 hS ?_
          refine tkS 8 hS ?_
          refine wpAnyH_ready (rs := [9]) (by kernel_rfl) (by simp) ?_
          refine AllReadyH.cons rfl (fun K hK => ?_) AllReadyH.nil
          go_simp
          rw [zb0.out]
          have AX := Lib.hid (At.new y6 29 zbk)
          have HY := Lib.hid (Below.size HS1.out)
          have HG := Lib.hid (show yc.heap.size ≤ y6.heap.size from Below.size hS)
          have OX5 := Lib.hid (own_under O5.out ((Below.refl y6.heap.size y6).alloc (Nat.le_refl _) (.cells zbk 29)) (Nat.le_refl _))
          have OX6 := Lib.hid (own_under O6.out ((Below.refl y6.heap.size y6).alloc (Nat.le_refl _) (.cells zbk 29)) (Nat.le_refl _))
          have HT0 := Below.alloc hS (Below.size hS) (.cells zbk 29)
          refine hK.out _ _ (HT0) (fun hT => ?_)
          clear hK hS
          have hS := hT
          clear hT
          refine wpAnyH_ready (rs := [10]) (by kernel_rfl) (by simp) ?_
          refine AllReadyH.cons rfl (fun K hK => ?_) AllReadyH.nil
          rw [if_pos (by rfl)]
          refine wp_store_at 29 (.tmp 17) (.tmp 114) rfl rfl y6.heap.size rfl (bkA 0 (.slice A5 pn c5) (.slice A6 rn c6)) zbk 3 rfl strBk rfl rfl (bkA_one _ _ _ _ _ _ _) AX.out ?_
          intro w9 ha9 hg9
          have HN := Lib.hid (show BkN yc y6.heap.size 0 ps pn rsF rn A5 c5 A6 c6 w9 from BkN.put hS HY.out OX5.out OX6.out HG.out AX.out ha9 hg9)
          clear ha9 hg9
          refine hK.out _ _ (HN.out.bel) (fun hT => ?_)
          clear hK hS
          have hS := hT
          clear hT
          dsimp only [Act.put]
          refine tkS 11 hS ?_
          refine wpAnyH_done (by kernel_rfl) ?_ _
          go_wp2_with fail
          go_meet
          exact ⟨_, A5, c5, A6, c6, rfl, rfl, HN⟩
        · go_simp
          rw [zb0.out]
          have AX0 := Lib.hid (At.new yc.drew 29 zbk)
          have HT0 := Below.alloc hS (Below.size hS) (.cells zbk 29)
          have HG := Lib.hid (Below.size hS)
          refine hK.out _ _ (HT0) (fun hT => ?_)
          clear hK hS
          have hS := hT
          clear hT
          refine wpAnyH_ready (rs := [5]) (by kernel_rfl) (by simp) ?_
          refine AllReadyH.cons rfl (fun K hK => ?_) AllReadyH.nil
          go_simp
          refine (HAD.out (yc.drew.alloc (.cells zbk 29)) hS).mono ?_
          rintro e y6 ⟨A5, c5, A6, c6, rfl, h5, h6, hb6⟩
          have hb : True := trivial
          have O5 := Lib.hid h5
          have O6 := Lib.hid h6
          have B6 := Lib.hid hb6
          have HS1 := Lib.hid hS
          clear h5 h6 hb6
          refine hK.out _ _ (HS1.out.trans (B6.out.mono (Below.size HS1.out))) (fun hT => ?_)
          clear hK hS
          have hS := hT
          clear hT
          have AX := Lib.hid (AX0.out.under B6.out AX0.out.lt)
          have OX5 := O5
          have OX6 := O6
          have HY := Lib.hid (Below.size HS1.out)
          refine tkS 6 hS ?_
          refine tkS 7 hS ?_
          refine tkS 8 hS ?_
          refine wpAnyH_ready (rs := [10]) (by kernel_rfl) (by simp) ?_
          refine AllReadyH.cons rfl (fun K hK => ?_) AllReadyH.nil
          rw [if_pos (by rfl)]
          refine wp_store_at 29 (.tmp 17) (.tmp 114) rfl rfl yc.drew.heap.size rfl (bkA 0 (.slice A5 pn c5) (.slice A6 rn c6)) zbk 3 rfl strBk rfl rfl (bkA_one _ _ _ _ _ _ _) AX.out ?_
          intro w9 ha9 hg9
          have HN := Lib.hid (show BkN yc yc.drew.heap.size 0 ps pn rsF rn A5 c5 A6 c6 w9 from BkN.put hS HY.out OX5.out OX6.out HG.out AX.out ha9 hg9)
          clear ha9 hg9
          refine hK.out _ _ (HN.out.bel) (fun hT => ?_)
          clear hK hS
          have hS := hT
          clear hT
          dsimp only [Act.put]
          refine tkS 11 hS ?_
          refine wpAnyH_done (by kernel_rfl) ?_ _
          go_wp2_with fail
          go_meet
          exact ⟨_, A5, c5, A6, c6, rfl, rfl, HN⟩
      obtain ⟨gF, PF, cpF, RF, crF, rfl, rfl, HN⟩ := hcut
      rename World => yd
      have HF := Lib.hid HN.out.bx
      have HWD := Lib.hid (HWC.out.call HN.out.bel)
      have HED := Lib.hid (HE.out.call HN.out.bel)
      have ce0 : yd.cell? ⟨gE, 0, none⟩ = some (.int .i64 0) := HED.out.box.cell 0
      have ce1 : yd.cell? ⟨gE, 1, none⟩ = some (.slice PE pn cpE) := HED.out.box.cell 1
      have ce2 : yd.cell? ⟨gE, 2, none⟩ = some (.slice RE n1 crE) := HED.out.box.cell 2
      have hw1 : wrap64 ((rn : Int) - 1) = (n1 : Int) := by have := HN1.out; unfold wrap64; omega
      have hw2 : IntKind.i64.wrap ((rn : Int) - 1) = (n1 : Int) := by have := HN1.out; rw [IntKind.wrap_i64]; omega
      clear HWC HE HN R3 HEX HAD HVR
      go_wp2_with fail
      refine (Find_any 0 PE pn cpE RE n1 crE rsE id yd HED.out.bk.r (by omega)).mono ?_
      rw [HMF.out.fe]
      rintro e ye ⟨rfl, hk⟩
      have HWE := Lib.hid (HWD.out.call hk)
      have HFE := Lib.hid (HF.out.call hk)
      have cf0 : ye.cell? ⟨gF, 0, none⟩ = some (.int .i64 0) := HFE.out.box.cell 0
      have cf1 : ye.cell? ⟨gF, 1, none⟩ = some (.slice PF pn cpF) := HFE.out.box.cell 1
      have cf2 : ye.cell? ⟨gF, 2, none⟩ = some (.slice RF rn crF) := HFE.out.box.cell 2
      clear hk ce0 ce1 ce2 HWD HED HF
      go_wp2_with fail
      refine (Find_any 0 PF pn cpF RF rn crF rsF id ye HFE.out.bk.r (by omega)).mono ?_
      rw [HFF.out]
      rintro e yf ⟨rfl, hk⟩
      have HWF := Lib.hid (HWE.out.call hk)
      have HFF2 := Lib.hid (HFE.out.call hk)
      clear hk cf0 cf1 cf2 HWE HFE
      go_wp2_with fail
      go_loopw [6, 19] (fun v6 vi wr => ∃ k : Nat, k ≤ n1 ∧ v6 = .bool false ∧ vi = .int .i64 (k : Int) ∧ Hid (Below yf.heap.size yf wr)) (fun _ i _ => n1 - (intOf i).toNat)
      case atStart => exact ⟨0, Nat.zero_le _, rfl, by go_num, Lib.hid (Below.refl _ _)⟩
      case round =>
        obtain ⟨k, hk, rfl, rfl, HB⟩ := hrel
        by_cases hlt : k < n1
        · obtain ⟨hkf, hfr, he⟩ := HMF.out.at_ k (by rw [HRN.out]; omega)
          obtain ⟨rx, hrx⟩ : ∃ rx, rsF[k] = rx := ⟨_, rfl⟩
          rw [hrx] at he
          obtain ⟨gx, ox, hl, hRF, hbx, hcx⟩ := HFF2.out.bk.r.rc (k := k) (by omega)
          subst hRF
          rw [hrx] at hcx
          have HFX : Hid (∀ wz, Below yf.heap.size yf wz → At wz gF 29 (bkA 0 (.slice PF pn cpF) (.slice (some ⟨gx, ox, none⟩) rn crF))) := fun wz hz => HFF2.out.box.under hz HFF2.out.box.lt
          have HWR : Hid (∀ wz, Below wr.heap.size wr wz → Below yf.heap.size yf wz) := fun wz hz => HB.out.trans (hz.mono HB.out.size)
          have RX1 : Hid (∀ wz, Below wr.heap.size wr wz → wz.rangeAt gx (ox + k * 6) (rcL rx)) := fun wz hz => pl_rangeAt_block hcx ((HWR.out wz hz).block gx hbx)
          have HQX : Hid (∀ fr, fr < rn → (∀ h : fr < rs.length, rs[fr] = rx) → ∀ wz, Below wr.heap.size wr wz → wz.rangeAt g (o + fr * 6) (rcL rx)) := fun fr hf hx wz hz => by
            obtain ⟨b1, o1, hl1, e1, hb1, hc1⟩ := HWF.out.ref.rc hf
            injection e1 with e1
            injection e1 with e2 e3
            subst e2 e3
            rw [hx] at hc1
            exact pl_rangeAt_block hc1 ((HWR.out wz hz).block _ hb1)
          obtain ⟨kx, hkx⟩ : ∃ kx, kx = k + 1 := ⟨_, rfl⟩
          have e1 : (k : Int) + 1 = (kx : Int) := by omega
          have hkr : k < rn := Nat.lt_trans hlt hn1r
          have hkxr : kx < rn := by rw [hkx]; exact Nat.lt_of_le_of_lt hlt hn1r
          obtain ⟨e2, e3⟩ := wr_small kx (Nat.le_trans (Nat.le_of_lt hkxr) (Nat.le_trans hrn2 (by decide)))
          have HKX := Lib.hid hkx
          have HE : Hid (∀ fr, fr = (if k < q then k else k + 1) → ∀ h : fr < rs.length, rs[fr] = rx) := fun fr e h => by subst e; exact he.symm
          clear hrx hcx hbx hkx he hfr hkf hl
          by_cases hkq : k < q
          · have RX2 : Hid (∀ wz, Below wr.heap.size wr wz → wz.rangeAt g (o + k * 6) (rcL rx)) := HQX.out k hkr (fun h => HE.out k (by rw [if_pos hkq]) h)
            have hqk : ¬ q ≤ k := Nat.not_le.2 hkq
            have hqd : decide (q ≤ k) = false := decide_eq_false hqk
            clear HQX HE
            go_upto_region 23 with fail
            refine wp_region_held_drew (S := Below wr.heap.size wr) (by kernel_rfl) (Below.refl _ wr).drew (fun hS => ?_)
            refine tkS 0 hS ?_
            refine tkS 1 hS ?_ (hy := by intro wz hz; have q2 : wz.cell? ⟨gF, 2, none⟩ = some (.slice (some ⟨gx, ox, none⟩) rn crF) := (HFX.out wz (HWR.out wz hz)).cell 2; go_simp <;> with_reducible rfl)
            refine tkS 2 hS ?_
            refine tkS 3 hS ?_
            refine tkS (v := .agg (rcA rx)) 4 hS ?_ (hy := by intro wz hz; have q2 : wz.cell? ⟨gF, 2, none⟩ = some (.slice (some ⟨gx, ox, none⟩) rn crF) := (HFX.out wz (HWR.out wz hz)).cell 2; exact exec_load_rc (.tmp 161) rfl gx (ox + k * 6) rfl rx (RX1.out wz hz))
            refine tkS 5 hS ?_
            refine tkS 6 hS ?_
            refine tkS 7 hS ?_
            refine tkS (v := .agg (rcA rx)) 8 hS ?_ (hy := by intro wz hz; have q2 : wz.cell? ⟨gF, 2, none⟩ = some (.slice (some ⟨gx, ox, none⟩) rn crF) := (HFX.out wz (HWR.out wz hz)).cell 2; exact exec_load_rc (.tmp 165) rfl g (o + k * 6) rfl rx (RX2.out wz hz))
            refine tkS (v := .bool (!(sameR rx rx))) 9 hS ?_ (hy := by intro wz hz; have q2 : wz.cell? ⟨gF, 2, none⟩ = some (.slice (some ⟨gx, ox, none⟩) rn crF) := (HFX.out wz (HWR.out wz hz)).cell 2; exact exec_neq_rc (.tmp 162) (.tmp 166) rfl rx rx wz rfl rfl)
            refine wpAnyH_done (by kernel_rfl) ?_ _
            have HB3 := Lib.hid (HB.out.trans (hS.mono HB.out.size))
            clear hS
            rw [sameR_refl]
            go_wp2_with fail
            clear e2 e3 hw1 hw2
            go_round
            case rel => exact ⟨k + 1, by omega, by first | rfl | trivial, by rw [HKX.out], HB3⟩
            case measure => have := HKX.out; simp [intOf]; omega
          · have RX2 : Hid (∀ wz, Below wr.heap.size wr wz → wz.rangeAt g (o + kx * 6) (rcL rx)) := HQX.out kx hkxr (fun h => HE.out kx (by rw [if_neg hkq]; exact HKX.out) h)
            have hqk : q ≤ k := Nat.le_of_not_lt hkq
            have hqd : decide (q ≤ k) = true := decide_eq_true hqk
            clear HQX HE
            go_upto_region 23 with fail
            refine wp_region_held_drew (S := Below wr.heap.size wr) (by kernel_rfl) (Below.refl _ wr).drew (fun hS => ?_)
            refine tkS 0 hS ?_
            refine tkS 1 hS ?_ (hy := by intro wz hz; have q2 : wz.cell? ⟨gF, 2, none⟩ = some (.slice (some ⟨gx, ox, none⟩) rn crF) := (HFX.out wz (HWR.out wz hz)).cell 2; go_simp <;> with_reducible rfl)
            refine tkS 2 hS ?_
            refine tkS 3 hS ?_
            refine tkS (v := .agg (rcA rx)) 4 hS ?_ (hy := by intro wz hz; have q2 : wz.cell? ⟨gF, 2, none⟩ = some (.slice (some ⟨gx, ox, none⟩) rn crF) := (HFX.out wz (HWR.out wz hz)).cell 2; exact exec_load_rc (.tmp 161) rfl gx (ox + k * 6) rfl rx (RX1.out wz hz))
            refine tkS 5 hS ?_
            refine tkS 6 hS ?_
            refine tkS 7 hS ?_
            refine tkS (v := .agg (rcA rx)) 8 hS ?_ (hy := by intro wz hz; have q2 : wz.cell? ⟨gF, 2, none⟩ = some (.slice (some ⟨gx, ox, none⟩) rn crF) := (HFX.out wz (HWR.out wz hz)).cell 2; exact exec_load_rc (.tmp 165) rfl g (o + kx * 6) rfl rx (RX2.out wz hz))
            refine tkS (v := .bool (!(sameR rx rx))) 9 hS ?_ (hy := by intro wz hz; have q2 : wz.cell? ⟨gF, 2, none⟩ = some (.slice (some ⟨gx, ox, none⟩) rn crF) := (HFX.out wz (HWR.out wz hz)).cell 2; exact exec_neq_rc (.tmp 162) (.tmp 166) rfl rx rx wz rfl rfl)
            refine wpAnyH_done (by kernel_rfl) ?_ _
            have HB3 := Lib.hid (HB.out.trans (hS.mono HB.out.size))
            clear hS
            rw [sameR_refl]
            go_wp2_with fail
            clear e2 e3 hw1 hw2
            go_round
            case rel => exact ⟨k + 1, by omega, by first | rfl | trivial, by rw [HKX.out], HB3⟩
            case measure => have := HKX.out; simp [intOf]; omega
        · obtain rfl : k = n1 := Nat.le_antisymm hk (Nat.le_of_not_lt hlt)
          go_wp2_with fail
          refine (works_any _).mono ?_
          rintro e yg ⟨rfl, hkk⟩
          have HLAST := Lib.hid ((HWF.out.bel.call HB.out).call hkk)
          clear hkk
          go_wp2_with fail
          go_ret
          exact ⟨rfl, HLAST.out⟩
end Go.Proofs.Ytpffnjnncgmgnaa

namespace Go.Proofs.Ytpffnjnncgmgnaa
open Go.RowKit Go.Deep Go.Joins Go.ChangeShapes Go.WideShapes
set_option maxRecDepth 20000

theorem ceI : Try.prog.cellsOf 3 = 1 := by kernel_rfl
theorem ceB : Try.prog.cellsOf 4 = 1 := by kernel_rfl
theorem ceS : Try.prog.cellsOf 9 = 1 := by kernel_rfl
theorem ceU : Try.prog.cellsOf 23 = 1 := by kernel_rfl
theorem ceU4 : Try.prog.cellsOf 50 = 1 := by kernel_rfl
theorem ceR : Try.prog.cellsOf 52 = 6 := by kernel_rfl
theorem ceO : Try.prog.cellsOf 59 = 7 := by kernel_rfl
theorem wfIn {k : IntKind} {n : Int} (h : (Lit.int k n).wf = true) : k.min ≤ n ∧ n ≤ k.max := by
  unfold Lit.wf at h
  simpa using h
theorem wfU8 {n : Int} (h : (Lit.int .u8 n).wf = true) : ∃ k : Nat, n = k ∧ k < 256 := by
  have h2 := wfIn h
  rw [show IntKind.u8.min = 0 by decide, show IntKind.u8.max = 255 by decide] at h2
  exact ⟨n.toNat, by omega, by omega⟩
theorem wfU64 {n : Int} (h : (Lit.int .u64 n).wf = true) : ∃ k : Nat, n = k ∧ k < 18446744073709551616 := by
  have h2 := wfIn h
  rw [show IntKind.u64.min = 0 by decide, show IntKind.u64.max = 18446744073709551615 by decide] at h2
  exact ⟨n.toNat, by omega, by omega⟩
theorem wfU32 {n : Int} (h : (Lit.int .u32 n).wf = true) : ∃ k : Nat, n = k ∧ k < 4294967296 := by
  have h2 := wfIn h
  rw [show IntKind.u32.min = 0 by decide, show IntKind.u32.max = 4294967295 by decide] at h2
  exact ⟨n.toNat, by omega, by omega⟩
theorem six_of {α : Type} {l : List α} (h : l.length = 6) : ∃ a b c d e f, l = [a, b, c, d, e, f] := by
  match l, h with
  | [a, b, c, d, e, f], _ => exact ⟨a, b, c, d, e, f, rfl⟩
theorem plain_addr {W : World} {a : Addr} {v : Value} (h : W.cell? (a.add 0) = some v) : ∃ b off, a = ⟨b, off, none⟩ := by
  obtain ⟨b, off, spot⟩ := a
  have hs : spot = none := by simpa [Addr.add] using World.cell?_spot h
  subst hs
  exact ⟨b, off, rfl⟩
theorem opsL_at : ∀ (l : List Op13) (j : Nat) (v : Value), (opsL l)[j]? = some v → ∃ (hk : j / 7 < l.length), (opL l[j / 7])[j % 7]? = some v
  | [], j, v, h => by simp [opsL] at h
  | s :: r, j, v, h => by
    have h : (opL s ++ opsL r)[j]? = some v := by simpa [opsL] using h
    by_cases hj : j < 7
    · rw [List.getElem?_append_left (by rw [opL_length]; exact hj)] at h
      refine ⟨by rw [Nat.div_eq_of_lt hj]; simp, ?_⟩
      simp only [Nat.div_eq_of_lt hj, Nat.mod_eq_of_lt hj, List.getElem_cons_zero]
      exact h
    · rw [List.getElem?_append_right (by rw [opL_length]; omega), opL_length] at h
      obtain ⟨hk, h2⟩ := opsL_at r (j - 7) v h
      have e1 : j / 7 = (j - 7) / 7 + 1 := by omega
      have e2 : j % 7 = (j - 7) % 7 := by omega
      refine ⟨by rw [e1]; simpa using hk, ?_⟩
      simp only [e1, e2, List.getElem_cons_succ]
      exact h2
instance : Inhabited Op13 := ⟨⟨0, zrc⟩⟩
theorem pick_lt {n : Nat} {α : Type} [Inhabited α] {p : Nat → α → Prop} (h : ∀ i, i < n → ∃ a, p i a) : ∃ F : Nat → α, ∀ i, i < n → p i (F i) :=
  ⟨fun i => if hi : i < n then (h i hi).choose else default, fun i hi => by simp only [hi, dif_pos]; exact (h i hi).choose_spec⟩
section
variable {H : Type} {enc : TypeId × Value → H} {W : World} {spare : Nat → Bool} {held : Bool} {fuel : Nat} {cs : List Value} {x : DataW H × List MemPlace}
theorem inU (h : DataW.trod enc Try.prog W 0 spare held fuel 23 cs = some x) : ∃ n : Nat, cs = [.int .u64 (n : Int)] ∧ n < 18446744073709551616 := by
  obtain ⟨z, e, _, wf⟩ := DataW.trod_int Try.underlying23 h
  obtain ⟨k, rfl, hk⟩ := wfU64 wf
  exact ⟨k, e, hk⟩
theorem inU4 (h : DataW.trod enc Try.prog W 0 spare held fuel 50 cs = some x) : ∃ n : Nat, cs = [.int .u32 (n : Int)] ∧ n < 4294967296 := by
  obtain ⟨z, e, _, wf⟩ := DataW.trod_int Try.underlying50 h
  obtain ⟨k, rfl, hk⟩ := wfU32 wf
  exact ⟨k, e, hk⟩
theorem inI (h : DataW.trod enc Try.prog W 0 spare held fuel 3 cs = some x) : ∃ z : Int, cs = [.int .i64 z] := by
  obtain ⟨z, e, _, _⟩ := DataW.trod_int Try.underlying3 h
  exact ⟨z, e⟩
theorem inS (h : DataW.trod enc Try.prog W 0 spare held fuel 9 cs = some x) : ∃ l : List UInt8, cs = [.string (strOf l)] ∧ l.length ≤ maxLen := by
  obtain ⟨s, e, _, hs⟩ := DataW.trod_string Try.underlying9 h
  refine ⟨s.data.toList, by rw [e]; rfl, ?_⟩
  have : s.data.toList.length = s.size := Array.length_toList
  omega
theorem rc_of (h : DataW.trod enc Try.prog W 0 spare held fuel 52 cs = some x) : ∃ r : Rc, r.ok ∧ cs = rcL r := by
  obtain ⟨xs, n, _, _, hl, hxl, hf⟩ := DataW.trod_struct Try.underlying52 h
  rw [ceR] at hl
  obtain ⟨v0, v1, v2, v3, v4, v5, rfl⟩ := six_of hl
  obtain ⟨y0, y1, y2, y3, y4, y5, rfl⟩ := six_of hxl
  have g0 := hf 0 _ rfl
  have g1 := hf 1 _ rfl
  have g2 := hf 2 _ rfl
  have g3 := hf 3 _ rfl
  have g4 := hf 4 _ rfl
  have g5 := hf 5 _ rfl
  simp [ceU, ceU4, ceS, ceB] at g0 g1 g2 g3 g4 g5
  obtain ⟨id, e0, b0⟩ := inU g0
  obtain ⟨key, e1, b1⟩ := inU g1
  obtain ⟨a, e2, b2⟩ := inU4 g2
  obtain ⟨b, e3, b3⟩ := inU4 g3
  obtain ⟨l, e4, b4⟩ := inS g4
  obtain ⟨gh, e5, _⟩ := DataW.trod_bool Try.underlying4 g5
  injection e0 with e0
  injection e1 with e1
  injection e2 with e2
  injection e3 with e3
  injection e4 with e4
  injection e5 with e5
  subst e0 e1 e2 e3 e4 e5
  exact ⟨⟨id, key, a, b, l, gh⟩, ⟨b0, b1, b2, b3⟩, rfl⟩
theorem op_of (h : DataW.trod enc Try.prog W 0 spare held fuel 59 cs = some x) : ∃ o : Op13, o.r.ok ∧ cs = opL o := by
  obtain ⟨y0, y1, n, _, hl, g0, g1⟩ := trod_struct2 Try.underlying59 h
  rw [ceO] at hl
  simp [ceI, ceR] at g0 g1
  obtain ⟨z, e0⟩ := inI g0
  obtain ⟨r, hr, e1⟩ := rc_of g1
  refine ⟨⟨z, r⟩, hr, ?_⟩
  match cs, hl with
  | v :: t, hl =>
    simp at hl e0 e1
    rw [List.take_of_length_le (by omega)] at e1
    rw [e0, e1]
    rfl
end
theorem ops_of {H : Type} {enc : TypeId × Value → H} {W : World} {spare : Nat → Bool} {held : Bool} {A : Option Addr} {len cap : Nat} {d : DataW H} {p : List MemPlace}
    (h : DataW.Trod enc Try.prog W 0 spare held 22 (.slice A len cap) d p) : ∃ l : List Op13, Lz NoX W 7 A len (opsL l) ∧ (∀ o ∈ l, o.r.ok) ∧ len ≤ maxLen := by
  obtain ⟨fuel, hf⟩ := h
  rcases open_slice Try.underlying22 hf with ⟨hcs, _⟩ | ⟨a, len', cap', m, n, D, Pl, hcs, _, hl, hm, hmm, _, hi⟩
  · simp [Value.cells] at hcs
    obtain ⟨rfl, rfl, rfl⟩ := hcs
    exact ⟨[], Lz.empty, fun o h => by simp at h, by simp [maxLen]⟩
  · simp [Value.cells] at hcs
    obtain ⟨rfl, rfl, rfl⟩ := hcs
    have hlm : len ≤ m := by rw [hmm]; split <;> omega
    by_cases hl0 : len = 0
    · subst hl0
      exact ⟨[], Lz.empty, fun o h => by simp at h, by simp [maxLen]⟩
    rw [ceO] at hi
    have each : ∀ i, i < len → ∃ s : Op13, s.r.ok ∧ ∀ j, j < 7 → W.cell? ((a.add (i * 7)).add j) = (opL s)[j]? := fun i hlt => by
      obtain ⟨cs', h1, h2⟩ := hi i (by omega)
      obtain ⟨_, hlen, hcell⟩ := World.cells?_some h1
      obtain ⟨s, hs, rfl⟩ := op_of h2
      exact ⟨s, hs, fun j hj => by rw [hcell j (by omega)]⟩
    obtain ⟨F, hF⟩ := pick_lt each
    have hlen : ((List.range len).map F).length = len := by simp
    have g0 : ∀ s : Op13, (opL s)[0]? = some (.int .i64 s.kind) := fun s => rfl
    obtain ⟨b, off, rfl⟩ : ∃ b off, a = ⟨b, off, none⟩ := by
      have := (hF 0 (by omega)).2 0 (by omega)
      rw [Nat.zero_mul, Go.Deep.add_add, g0] at this
      exact plain_addr this
    refine ⟨(List.range len).map F, ⟨by rw [opsL_length, hlen], fun _ => ⟨b, off, rfl, fun h => h, ?_, fun j v hv => ?_⟩⟩, fun o ho => ?_, by omega⟩
    · have := (hF 0 (by omega)).2 0 (by omega)
      rw [g0] at this
      have := World.block_lt_of_cell? W _ this
      rwa [add_block, add_block] at this
    · obtain ⟨hk, hv2⟩ := opsL_at _ j v hv
      have hk' : j / 7 < len := by rwa [hlen] at hk
      have h3 := (hF (j / 7) hk').2 (j % 7) (Nat.mod_lt _ (by omega))
      rw [add_plain, add_plain, Nat.add_assoc, show j / 7 * 7 + j % 7 = j by omega] at h3
      rw [h3, ← hv2]
      simp
    · obtain ⟨i, hi', rfl⟩ := List.mem_map.1 ho
      exact (hF i (by have := List.mem_range.1 hi'; omega)).1
end Go.Proofs.Ytpffnjnncgmgnaa

namespace Go.Proofs.Ytpffnjnncgmgnaa.bucketMarks
open Go.ChangeShapes Go.WideShapes Go.ChangeAt Go.RowKit
set_option linter.unusedVariables false

theorem own : ownKnob Try.prog.godebug = none := by kernel_rfl
theorem laidOut : laidOutB Try.prog = true := by kernel_rfl

set_option maxRecDepth 100000 in
theorem lifted (os : Os) (started : os.Started) (H : Type) (enc : TypeId × Value → H) :
    ReturnsInHanded {} Try.checked os 6 .any (Rows.bucketMarksSpec.pre6 enc Try.prog Try.f6 Rows.bucketMarksRow.domain false) (Rows.bucketMarksSpec.post enc Try.prog Try.f6 false true false false) := by
  refine returnsInHanded_of_change (C := Try.checked) own started (by kernel_rfl) Try.func6
    (ChangeSpec.witness6 (enc := enc) (C := Try.checked) false ⟨#[], #[.int .u8 0, .slice none 0 0, .int .u64 0], []⟩ 8 (by kernel_rfl) (by kernel_rfl) (by kernel_rfl) (by kernel_rfl)) ?_
  intro W base args ds gs before hval0 hW hcnd _
  have hval : ∀ (j : Nat) t v, Try.f6.params[j]? = some t → args[j]? = some v → Value.okWide Try.prog W .any base t v := hval0
  have hW' := hW
  obtain ⟨p, q, hA0, hV, rfl, hfz, hnd⟩ := hW
  have hA : DataW.TrodAll enc Try.prog W 0 (fun _ => true) true Try.f6.params.toList args.toList ds p := hA0
  rw [Try.params6] at hA hval
  obtain ⟨v0, vs0, d0, ds0, p0, q0, hargs, rfl, rfl, h0, r0⟩ := trodAll_cons hA
  obtain ⟨v1, vs1, d1, ds1, p1, q1, rfl, rfl, rfl, h1, r1⟩ := trodAll_cons r0
  obtain ⟨v2, vs2, d2, ds2, p2, q2, rfl, rfl, rfl, h2, r2⟩ := trodAll_cons r1
  obtain ⟨rfl, rfl, rfl⟩ := trodAll_nil r2
  obtain rfl : args = #[v0, v1, v2] := by cases args; simp_all
  obtain ⟨rfl, rfl⟩ := trodVars_none hV
  obtain ⟨a0, rfl, rfl, rfl, w0⟩ := open_int Try.underlying5 (hval 0 5 v0 rfl rfl) h0
  obtain ⟨n0, rfl, u0⟩ := wfU8 w0
  obtain ⟨A1, len1, cap1, rfl⟩ := okWide_slice Try.underlying22 (hval 1 22 v1 rfl rfl)
  have k1 := h1
  have lt1 : ∀ x ∈ p1, x.block < W.heap.size := by obtain ⟨m, hm⟩ := k1; exact DataW.trod_lt m _ _ _ hm
  obtain ⟨L, hL, hU, _⟩ := ops_of h1
  obtain ⟨a2, rfl, rfl, rfl, w2⟩ := open_int Try.underlying23 (hval 2 23 v2 rfl rfl) h2
  obtain ⟨n2, rfl, u2⟩ := wfU64 w2
  clear hA0 hval0
  refine (Marks_any n0 A1 len1 cap1 L n2 W u0 hL hU).mono fun e W' ⟨he, bel⟩ => ?_
  subst he
  exact ⟨_, rfl, _, _, _, [], _, [], hW', trodAll_mk1 (shut_bool Try.underlying4 _), (trodAll_cons_mk (shut_int Try.underlying5 w0) (trodAll_cons_mk (Below.trod laidOut (by kernel_rfl) (of_decide_eq_true (by kernel_rfl)) k1 bel lt1) (trodAll_cons_mk (shut_int Try.underlying23 w2) trodAll_mk0))), rfl, bel.frame _, fun h => by cases h⟩

theorem over : Rows.bucketMarksRow.holds Try.pinned (OpenSpec.ofChange Rows.bucketMarksSpec) :=
  OpenClaim.holds_of_wide 6 Try.f6 rfl rfl rfl rfl rfl rfl rfl ⟨rfl, rfl, rfl, rfl, rfl⟩ rfl rfl rfl rfl rfl (by kernel_rfl) Try.func6 (by kernel_rfl)
    (of_decide_eq_true (by kernel_rfl)) (by unfold Func.isWrapper; first | (rw [if_pos (by decide +kernel)]; kernel_rfl) | (rw [if_neg (by decide +kernel)]; exact ⟨rfl, rfl⟩))
    (fun os started H enc _ => lifted os started H enc)

theorem proved : Rows.BucketMarksSaid := over
end Go.Proofs.Ytpffnjnncgmgnaa.bucketMarks
