/-
  The walk of the law's same: a map and the list of bools that it stands for.
  Conditions: at most 120 pages; the slice reads as the list.
-/
import Derived.Test.YtfmjnjhocpoafaaF
import Derived.Sort.CutIn
namespace Go.Proofs.Ytfmjnjhocpoafaa
open Go.RowKit Go.Shelf
attribute [local go_sem] Oper.semAt_some

theorem firstI_get (L : List Nat) (h : 0 < L.length) : firstI L = ((L[0] : Nat) : Int) := by
  cases L with
  | nil => simp at h
  | cons y r => rfl
theorem firstI_none (L : List Nat) (h : L.length = 0) : firstI L = -1 := by
  cases L with
  | nil => rfl
  | cons y r => simp at h
theorem func_nil (b c : Nat) (w : World) : Sem.run Try.prog (binOp .eql 48 (.func (.func 23) #[] #[.pointer (some ⟨b, 0, none⟩), .pointer (some ⟨c, 0, none⟩)]) .nilFunc) w = .ok (.bool false) w := by rfl
theorem Boxed.call {W W' : World} {B : Nat} {t : TypeId} {v : Value} (h : Boxed W B t v) (hb : Below W.heap.size W W') : Boxed W' B t v := (hb.block B h.lt).trans h
theorem pg_total (l : List Bool) : ∀ n, (pg l true n).length + (pg l false n).length = n
  | 0 => rfl
  | n + 1 => by
    have ih := pg_total l n
    cases h : tk l (n : Int)
    · rw [pg_yes h, pg_no (t := true) h, List.length_append]
      simp
      omega
    · rw [pg_yes h, pg_no (t := false) h, List.length_append]
      simp
      omega
/-- The map, the slice and the result lie in the first three boxes of the call. -/
structure SmS (w : World) (l : List Bool) (A : Option Addr) (cap : Nat) (W : World) : Prop where
  m : Row W w.heap.size 27 (C3 l)
  s : Boxed W (w.heap.size + 1) 31 (.slice A l.length cap)
  r : Boxed W (w.heap.size + 1 + 1) 4 (.bool false)
  old : Below w.heap.size w W
section
variable {w : World} {l : List Bool} {A : Option Addr} {cap : Nat} {W W' : World}
theorem SmS.below (h : SmS w l A cap W) (hb : Below W.heap.size W W') : SmS w l A cap W' := ⟨h.m.below hb, Boxed.call h.s hb, Boxed.call h.r hb, chain h.old hb (Nat.le_refl _)⟩
theorem SmS.drew (h : SmS w l A cap W) : SmS w l A cap W.drew := h.below ((Below.refl _ _).drew)
theorem SmS.alloc (h : SmS w l A cap W) (o : Obj) : SmS w l A cap (W.alloc o) := h.below ((Below.refl _ _).alloc (Nat.le_refl _) o)
theorem SmS.start : SmS w l A cap (((w.alloc (.cells #[.int .i64 (l.length : Nat), .int .u64 (lo l : Nat), .int .u64 (hi l : Nat)] 27)).alloc (.cells #[.slice A l.length cap] 31)).alloc (.cells #[.bool false] 4)) := by
  refine ⟨((Row.new3 w l).alloc _).alloc _, ?_, ?_, (((Below.refl _ w).alloc (Nat.le_refl _) _).alloc (by simp) _).alloc (by simp; omega) _⟩
  · have := (Boxed.new (w.alloc (.cells #[.int .i64 (l.length : Nat), .int .u64 (lo l : Nat), .int .u64 (hi l : Nat)] 27)) 31 (.slice A l.length cap)).alloc (.cells #[.bool false] 4)
    rwa [World.size_alloc] at this
  · have := Boxed.new ((w.alloc (.cells #[.int .i64 (l.length : Nat), .int .u64 (lo l : Nat), .int .u64 (hi l : Nat)] 27)).alloc (.cells #[.slice A l.length cap] 31)) 4 (.bool false)
    rwa [World.size_alloc, World.size_alloc] at this
end
/-- Ahead of the range: the number's box and the iterator's. -/
structure SmB (w : World) (l : List Bool) (A : Option Addr) (cap bn Bn Cn : Nat) (W : World) : Prop where
  s : SmS w l A cap W
  n : Boxed W bn 3 (.int .i64 0)
  b : Box W Bn Cn l true
  lt : w.heap.size + 1 + 1 < bn ∧ bn < Bn ∧ bn < Cn
/-- Behind the range. -/
structure SmD (w : World) (l : List Bool) (A : Option Addr) (cap bn D cnt : Nat) (W : World) : Prop where
  m : Row W w.heap.size 27 (C3 l)
  s : Boxed W (w.heap.size + 1) 31 (.slice A l.length cap)
  r : ∃ v, Boxed W (w.heap.size + 1 + 1) 4 v
  n : Boxed W bn 3 (.int .i64 ((cnt : Nat) : Int))
  d : W.heap[D]? = some (.deferred (some []))
  old : Below w.heap.size w W
  lt : w.heap.size + 1 + 1 < bn ∧ bn < D
section
variable {w : World} {l : List Bool} {A : Option Addr} {cap bn D cnt : Nat} {W W' : World}
theorem SmD.below (h : SmD w l A cap bn D cnt W) (hb : Below W.heap.size W W') : SmD w l A cap bn D cnt W' := by
  obtain ⟨v, hv⟩ := h.r
  exact ⟨h.m.below hb, Boxed.call h.s hb, ⟨v, Boxed.call hv hb⟩, Boxed.call h.n hb, (hb.block D (Array.getElem?_eq_some_iff.1 h.d).1).trans h.d, chain h.old hb (Nat.le_refl _), h.lt⟩
theorem SmD.drew (h : SmD w l A cap bn D cnt W) : SmD w l A cap bn D cnt W.drew := h.below ((Below.refl _ _).drew)
end

def SmR (w : World) (l : List Bool) (A : Option Addr) (cap bn D cnt : Nat) (v : Value) (W : World) : Prop := ∃ k : Nat, k ≤ l.length ∧ v = .int .i64 (k : Int) ∧ Hid (SmD w l A cap bn D cnt W)
set_option maxRecDepth 100000 in
set_option maxHeartbeats 4000000 in
theorem same_any (l : List Bool) (A : Option Addr) (cap : Nat) (hm : l.length ≤ 120) (w : World) (hL : Lies w w.heap.size 1 A l.length (BL l)) :
    Calls Try.prog 13 #[.agg #[.int .i64 (l.length : Nat), .int .u64 (lo l : Nat), .int .u64 (hi l : Nat)], .slice A l.length cap] w fun e w' => e = .returned (.bool true) ∧ Below w.heap.size w w' := by
  have HL := Lib.hid hL
  have hfl : (fr l).length ≤ l.length := pg_le l false l.length
  obtain ⟨f, hf⟩ : ∃ f, f = (fr l).length := ⟨_, rfl⟩
  rw [← hf] at hfl
  have HFL := Lib.hid hf
  clear hL hf
  refine (callsIn_wide (n := 3)).1 ?_
  refine callsIn_of_wp_marks Try.func13 rfl trivial ?_ rfl
  simp only [Try.ntmps13, List.size_toArray, List.length_cons, List.length_nil, Nat.reduceAdd, Nat.reduceSub, Array.replicate_succ, Array.replicate_zero, List.push_toArray, List.append_toArray, List.nil_append, List.cons_append]
  gi_wp2_with fail
  have HS := Lib.hid (SmS.start (w := w) (l := l) (A := A) (cap := cap))
  refine wcall2 ((refFree_any l A cap hm _ ((HL.out.under HS.out.old).up HS.out.old.size)).mono ?_)
  rintro e w1 ⟨Af, cf, rfl, hcf1, hcf2, hlf, hb, hnw⟩
  clear hnw
  rw [← HFL.out] at hcf1 hlf ⊢
  have HS' := Lib.hid (HS.out.below hb)
  have HF := Lib.hid hlf
  clear HS hb hlf
  have HS := HS'
  clear HS'
  gi_upto_if 15 with fail
  gi_cut [6] from 11 (fun s6 wx => s6 = .int .i64 (firstI (fr l)) ∧ Hid (SmS w l A cap wx))
  case first =>
    by_cases hF : 0 < f
    · have hF' : 0 < (fr l).length := by rw [← HFL.out]; exact hF
      obtain ⟨a, u, rfl, hab, hu, hcu⟩ := HF.out.get hF
      rw [IN_get (fr l) 0 hF'] at hu
      cases hu
      have HX := Lib.hid (firstI_get (fr l) hF')
      rw [show a.add 0 = a from by simp [Addr.add]] at hcu
      generalize (fr l)[0] = x at hcu HX
      gi_wp2_with fail
      gi_meet
      exact ⟨by rw [HX.out], HS⟩
    · have HX := Lib.hid (firstI_none (fr l) (by rw [← HFL.out]; omega))
      gi_wp2_with fail
      gi_meet
      exact ⟨by rw [HX.out], HS⟩
  case rest =>
    obtain ⟨rfl, HS'⟩ := hcut
    clear HS HF
    have HS := HS'
    clear HS'
    gi_wp2_with fail
    refine region_wide (S := SmS w l A cap) (by kernel_rfl) HS.out.drew (fun hS => ?_)
    refine takeH (i := 0) (d := 19) (v := ?va0) rfl (by kernel_rfl) (by kernel_rfl) (by kernel_rfl) (fun _ _ _ h => h) rfl (by rfl) ?ya0 hS ?ra0
    case ya0 => (intro wz hz; obtain ⟨q0, q1, q2⟩ := hz.m.cells3; have q3 := hz.s.cell; go_simp <;> with_reducible rfl)
    simp only [List.setIfInBounds_toArray, List.set_cons_zero, List.set_cons_succ]
    refine takeH (i := 2) (d := 21) (v := ?va2) rfl (by kernel_rfl) (by kernel_rfl) (by kernel_rfl) (fun _ _ _ h => h) rfl (by rfl) ?ya2 hS ?ra2
    case ya2 => (intro wz hz; obtain ⟨q0, q1, q2⟩ := hz.m.cells3; have q3 := hz.s.cell; go_simp <;> with_reducible rfl)
    simp only [List.setIfInBounds_toArray, List.set_cons_zero, List.set_cons_succ]
    refine takeH (i := 3) (d := 22) (v := ?va3) rfl (by kernel_rfl) (by kernel_rfl) (by kernel_rfl) (fun _ _ _ h => h) rfl (by rfl) ?ya3 hS ?ra3
    case ya3 => (intro wz hz; obtain ⟨q0, q1, q2⟩ := hz.m.cells3; have q3 := hz.s.cell; go_simp <;> with_reducible rfl)
    simp only [List.setIfInBounds_toArray, List.set_cons_zero, List.set_cons_succ]
    refine wpAnyH_ready (rs := [1]) (by kernel_rfl) (by simp) ?_
    refine AllReadyH.cons rfl (fun K hK => ?_) AllReadyH.nil
    go_simp
    refine (len_any l _).mono ?_
    rintro e wq ⟨rfl, hq⟩
    refine hK.out _ _ (hS.below hq) (fun hT => ?_)
    clear hK hq hS
    have hS := hT
    clear hT
    refine takeH (i := 4) (d := 23) (v := ?va4) rfl (by kernel_rfl) (by kernel_rfl) (by kernel_rfl) (fun _ _ _ h => h) rfl (by rfl) ?ya4 hS ?ra4
    case ya4 => (intro wz hz; obtain ⟨q0, q1, q2⟩ := hz.m.cells3; have q3 := hz.s.cell; go_simp <;> with_reducible rfl)
    simp only [List.setIfInBounds_toArray, List.set_cons_zero, List.set_cons_succ]
    refine takeH (i := 5) (d := 24) (v := ?va5) rfl (by kernel_rfl) (by kernel_rfl) (by kernel_rfl) (fun _ _ _ h => h) rfl (by rfl) ?ya5 hS ?ra5
    case ya5 => (intro wz hz; obtain ⟨q0, q1, q2⟩ := hz.m.cells3; have q3 := hz.s.cell; go_simp <;> with_reducible rfl)
    simp only [List.setIfInBounds_toArray, List.set_cons_zero, List.set_cons_succ]
    refine takeH (i := 6) (d := 25) (v := ?va6) rfl (by kernel_rfl) (by kernel_rfl) (by kernel_rfl) (fun _ _ _ h => h) rfl (by rfl) ?ya6 hS ?ra6
    case ya6 => (intro wz hz; obtain ⟨q0, q1, q2⟩ := hz.m.cells3; have q3 := hz.s.cell; go_simp <;> with_reducible rfl)
    simp only [List.setIfInBounds_toArray, List.set_cons_zero, List.set_cons_succ]
    refine takeH (i := 8) (d := 27) (v := ?va8) rfl (by kernel_rfl) (by kernel_rfl) (by kernel_rfl) (fun _ _ _ h => h) rfl (by rfl) ?ya8 hS ?ra8
    case ya8 => (intro wz hz; obtain ⟨q0, q1, q2⟩ := hz.m.cells3; have q3 := hz.s.cell; go_simp <;> with_reducible rfl)
    simp only [List.setIfInBounds_toArray, List.set_cons_zero, List.set_cons_succ]
    refine takeH (i := 9) (d := 28) (v := ?va9) rfl (by kernel_rfl) (by kernel_rfl) (by kernel_rfl) (fun _ _ _ h => h) rfl (by rfl) ?ya9 hS ?ra9
    case ya9 => (intro wz hz; obtain ⟨q0, q1, q2⟩ := hz.m.cells3; have q3 := hz.s.cell; go_simp <;> with_reducible rfl)
    simp only [List.setIfInBounds_toArray, List.set_cons_zero, List.set_cons_succ]
    refine wpAnyH_ready (rs := [7]) (by kernel_rfl) (by simp) ?_
    refine AllReadyH.cons rfl (fun K hK => ?_) AllReadyH.nil
    go_simp
    refine (free_any l hm _).mono ?_
    rw [show (pg l false l.length).length = f from HFL.out.symm]
    rintro e wq ⟨rfl, hq⟩
    refine hK.out _ _ (hS.below hq) (fun hT => ?_)
    clear hK hq hS
    have hS := hT
    clear hT
    refine takeH (i := 10) (d := 29) (v := ?va10) rfl (by kernel_rfl) (by kernel_rfl) (by kernel_rfl) (fun _ _ _ h => h) rfl (by rfl) ?ya10 hS ?ra10
    case ya10 => (intro wz hz; obtain ⟨q0, q1, q2⟩ := hz.m.cells3; have q3 := hz.s.cell; go_simp <;> with_reducible rfl)
    simp only [List.setIfInBounds_toArray, List.set_cons_zero, List.set_cons_succ]
    refine takeH (i := 11) (d := 30) (v := ?va11) rfl (by kernel_rfl) (by kernel_rfl) (by kernel_rfl) (fun _ _ _ h => h) rfl (by rfl) ?ya11 hS ?ra11
    case ya11 => (intro wz hz; obtain ⟨q0, q1, q2⟩ := hz.m.cells3; have q3 := hz.s.cell; go_simp <;> with_reducible rfl)
    simp only [List.setIfInBounds_toArray, List.set_cons_zero, List.set_cons_succ]
    refine takeH (i := 12) (d := 31) (v := ?va12) rfl (by kernel_rfl) (by kernel_rfl) (by kernel_rfl) (fun _ _ _ h => h) rfl (by rfl) ?ya12 hS ?ra12
    case ya12 => (intro wz hz; obtain ⟨q0, q1, q2⟩ := hz.m.cells3; have q3 := hz.s.cell; go_simp <;> with_reducible rfl)
    simp only [List.setIfInBounds_toArray, List.set_cons_zero, List.set_cons_succ]
    refine takeH (i := 13) (d := 32) (v := ?va13) rfl (by kernel_rfl) (by kernel_rfl) (by kernel_rfl) (fun _ _ _ h => h) rfl (by rfl) ?ya13 hS ?ra13
    case ya13 => (intro wz hz; obtain ⟨q0, q1, q2⟩ := hz.m.cells3; have q3 := hz.s.cell; go_simp <;> with_reducible rfl)
    simp only [List.setIfInBounds_toArray, List.set_cons_zero, List.set_cons_succ]
    refine takeH (i := 15) (d := 34) (v := ?va15) rfl (by kernel_rfl) (by kernel_rfl) (by kernel_rfl) (fun _ _ _ h => h) rfl (by rfl) ?ya15 hS ?ra15
    case ya15 => (intro wz hz; obtain ⟨q0, q1, q2⟩ := hz.m.cells3; have q3 := hz.s.cell; go_simp <;> with_reducible rfl)
    simp only [List.setIfInBounds_toArray, List.set_cons_zero, List.set_cons_succ]
    refine wpAnyH_ready (rs := [14]) (by kernel_rfl) (by simp) ?_
    refine AllReadyH.cons rfl (fun K hK => ?_) AllReadyH.nil
    go_simp
    refine (first_any l hm _).mono ?_
    rintro e wq ⟨rfl, hq⟩
    refine hK.out _ _ (hS.below hq) (fun hT => ?_)
    clear hK hq hS
    have hS := hT
    clear hT
    refine takeH (i := 16) (d := 35) (v := ?va16) rfl (by kernel_rfl) (by kernel_rfl) (by kernel_rfl) (fun _ _ _ h => h) rfl (by rfl) ?ya16 hS ?ra16
    case ya16 => (intro wz hz; obtain ⟨q0, q1, q2⟩ := hz.m.cells3; have q3 := hz.s.cell; go_simp <;> with_reducible rfl)
    simp only [List.setIfInBounds_toArray, List.set_cons_zero, List.set_cons_succ]
    refine takeH (i := 17) (d := 36) (v := ?va17) rfl (by kernel_rfl) (by kernel_rfl) (by kernel_rfl) (fun _ _ _ h => h) rfl (by rfl) ?ya17 hS ?ra17
    case ya17 => (intro wz hz; obtain ⟨q0, q1, q2⟩ := hz.m.cells3; have q3 := hz.s.cell; go_simp <;> with_reducible rfl)
    simp only [List.setIfInBounds_toArray, List.set_cons_zero, List.set_cons_succ]
    refine wpAnyH_done (by kernel_rfl) ?_ _
    refine only_done ?_
    have HS' := Lib.hid hS
    clear hS HS
    have HS := HS'
    clear HS'
    obtain ⟨q0, q1, q2⟩ := (HS.out.alloc (.cells #[.int .i64 0] 3)).m.cells3
    gi_wp2_with fail
    refine wcall2 ((all_any l _).mono ?_)
    rintro e w3 ⟨Bn, Cn, rfl, hbx, hB1, hC1, hb⟩
    have hfn := func_nil Bn Cn
    have HB : Hid (SmB w l A cap wq.heap.size Bn Cn w3) := by
      refine ⟨(HS.out.alloc _).below hb, Boxed.call (Boxed.new wq 3 (.int .i64 0)) hb, hbx, HS.out.r.lt, ?_, ?_⟩
      · simp at hB1; omega
      · simp at hC1; omega
    obtain ⟨bn, hbn⟩ : ∃ b, b = wq.heap.size := ⟨_, rfl⟩
    rw [← hbn] at HB ⊢
    clear hbn HS q0 q1 q2 hbx hB1 hC1 hb
    gi_upto_if 40 with fail
    gi_cut [8] from 11 (fun s8 wx => s8 = .func (.func 23) #[] #[.pointer (some ⟨Bn, 0, none⟩), .pointer (some ⟨Cn, 0, none⟩)] ∧ Hid (SmB w l A cap bn Bn Cn wx))
    case first =>
      gi_wp2_with fail
      gi_meet
      exact ⟨rfl, HB⟩
    case rest =>
      obtain ⟨rfl, HB'⟩ := hcut
      clear HB hfn
      have HB := HB'
      clear HB'
      gi_wp2_with fail
      obtain ⟨hlt1, hlt2, hlt3⟩ := HB.out.lt
      have hbw : bn < wc.heap.size := HB.out.n.lt
      have hlw : l.length ≤ 120 := hm
      refine wpIn_rangeFunc_ownF rfl (by omega) (gf := 23) (lb := #[.pointer (some ⟨Bn, 0, none⟩), .pointer (some ⟨Cn, 0, none⟩)]) rfl trivial (enters_of Try.func23 (by kernel_rfl) rfl)
        (iter_stops _ Bn Cn l true hm wc HB.out.b) kpB_t (kpB_b HB.out.b.lt.1 HB.out.b.lt.2) (Below.refl _ _) (fun _ => rfl)
        (fun pre W' => Boxed W' bn 3 (.int .i64 ((pre.length : Nat) : Int)) ∧ Below bn wc W')
        (fun _ pre _ => ∃ x ∈ pre, ¬ tk l ((x : Nat) : Int) = true)
        (OwnFrom.and (Own.from (boxed_own _ _ _) _) (ownFrom_below (by omega) (by omega)))
        (fun _ => ownFrom_pure _ _)
        ⟨HB.out.n, Below.refl _ _⟩
        (fun x => { tmps := #[.agg #[.int .i64 (l.length : Nat), .int .u64 (lo l : Nat), .int .u64 (hi l : Nat)], .slice A l.length cap, .pointer (some ⟨w.heap.size, 0, none⟩), .pointer (some ⟨w.heap.size + 1, 0, none⟩), .pointer (some ⟨w.heap.size + 1 + 1, 0, none⟩), .slice Af f cf, .int .i64 (firstI (fr l)), .pointer (some ⟨bn, 0, none⟩), .func (.func 23) #[] #[.pointer (some ⟨Bn, 0, none⟩), .pointer (some ⟨Cn, 0, none⟩)], .int .i64 (x : Int), undef, u11, u12, u13, u14, u15, u16, u17, u18, u19, u20, u21, u22, u23, u24, u25, u26, u27, u28, u29, u30, u31, u32, u33, u34, u35, u36, u37, u38, u39, u40, .func (.func 23) #[] #[.pointer (some ⟨Bn, 0, none⟩), .pointer (some ⟨Cn, 0, none⟩)], .int .i64 (x : Int), u43, u44, u45, u46, u47, u48, u49, u50, u51, u52, u53, u54, u55, u56, u57, u58, u59, u60, u61, u62, u63, u64, u65, u66, u67, u68, u69, u70, u71, u72, u73, u74, u75, u76, u77, u78, u79, u80, u81, u82, u83, u84, u85, u86, u87, u88, u89, u90, u91, u92], defers := [] }) ?assign ?body ?done ?stop
      case assign =>
        intro L x W K hK
        gi_wp2
        simpa using hK
      case body =>
        rintro L pre x W' ⟨bx, hb⟩ hlt
        have hlen : (pg l true l.length).length ≤ l.length := pg_le l true l.length
        have hpl : pre.length < 120 := by omega
        have cR := bx.cell
        have fR := bx.frozen
        have qs : W'.cell? ⟨w.heap.size + 1, 0, none⟩ = some (.slice A l.length cap) := (hb.cell (p := ⟨w.heap.size + 1, 0, none⟩) (by simp; omega)).trans HB.out.s.s.cell
        have qr : W'.cell? ⟨w.heap.size + 1 + 1, 0, none⟩ = some (.bool false) := (hb.cell (p := ⟨w.heap.size + 1 + 1, 0, none⟩) (by simp; omega)).trans HB.out.s.r.cell
        have qf : W'.frozen? ⟨w.heap.size + 1 + 1, 0, none⟩ = false := (hb.frozen (p := ⟨w.heap.size + 1 + 1, 0, none⟩) (by simp; omega)).trans HB.out.s.r.frozen
        have HBB := Lib.hid hb
        clear hb
        have d0 : decide ((x : Int) < 0) = false := by simp
        by_cases hxl : x < l.length
        · have d1 : decide (l.length ≤ x) = false := by simp; omega
          have d2 : decide ((l.length : Int) ≤ (x : Int)) = false := by simp; omega
          obtain ⟨a, u, rfl, hab, hu, hcu⟩ := (HL.out.under (HB.out.s.old.trans (HBB.out.mono (by omega)))).get hxl
          rw [BL_get l x hxl] at hu
          cases hu
          by_cases hx : tk l (x : Int) = true
          · rw [hx] at hcu
            clear hx
            gi_wp2
            exact ⟨KeepsOthers.setCell _ _ _, kpB_set (by omega) (by omega) _ _, ⟨by have := bx.set (.int .i64 ((pre.length : Int) + 1)); simpa using this, HBB.out.setCell (p := ⟨bn, 0, none⟩) (by simp) _⟩⟩
          · have HX := Lib.hid hx
            have hx' : tk l (x : Int) = false := by simpa using hx
            rw [hx'] at hcu
            clear hx hx'
            gi_wp2
            exact ⟨KeepsOthers.setCell _ _ _, x, by simp, HX.out⟩
        · have d1 : decide (l.length ≤ x) = true := by simp; omega
          have d2 : decide ((l.length : Int) ≤ (x : Int)) = true := by simp; omega
          gi_wp2
          exact ⟨KeepsOthers.setCell _ _ _, x, by simp, by rw [tk_out l x (by omega)]; simp⟩
      case stop =>
        rintro D c pre W' _ hp ⟨x, hx, hn⟩ _
        exact absurd (pg_mem.1 (hp.subset hx)).2 hn
      case done =>
        rintro D ys W' hD rfl ⟨bx, hb⟩ hK
        have hcs := pg_total l l.length
        obtain ⟨cnt, hcnt⟩ : ∃ c, c = (pg l true l.length).length := ⟨_, rfl⟩
        rw [← hcnt, show (pg l false l.length).length = f from HFL.out.symm] at hcs
        have HD : Hid (SmD w l A cap bn D cnt W') := by
          refine ⟨HB.out.s.m.under hb (by omega), (hb.block _ (by omega)).trans HB.out.s.s, ⟨.bool false, (hb.block _ (by omega)).trans HB.out.s.r⟩, by rw [hcnt]; exact bx, hK, HB.out.s.old.trans (hb.mono (by omega)), hlt1, by omega⟩
        clear hcnt bx hb hK HB
        have hc1 : ((cnt : Int) == (l.length : Int) - (f : Int)) = true := by simp; omega
        have hc2 : (l.length : Int) - (f : Int) = (cnt : Int) := by omega
        have qs := HD.out.s.cell
        gi_wp2_with fail
        clear qs
        gi_loopw [10] (fun v wr => SmR w l A cap bn D cnt v wr) (fun v _ => l.length - (intOf v).toNat)
        case atStart => exact ⟨0, Nat.zero_le _, rfl, HD⟩
        case round =>
          clear HD
          obtain ⟨k, hk, rfl, HD⟩ := hrel
          have qs := HD.out.s.cell
          by_cases hlt : k < l.length
          · obtain ⟨a, u, rfl, hab, hu, hcu⟩ := HL.out.get hlt
            rw [BL_get l k hlt] at hu
            cases hu
            obtain ⟨b, hbk⟩ : ∃ b, tk l (k : Int) = b := ⟨_, rfl⟩
            rw [hbk] at hcu
            have HX := Lib.hid hbk
            have HCK := Lib.hid (show ∀ z : World, Below w.heap.size w z → z.cell? (a.add k) = some (.bool b) from fun z hz => (hz.cell (by rw [add_block]; exact hab)).trans hcu)
            have dbb : (b != b) = false := by simp
            clear hcu hbk
            gi_wp2_with fail
            refine region_wide (S := SmD w l (some a) cap bn D cnt) (by kernel_rfl) HD.out.drew (fun hS => ?_)
            refine takeH (i := 0) (d := 66) (v := ?vb0) rfl (by kernel_rfl) (by kernel_rfl) (by kernel_rfl) (fun _ _ _ h => h) rfl (by rfl) ?yb0 hS ?rb0
            case yb0 => (intro wz hz; obtain ⟨q0, q1, q2⟩ := hz.m.cells3; have q3 := hz.s.cell; have q4 := HCK.out wz hz.old; go_simp <;> with_reducible rfl)
            simp only [List.setIfInBounds_toArray, List.set_cons_zero, List.set_cons_succ]
            refine takeH (i := 1) (d := 67) (v := ?vb1) rfl (by kernel_rfl) (by kernel_rfl) (by kernel_rfl) (fun _ _ _ h => h) rfl (by rfl) ?yb1 hS ?rb1
            case yb1 => (intro wz hz; obtain ⟨q0, q1, q2⟩ := hz.m.cells3; have q3 := hz.s.cell; have q4 := HCK.out wz hz.old; go_simp <;> with_reducible rfl)
            simp only [List.setIfInBounds_toArray, List.set_cons_zero, List.set_cons_succ]
            refine takeH (i := 3) (d := 69) (v := ?vb3) rfl (by kernel_rfl) (by kernel_rfl) (by kernel_rfl) (fun _ _ _ h => h) rfl (by rfl) ?yb3 hS ?rb3
            case yb3 => (intro wz hz; obtain ⟨q0, q1, q2⟩ := hz.m.cells3; have q3 := hz.s.cell; have q4 := HCK.out wz hz.old; go_simp <;> with_reducible rfl)
            simp only [List.setIfInBounds_toArray, List.set_cons_zero, List.set_cons_succ]
            refine takeH (i := 4) (d := 70) (v := ?vb4) rfl (by kernel_rfl) (by kernel_rfl) (by kernel_rfl) (fun _ _ _ h => h) rfl (by rfl) ?yb4 hS ?rb4
            case yb4 => (intro wz hz; obtain ⟨q0, q1, q2⟩ := hz.m.cells3; have q3 := hz.s.cell; have q4 := HCK.out wz hz.old; go_simp <;> with_reducible rfl)
            simp only [List.setIfInBounds_toArray, List.set_cons_zero, List.set_cons_succ]
            refine takeH (i := 5) (d := 71) (v := ?vb5) rfl (by kernel_rfl) (by kernel_rfl) (by kernel_rfl) (fun _ _ _ h => h) rfl (by rfl) ?yb5 hS ?rb5
            case yb5 => (intro wz hz; obtain ⟨q0, q1, q2⟩ := hz.m.cells3; have q3 := hz.s.cell; have q4 := HCK.out wz hz.old; go_simp <;> with_reducible rfl)
            simp only [List.setIfInBounds_toArray, List.set_cons_zero, List.set_cons_succ]
            refine takeH (i := 6) (d := 72) (v := ?vb6) rfl (by kernel_rfl) (by kernel_rfl) (by kernel_rfl) (fun _ _ _ h => h) rfl (by rfl) ?yb6 hS ?rb6
            case yb6 => (intro wz hz; obtain ⟨q0, q1, q2⟩ := hz.m.cells3; have q3 := hz.s.cell; have q4 := HCK.out wz hz.old; go_simp <;> with_reducible rfl)
            simp only [List.setIfInBounds_toArray, List.set_cons_zero, List.set_cons_succ]
            refine wpAnyH_ready (rs := [2]) (by kernel_rfl) (by simp) ?_
            refine AllReadyH.cons rfl (fun K hK => ?_) AllReadyH.nil
            go_simp
            refine (taken_is HX.out hm _).mono ?_
            rintro e wq ⟨rfl, hq⟩
            refine hK.out _ _ (hS.below hq) (fun hT => ?_)
            clear hK hq hS
            have hS := hT
            clear hT
            refine takeH (i := 7) (d := 73) (v := ?vb7) rfl (by kernel_rfl) (by kernel_rfl) (by kernel_rfl) (fun _ _ _ h => h) rfl (by rfl) ?yb7 hS ?rb7
            case yb7 => (intro wz hz; obtain ⟨q0, q1, q2⟩ := hz.m.cells3; have q3 := hz.s.cell; have q4 := HCK.out wz hz.old; go_simp <;> with_reducible rfl)
            simp only [List.setIfInBounds_toArray, List.set_cons_zero, List.set_cons_succ]
            refine wpAnyH_done (by kernel_rfl) ?_ _
            refine only_done ?_
            have HD' := Lib.hid hS
            clear hS HD qs
            gi_wp2_with fail
            go_roundw
            case rel => exact ⟨k + 1, by omega, by go_num, HD'⟩
            case measure => simp [intOf]; omega
          · have HX1 := Lib.hid (tk_neg l (-1) (by omega))
            have HX2 := Lib.hid (tk_out l (l.length : Nat) (by omega))
            have qn := HD.out.n.cell
            obtain ⟨q0, q1, q2⟩ := HD.out.m.cells3
            gi_wp2_with fail
            refine wcall2 ((taken_is HX1.out hm _).mono ?_)
            rintro e w5 ⟨rfl, hb⟩
            have HD' := Lib.hid (HD.out.below hb)
            clear HD qs qn q0 q1 q2 hb
            have qs := HD'.out.s.cell
            obtain ⟨q0, q1, q2⟩ := HD'.out.m.cells3
            gi_wp2_with fail
            refine wcall2 ((taken_is HX2.out hm _).mono ?_)
            rintro e w6 ⟨rfl, hb⟩
            have HE := Lib.hid (HD'.out.below hb)
            clear HD' qs q0 q1 q2 hb
            obtain ⟨vr, hvr⟩ := HE.out.r
            have qr := hvr.cell
            have qf := hvr.frozen
            gi_wp2_with fail
            have hK' := (KeepsOthers.setCell w6 ⟨w.heap.size + 1 + 1, 0, none⟩ (.bool true)).same D _ HE.out.d rfl
            refine ⟨by simp, .inl ⟨_, _, rfl, run_takeDeferred hK', ?_⟩⟩
            have hc5 := cell_kept (hvr.set (.bool true)).cell (grownBy_putObj' _ D (.deferred none)) (fun r e => by cases e; exact ⟨_, hK', rfl⟩)
            refine ⟨.bool true, ?_, rfl, (HE.out.old.setCell (p := ⟨w.heap.size + 1 + 1, 0, none⟩) (by simp; omega) _).trans (belowK_b (w := w) (Nat.le_refl _) _ D _ _ (by have := HE.out.lt; omega) hK' rfl rfl)⟩
            simp [results, Try.f13, go_sem, hc5]
end Go.Proofs.Ytfmjnjhocpoafaa
