/-
  The walk of Lock.
  Conditions: at most 99999 claims a row.
-/
import Derived.Test.YthbifccankfngaaGreatDoorK15Q
namespace Go.Proofs.YthbifccankfngaaGreatDoor
open Go.RowKit Go.Shelf
attribute [local go_sem] Oper.semAt_some
set_option maxRecDepth 20000

theorem wp_exec {o : Oper} {a : Act} {w : World} {K : Act → World → Prop} {Q : Exit → Act → World → Prop} {v : Value} (d : Nat) (hd : o.dst = some d) (h : (execOp a.eval o).run Tryz.prog w = .ok (.value v) w) (hK : K (a.put (some d) v) w) : o.wp Tryz.prog a w K Q := by
  unfold Oper.wp
  rw [h]
  simp only [Oper.upon]
  rw [hd]
  exact hK
theorem Tw.of_below {w w' : World} {X : Nat → Prop} {g : Nat} {s : TS} (h : Tt w g s X) (hb : Below w.heap.size w w') : Tw w X g s w' := ⟨X, h.below hb, fun _ hk => .inl hk, Mod.of_below hb X⟩
theorem Tw.from {w w1 w' : World} {X : Nat → Prop} {g : Nat} {s : TS} (hb : Below w.heap.size w w1) (h : Tw w1 X g s w') : Tw w X g s w' := h.step (fun _ hk => .inl hk) (Mod.of_below hb X)
/-- The end of a call that turned one thing. -/
theorem th_fin {w0 w : World} {X : Nat → Prop} {B g b1 b2 b3 : Nat} {s s1 : TS} {V V' : RI → Value} {L : RI → List (Value × Value)} {r : Rs} {x : List Cm × List Cm} {vh vq : Value}
    (h : TbR w0 X w B g b1 b2 b3 s1 (setTh V r vh vq) V' L) (hth : s1.th = upd s.th r (some x)) (how : s1.ow = s.ow) (hV : ∀ i, V' i = setTh V r vh vq i) (hL : ∀ i, L i = setF (setF (rowI s) (.hold r) (x.1.map cmP)) (.queue r) (x.2.map cmP) i)
    (n1 : ∀ r, s.th r = none → V (.hold r) = nilS ∧ V (.queue r) = nilS) (n2 : ∀ t, s.ow t = none → V (.own t) = nilS) : Tw w0 X g s1 w := by
  refine h.fin (fun i => (hV i).symm) (fun i => ?_) (fun r' hr' => ?_) (fun t ht => ?_)
  · rw [hL i, ← row_hold]
    cases i with
    | hold r' => simp [rowI, TS.at, hth]
    | queue r' => simp [rowI, TS.at, hth]
    | own t => simp [rowI, how]
  · rw [hth] at hr'
    have e2 : r' ≠ r := by rintro rfl; simp [upd] at hr'
    have := n1 r' (by simpa [upd, e2] using hr')
    rw [setTh_h, setTh_q, if_neg e2, if_neg e2]
    exact this
  · rw [how] at ht
    rw [setTh_o]
    exact n2 t ht
theorem setTh_self (V : RI → Value) (r : Rs) (vq : Value) (i : RI) : setF V (.queue r) vq i = setTh V r (V (.hold r)) vq i := by
  cases i with
  | hold r' =>
    rw [setTh_h, setF_ne _ _ (by intro e; cases e)]
    by_cases h : r' = r
    · subst h; rw [if_pos rfl]
    · rw [if_neg h]
  | queue r' =>
    rw [setTh_q]
    by_cases h : r' = r
    · subst h; rw [if_pos rfl, setF_same]
    · rw [if_neg h, setF_ne _ _ (by intro e; injection e with e; exact h e)]
  | own t => rw [setTh_o, setF_ne _ _ (by intro e; cases e)]
theorem row_self (s : TS) (r : Rs) (q : List (Value × Value)) (i : RI) : setF (rowI s) (.queue r) q i = setF (setF (rowI s) (.hold r) ((s.at r).1.map cmP)) (.queue r) q i := by
  by_cases e : i = .queue r
  · subst e; rw [setF_same, setF_same]
  · rw [setF_ne _ _ e, setF_ne _ _ e, setF_self]
    rfl
theorem below_dn (w : World) (n : Nat) : Below w.heap.size w (w.drewN n) := ⟨rfl, rfl, rfl, Nat.le_refl _, fun _ _ => rfl⟩
theorem lockI_mode {s : TS} {t : Nat} {r : Rs} {m : Int} (h : m < 1 ∨ 5 < m) : lockI s t r m = (s, 14) := by unfold lockI; rw [if_pos h]
theorem lockI_state {s : TS} {t : Nat} {r : Rs} {m : Int} (h : ¬ (m < 1 ∨ 5 < m)) (h2 : (s.wt t).isSome = true) : lockI s t r m = (s, 10) := by unfold lockI; rw [if_neg h, if_pos h2]
theorem lockI_same {s : TS} {t : Nat} {r : Rs} {m : Int} (h : ¬ (m < 1 ∨ 5 < m)) (h2 : s.wt t = none) (h3 : jn (heldI (s.at r).1 t) m = heldI (s.at r).1 t) : lockI s t r m = (s, 0) := by unfold lockI; rw [if_neg h, h2, if_neg (by simp), if_pos h3]
theorem lockI_ok {s : TS} {t : Nat} {r : Rs} {m : Int} (h : ¬ (m < 1 ∨ 5 < m)) (h2 : s.wt t = none) (h3 : jn (heldI (s.at r).1 t) m ≠ heldI (s.at r).1 t) (h4 : (admI (s.at r).1 (t, jn (heldI (s.at r).1 t) m) && (heldI (s.at r).1 t != 0 || (s.at r).2.isEmpty)) = true) :
    lockI s t r m = (holdI s r (t, jn (heldI (s.at r).1 t) m), 0) := by unfold lockI; rw [if_neg h, h2, if_neg (by simp), if_neg h3, if_pos h4]
theorem lockI_wait {s : TS} {t : Nat} {r : Rs} {m : Int} (h : ¬ (m < 1 ∨ 5 < m)) (h2 : s.wt t = none) (h3 : jn (heldI (s.at r).1 t) m ≠ heldI (s.at r).1 t) (h4 : (admI (s.at r).1 (t, jn (heldI (s.at r).1 t) m) && (heldI (s.at r).1 t != 0 || (s.at r).2.isEmpty)) = false) :
    lockI s t r m = ({ s with th := upd s.th r (some ((s.at r).1, (s.at r).2.insertIdx (placeI (s.at r).1 (s.at r).2 t) (t, jn (heldI (s.at r).1 t) m))), wt := upd s.wt t (some r) }, 12) := by
  unfold lockI; rw [if_neg h, h2, if_neg (by simp), if_neg h3, if_neg (by rw [h4]; simp)]
def LockR (w : World) (X : Nat → Prop) (g : Nat) (p : TS × Int) (e : Ending) (w' : World) : Prop := e = .returned (.int .i64 p.2) ∧ Tw w X g p.1 w'
set_option maxHeartbeats 800000 in
theorem lock_mode (X : Nat → Prop) (g : Nat) (s : TS) (t : Nat) (r : Rs) (m : Int) (w : World) (h : Tt w g s X) (hm : m < 1 ∨ 5 < m) :
    Calls Tryz.prog 18 #[.pointer (some ⟨g, 0, none⟩), .int .u64 (t : Int), .agg (rsA r), .int .i64 m] w (LockR w X g (lockI s t r m)) := by
  rw [lockI_mode hm]
  have HF := Lib.hid (Tw.of_below h ((Below.refl _ w).alloc (Nat.le_refl _) (.cells (rsA r) 33)))
  clear h
  by_cases h1 : m < 1
  · have e1 : decide (m < 1) = true := by simpa using h1
    clear hm
    go_enter Tryz.func18, Tryz.ntmps18
    go_wp2_with fail
    go_ret
    exact ⟨rfl, HF.out⟩
  · have h5 : 5 < m := by omega
    have e1 : decide (m < 1) = false := by simpa using h1
    have e2 : decide (5 < m) = true := by simpa using h5
    clear hm
    go_enter Tryz.func18, Tryz.ntmps18
    go_wp2_with fail
    go_ret
    exact ⟨rfl, HF.out⟩
set_option maxHeartbeats 800000 in
theorem lock_state (X : Nat → Prop) (g : Nat) (s : TS) (t : Nat) (r : Rs) (m : Int) (w : World) (h : Tt w g s X) (ht : U64 t) (hm : ¬ (m < 1 ∨ 5 < m)) (hw : (s.wt t).isSome = true) :
    Calls Tryz.prog 18 #[.pointer (some ⟨g, 0, none⟩), .int .u64 (t : Int), .agg (rsA r), .int .i64 m] w (LockR w X g (lockI s t r m)) := by
  rw [lockI_state hm hw]
  obtain ⟨B, b1, b2, b3, V, hv, _⟩ := h.ex
  obtain ⟨z, hz⟩ : ∃ z, w.alloc (.cells (rsA r) 33) = z := ⟨_, rfl⟩
  have hbel : Below w.heap.size w z := hz ▸ (Below.refl _ w).alloc (Nat.le_refl _) _
  have TB := Lib.hid (hv.below hbel)
  obtain ⟨o, ho⟩ : ∃ o, s.wt t = o := ⟨_, rfl⟩
  rw [ho] at hw
  have HF := Lib.hid (Tw.of_below h (hbel.alloc hbel.size (.cells (wtV o) 33)))
  have p0 : z.cell? ⟨g, 2, none⟩ = some (.map (some b3)) := TB.out.cell3
  have HO := Lib.hid ho
  have HT := Lib.hid ht
  have e1 : decide (m < 1) = false := by simp; omega
  have e2 : decide (5 < m) = false := by simp; omega
  clear h hv hbel ho ht hm
  go_enter Tryz.func18, Tryz.ntmps18
  go_upto_region 4 with (first
    | refine wpList_look rfl 26 rfl (.tmp 24) (.tmp 25) true rfl keyT_u64 Tryz.underlying59 (rsV (0, 0)) (zero_res _) rfl TB.out.ms.m3 t rfl HT.out (.tuple #[.agg (wtV o), .bool o.isSome]) (by show lookV _ ((s.wt t).map rsV) true = _; rw [HO.out, wtV_look]) ?_
    | refine wpList_store_new 33 (.tmp 9) (.tmp 27) rfl rfl rfl _ z rfl rfl (wtV o) (rsA (0, 0)) 2 rfl strR rfl rfl (wtV_one _) rfl ?_)
  clear hz p0
  go_wp2_with fail
  go_ret
  exact ⟨rfl, HF.out⟩
set_option maxHeartbeats 6400000 in
theorem lock_go (X : Nat → Prop) (g : Nat) (s : TS) (t : Nat) (r : Rs) (m : Int) (w : World) (h : Tt w g s X) (hT : Tab w) (hr : RsOk r) (ht : U64 t) (hs : SmS s 99999) (hm : ¬ (m < 1 ∨ 5 < m)) (hw : s.wt t = none) :
    Calls Tryz.prog 18 #[.pointer (some ⟨g, 0, none⟩), .int .u64 (t : Int), .agg (rsA r), .int .i64 m] w (LockR w X g (lockI s t r m)) := by
  obtain ⟨B, b1, b2, b3, V, hv, hB, hx⟩ := h.ex
  obtain ⟨A1, c1, hv1, ho1⟩ := hv.holdR r
  obtain ⟨A2, c2, hv2, ho2⟩ := hv.queueR r
  have hn1 := (hs.1 r).1
  have hn2 := (hs.1 r).2
  obtain ⟨hh, hhe⟩ : ∃ hh, (s.at r).1 = hh := ⟨_, rfl⟩
  obtain ⟨qq, hqe⟩ : ∃ qq, (s.at r).2 = qq := ⟨_, rfl⟩
  obtain ⟨n1, hn1e⟩ : ∃ n1, hh.length = n1 := ⟨_, rfl⟩
  obtain ⟨n2, hn2e⟩ : ∃ n2, qq.length = n2 := ⟨_, rfl⟩
  obtain ⟨hv0, hv0e⟩ : ∃ hv0, heldI hh t = hv0 := ⟨_, rfl⟩
  obtain ⟨J, hJ⟩ : ∃ J, jn hv0 m = J := ⟨_, rfl⟩
  obtain ⟨LK, hLK⟩ : ∃ LK, lockI s t r m = LK := ⟨_, rfl⟩
  rw [hLK]
  rw [hhe] at ho1 hv1 hn1
  rw [hqe] at hv2 ho2 hn2
  have hl := own_lz ho1
  have hq := own_lz ho2
  rw [hn1e] at ho1 hl hv1 hn1
  rw [hn2e] at ho2 hq hv2 hn2
  obtain ⟨b6, hb6⟩ : ∃ b6, w.heap.size = b6 := ⟨_, rfl⟩
  obtain ⟨z, hz⟩ : ∃ z, w.alloc (.cells (rsA r) 33) = z := ⟨_, rfl⟩
  have hbel : Below w.heap.size w z := hz ▸ (Below.refl _ w).alloc (Nat.le_refl _) _
  have hbel3 : Below w.heap.size w (z.alloc (.cells (wtV none) 33)) := hbel.alloc hbel.size _
  have HB3 := Lib.hid hbel3
  have TB := Lib.hid (hv.below hbel)
  have TB3 := Lib.hid (hv.below hbel3)
  have TR0 : Hid (TbR w X (z.alloc (.cells (wtV none) 33)) B g b1 b2 b3 s V V (rowI s)) := (TbR.start hv hB hx).below hbel3
  have TT3 := Lib.hid (h.below hbel3)
  have HTAB := Lib.hid (tab_below hT hbel3)
  have A6 : Hid (At (z.alloc (.cells (wtV none) 33)) b6 33 (rsA r)) := by
    have := (At.new w 33 (rsA r))
    rw [hz, hb6] at this
    exact this.alloc _
  have HL := Lib.hid (hl.below hbel3)
  have HQ := Lib.hid (hq.below hbel3)
  have HNQ : Hid (∀ k, b6 ≤ k → (Value.slice A2 n2 c2).ownBlock ≠ some k) := fun k hk e => by
    have := (ho2.lt k e).2
    omega
  have p0 : z.cell? ⟨g, 2, none⟩ = some (.map (some b3)) := TB.out.cell3
  have HV1 := Lib.hid hv1
  have HV2 := Lib.hid hv2
  have HO2 := Lib.hid ho2
  have HOK := Lib.hid hr
  have HOT := Lib.hid ht
  have N1 := Lib.hid hv.n1
  have N2 := Lib.hid hv.n2
  have HHE := Lib.hid hhe
  have HQE := Lib.hid hqe
  have HN1E := Lib.hid hn1e
  have HN2E := Lib.hid hn2e
  have HV0 := Lib.hid hv0e
  have HJ := Lib.hid hJ
  have HLK := Lib.hid hLK
  have HB6 := Lib.hid hb6
  have HM := Lib.hid hm
  have HW := Lib.hid hw
  have HS := Lib.hid hs
  have e1 : decide (m < 1) = false := by simp; omega
  have e2 : decide (5 < m) = false := by simp; omega
  clear h hv hB hx ho1 ho2 hv1 hv2 hl hq hr ht hs hn2e hn1e hhe hqe hv0e hJ hLK hbel hbel3 hb6 hT hm hw
  go_enter Tryz.func18, Tryz.ntmps18
  go_upto_region 4 with (first
    | refine wpList_look rfl 26 rfl (.tmp 24) (.tmp 25) true rfl keyT_u64 Tryz.underlying59 (rsV (0, 0)) (zero_res _) rfl TB.out.ms.m3 t rfl HOT.out (.tuple #[.agg (wtV none), .bool false]) (by show lookV _ ((s.wt t).map rsV) true = _; rw [HW.out, wtV_look]; rfl) ?_
    | refine wpList_store_new 33 (.tmp 9) (.tmp 27) rfl rfl rfl _ z rfl rfl (wtV none) (rsA (0, 0)) 2 rfl strR rfl rfl (wtV_one _) rfl ?_)
  rw [HB6.out]
  clear hz p0
  generalize z.alloc (.cells (wtV none) 33) = z3 at HB3 TB3 TR0 TT3 HTAB A6 HL HQ ⊢
  generalize z.heap.size = b9
  go_upto_region 6 with fail
  refine wp_region_held_drew (S := Below z3.heap.size z3) (by kernel_rfl) ((Below.refl _ z3).drew) (fun hS => ?_)
  refine takeH (i := 0) (d := 30) (v := ?vll0) rfl (by kernel_rfl) (by kernel_rfl) (by kernel_rfl) (fun _ _ _ h => h) rfl (by rfl) ?yll0 hS ?rll0
  case yll0 => (intro wz hz; have p0 : wz.cell? ⟨g, 0, none⟩ = some (.map (some b1)) := (TB3.out.below hz).cell1; go_simp <;> with_reducible rfl)
  simp only [List.setIfInBounds_toArray, List.set_cons_zero, List.set_cons_succ]
  refine takeH (i := 1) (d := 31) (v := ?vll1) rfl (by kernel_rfl) (by kernel_rfl) (by kernel_rfl) (fun _ _ _ h => h) rfl (by rfl) ?yll1 hS ?rll1
  case yll1 => (intro wz hz; have p0 : wz.cell? ⟨g, 0, none⟩ = some (.map (some b1)) := (TB3.out.below hz).cell1; go_simp <;> with_reducible rfl)
  simp only [List.setIfInBounds_toArray, List.set_cons_zero, List.set_cons_succ]
  refine takeH (i := 2) (d := 32) (v := ?vll2) rfl (by kernel_rfl) (by kernel_rfl) (by kernel_rfl) (fun _ _ _ h => h) rfl (by rfl) ?yll2 hS ?rll2
  case yll2 => (intro wz hz; have p0 : wz.cell? ⟨g, 0, none⟩ = some (.map (some b1)) := (TB3.out.below hz).cell1; go_simp <;> with_reducible rfl)
  simp only [List.setIfInBounds_toArray, List.set_cons_zero, List.set_cons_succ]
  refine takeH (i := 3) (d := 33) (v := ?vll3) rfl (by kernel_rfl) (by kernel_rfl) (by kernel_rfl) (fun _ _ _ h => h) rfl (by rfl) ?yll3 hS ?rll3
  case yll3 => (intro wz hz; have p0 : wz.cell? ⟨g, 0, none⟩ = some (.map (some b1)) := (TB3.out.below hz).cell1; go_simp <;> with_reducible rfl)
  simp only [List.setIfInBounds_toArray, List.set_cons_zero, List.set_cons_succ]
  refine takeH (i := 4) (d := 34) (v := rsV r) rfl (by kernel_rfl) (by kernel_rfl) (by kernel_rfl) (fun _ _ _ h => h) rfl (by rfl) ?yll4 hS ?rll4
  case yll4 => (intro wz hz; have p0 : wz.cell? ⟨g, 0, none⟩ = some (.map (some b1)) := (TB3.out.below hz).cell1; exact exec_load_at 33 (.tmp 6) rfl b6 rfl _ 2 strR rfl (A6.out.under hz A6.out.lt))
  simp only [List.setIfInBounds_toArray, List.set_cons_zero, List.set_cons_succ]
  refine takeH (i := 5) (d := 35) (v := thV (.slice A1 n1 c1) (.slice A2 n2 c2)) rfl (by kernel_rfl) (by kernel_rfl) (by kernel_rfl) (fun _ _ _ h => h) rfl (by rfl) ?yll5 hS ?rll5
  case yll5 => (intro wz hz; have p0 : wz.cell? ⟨g, 0, none⟩ = some (.map (some b1)) := (TB3.out.below hz).cell1; exact exec_look (.tmp 33) (.tmp 34) false rfl keyT_res Tryz.underlying57 (thV nilS nilS) zero_th rfl (TB3.out.below hz).ms.m1 r rfl HOK.out _ (by rw [(TB3.out.below hz).look1, HV1.out, HV2.out]))
  simp only [List.setIfInBounds_toArray, List.set_cons_zero, List.set_cons_succ]
  refine wpAnyH_ready (rs := [6]) (by kernel_rfl) (by simp) ?_
  refine AllReadyH.cons rfl (fun K hK => ?_) AllReadyH.nil
  go_simp
  refine hK.out _ _ (((Below.refl _ z3).drew).alloc (Nat.le_refl _) _) (fun hT => ?_)
  clear hK hS
  have hS := hT
  clear hT
  refine wpAnyH_ready (rs := [7]) (by kernel_rfl) (by simp) ?_
  refine AllReadyH.cons rfl (fun K hK => ?_) AllReadyH.nil
  rw [if_pos (by rfl)]
  refine wp_store_at 79 (.tmp 11) (.tmp 35) rfl rfl z3.heap.size rfl (thA (.slice A1 n1 c1) (.slice A2 n2 c2)) (thA nilS nilS) 2 rfl strTh rfl rfl (thA_one _ _ _ _ _ _) (At.new z3.drew 79 (thA nilS nilS)) ?_
  intro w9 ha9 hg9
  have A6X := Lib.hid ha9
  have HB9 := Lib.hid (show Below z3.heap.size z3 w9 from (((Below.refl _ z3).drew).alloc (Nat.le_refl _) (.cells (thA nilS nilS) 79)).grown hg9 (by simp [World.alloc]) (fun k hk => by injection hk with hk; subst hk; exact Nat.le_refl _))
  clear ha9 hg9
  refine hK.out _ _ (HB9.out) (fun hT => ?_)
  clear hK hS
  have hS := hT
  clear hT
  refine wpAnyH_done (by kernel_rfl) ?_ _
  clear hS
  have hbx : z3.heap.size < w9.heap.size := A6X.out.lt
  have hb63 : b6 < z3.heap.size := A6.out.lt
  obtain ⟨bx, hbe⟩ : ∃ bx, z3.heap.size = bx := ⟨_, rfl⟩
  rw [hbe] at A6X hbx hb63 ⊢
  have HBE := Lib.hid hbe
  clear hbe
  go_wp2_with (first | refine wpList_load_at 79 36 (.tmp 11) rfl rfl rfl bx rfl _ 2 strTh rfl A6X.out ?_)
  refine (held_any _ A1 n1 c1 hh (.slice A2 n2 c2) t w9 (HL.out.below HB9.out) (by omega)).mono ?_
  rintro e z7 ⟨rfl, hb7⟩
  rw [HV0.out]
  have HB7 := Lib.hid (HB9.out.trans (hb7.mono HB9.out.size))
  have AX7 := Lib.hid (A6X.out.under hb7 A6X.out.lt)
  clear hb7
  go_wp2_with fail
  refine (jn_any hv0 m z7 (tab_below HTAB.out HB7.out)).mono ?_
  rintro e z8 ⟨rfl, n8, hz8⟩
  rw [HJ.out]
  have HB8 := Lib.hid (show Below z3.heap.size z3 z8 from hz8 ▸ HB7.out.trans ((below_dn z7 n8).mono HB7.out.size))
  have AX8 := Lib.hid (show At z8 bx 79 (thA (.slice A1 n1 c1) (.slice A2 n2 c2)) from hz8 ▸ AX7.out.under (below_dn z7 n8) AX7.out.lt)
  clear hz8
  have HBC := Lib.hid (HB8.out.alloc HB8.out.size (.cells (cmA (t, J)) 54))
  have AXC := Lib.hid (AX8.out.alloc (.cells (cmA (t, J)) 54))
  have ACC := Lib.hid (At.new z8 54 (cmA (t, J)))
  have hbcx : bx < z8.heap.size := AX8.out.lt
  go_upto_region 9 with (first | refine wpList_store_new 54 (.tmp 13) (.tmp 43) rfl rfl rfl _ z8 rfl rfl (cmA (t, J)) zC 2 rfl strC rfl rfl (cmA_one _) rfl ?_)
  generalize z8.alloc (.cells (cmA (t, J)) 54) = zc at HBC AXC ACC ⊢
  generalize z8.heap.size = bc at ACC hbcx ⊢
  have d1 : zc.cell? ⟨bc, 1, none⟩ = some (.int .i64 J) := ACC.out.cell 1
  by_cases hJv : J = hv0
  · have e3 : (J == hv0) = true := by simp [hJv]
    have HJV := Lib.hid hJv
    clear hJv
    go_wp2_with fail
    go_ret
    have hfin := lockI_same (s := s) (r := r) (t := t) HM.out HW.out (by rw [HHE.out, HV0.out, HJ.out]; exact HJV.out)
    rw [HLK.out] at hfin
    exact ⟨by rw [hfin]; rfl, by rw [hfin]; exact (Tw.of_below TT3.out HBC.out).from HB3.out⟩
  · have e3 : (J == hv0) = false := by simpa using hJv
    have HJV := Lib.hid hJv
    clear hJv
    go_upto_region 11 with fail
    clear d1
    obtain ⟨cd, hcd⟩ : ∃ cd, (admI hh (t, J) && (hv0 != 0 || qq.isEmpty)) = cd := ⟨_, rfl⟩
    have HCD := Lib.hid hcd
    have HQE2 : Hid (qq.isEmpty = decide (n2 = 0)) := by
      show _ = _
      rw [← HN2E.out]
      cases qq <;> simp
    clear hcd
    go_cut [60] from 48 to 61 (fun s60 wx => s60 = .bool cd ∧ Hid (Below zc.heap.size zc wx))
    case first =>
      go_wp2_with (first
        | refine wpList_load_at 79 48 (.tmp 11) rfl rfl rfl bx rfl _ 2 strTh rfl AXC.out ?_
        | refine wpList_load_at 54 49 (.tmp 13) rfl rfl rfl bc rfl _ 2 strC rfl ACC.out ?_)
      refine (admits_any _ A1 n1 c1 hh (.slice A2 n2 c2) (t, J) zc (tab_below HTAB.out HBC.out) (HL.out.below HBC.out) (by omega)).mono ?_
      rintro e zd ⟨rfl, hbd⟩
      have HBD := Lib.hid hbd
      have AXD := Lib.hid (AXC.out.under hbd AXC.out.lt)
      have d2 : zd.cell? ⟨bx, 1, none⟩ = some (.slice A2 n2 c2) := AXD.out.cell 1
      clear hbd
      cases had : admI hh (t, J)
      · have hc : cd = false := by rw [← HCD.out, had]; rfl
        subst hc
        go_wp2_with fail
        go_meet
        exact ⟨rfl, HBD⟩
      · cases hv2 : (hv0 != 0)
        · by_cases hq0 : n2 = 0
          · have hc : cd = true := by rw [← HCD.out, had, hv2, HQE2.out]; simp [hq0]
            have e4 : ((n2 : Int) == 0) = true := by simp [hq0]
            subst hc
            clear hq0
            go_wp2_with fail
            go_meet
            exact ⟨rfl, HBD⟩
          · have hc : cd = false := by rw [← HCD.out, had, hv2, HQE2.out]; simp [hq0]
            have e4 : ((n2 : Int) == 0) = false := by simp [hq0]
            subst hc
            clear hq0
            go_wp2_with fail
            go_meet
            exact ⟨rfl, HBD⟩
        · have hc : cd = true := by rw [← HCD.out, had, hv2]; rfl
          subst hc
          go_wp2_with fail
          go_meet
          exact ⟨rfl, HBD⟩
    obtain ⟨rfl, HC⟩ := hcut
    have HBX := Lib.hid (HBC.out.trans (HC.out.mono HBC.out.size))
    have A6D := Lib.hid (A6.out.under HBX.out A6.out.lt)
    have AC6 := Lib.hid (ACC.out.under HC.out ACC.out.lt)
    have AXX := Lib.hid (AXC.out.under HC.out AXC.out.lt)
    cases cd
    · go_upto_region 14 with fail
      have HBXW := Lib.hid (HB3.out.trans (HBX.out.mono HB3.out.size))
      have TRX := Lib.hid (TR0.out.below HBX.out)
      have AXD := Lib.hid (show At wc.drew bx 79 (thA (.slice A1 n1 c1) (.slice A2 n2 c2)) from AXX.out)
      have HPL : Hid (∀ W, Below wc.heap.size wc W → Calls Tryz.prog 46 #[.agg (thA (.slice A1 n1 c1) (.slice A2 n2 c2)), .agg (cmA (t, J))] W (RetB W (.int .i64 ((placeI hh qq t : Nat) : Int)))) := fun W hW =>
        place_any _ A1 n1 c1 hh A2 n2 c2 qq (t, J) W ((HL.out.below HBX.out).below hW) ((HQ.out.below HBX.out).below hW) (by omega) (by omega)
      obtain ⟨pl, hpl⟩ : ∃ pl, placeI hh qq t = pl := ⟨_, rfl⟩
      have hple : pl ≤ n2 := by
        rw [← hpl, ← HN2E.out]
        unfold placeI
        split
        · exact Nat.le_refl _
        · exact (List.takeWhile_sublist _).length_le
      rw [hpl] at HPL
      have HPLE := Lib.hid hpl
      have HIN : Hid (∀ W, Below wc.heap.size wc W → Calls Tryz.prog 45 #[.pointer (some ⟨bx, 1, none⟩), .int .i64 (pl : Int), .agg (cmA (t, J))] W (InR B bx 1 (thA (.slice A1 n1 c1) (.slice A2 n2 c2)) (.slice A2 n2 c2) (qq.insertIdx pl (t, J)) W)) := fun W hW => by
        have hbw : Below w.heap.size w W := HBXW.out.trans (hW.mono HBXW.out.size)
        exact insert_any B (.slice A2 n2 c2) qq W (by rw [HN2E.out]; exact HO2.out.kept (grown_below hbw) (by cases A2 <;> first | exact .inl rfl | exact .inr (by simp [Value.ownBlock]))) (by rw [HN2E.out]; omega) (Nat.le_trans TRX.out.hB hW.size) pl (by rw [HN2E.out]; exact hple) (t, J) bx 1 _ (AXX.out.under hW AXX.out.lt) rfl
      have NBC : Hid (¬ (bc = bx ∨ (Value.slice A2 n2 c2).ownBlock = some bc)) := by
        rintro (h | h)
        · omega
        · exact HNQ.out bc (by omega) h
      clear hpl hple
      refine wp_region_held_drew (S := fun wz => At wz bc 54 (cmA (t, J))) (by kernel_rfl) (AC6.out.grown (grown_drew1 wc none) (by simp)) (fun hS => ?_)
      refine takeH (i := 0) (d := 65) (v := ?vli0) rfl (by kernel_rfl) (by kernel_rfl) (by kernel_rfl) (fun _ _ _ h => h) rfl (by rfl) ?yli0 hS ?rli0
      case yli0 => (intro wz hz; go_simp <;> with_reducible rfl)
      simp only [List.setIfInBounds_toArray, List.set_cons_zero, List.set_cons_succ]
      refine takeH (i := 2) (d := 67) (v := .agg (cmA (t, J))) rfl (by kernel_rfl) (by kernel_rfl) (by kernel_rfl) (fun _ _ _ h => h) rfl (by rfl) ?yli2 hS ?rli2
      case yli2 => (intro wz hz; exact exec_load_at 54 (.tmp 13) rfl bc rfl _ 2 strC rfl hz)
      simp only [List.setIfInBounds_toArray, List.set_cons_zero, List.set_cons_succ]
      refine takeH (i := 4) (d := 69) (v := .agg (cmA (t, J))) rfl (by kernel_rfl) (by kernel_rfl) (by kernel_rfl) (fun _ _ _ h => h) rfl (by rfl) ?yli4 hS ?rli4
      case yli4 => (intro wz hz; exact exec_load_at 54 (.tmp 13) rfl bc rfl _ 2 strC rfl hz)
      simp only [List.setIfInBounds_toArray, List.set_cons_zero, List.set_cons_succ]
      refine wpAnyH_ready (rs := [1]) (by kernel_rfl) (by simp) ?_
      refine AllReadyH.cons rfl (fun K hK => ?_) AllReadyH.nil
      rw [if_pos (by rfl)]
      refine wp_exec 66 rfl (exec_load_at 79 (.tmp 11) rfl bx rfl (thA (.slice A1 n1 c1) (.slice A2 n2 c2)) 2 strTh rfl AXD.out) ?_
      refine hK.out _ _ (hS) (fun hT => ?_)
      clear hK hS
      have hS := hT
      clear hT
      refine wpAnyH_ready (rs := [3]) (by kernel_rfl) (by simp) ?_
      refine AllReadyH.cons rfl (fun K hK => ?_) AllReadyH.nil
      go_simp
      refine (HPL.out _ ((Below.refl _ wc).drew)).mono ?_
      rintro e y3 ⟨rfl, hb3⟩
      have B3 := Lib.hid (show Below wc.heap.size wc y3 from ((Below.refl _ wc).drew).trans hb3)
      have AC3 := Lib.hid (AC6.out.under B3.out AC6.out.lt)
      clear hb3
      refine hK.out _ _ (AC3.out) (fun hT => ?_)
      clear hK hS
      have hS := hT
      clear hT
      refine wpAnyH_ready (rs := [5]) (by kernel_rfl) (by simp) ?_
      refine AllReadyH.cons rfl (fun K hK => ?_) AllReadyH.nil
      go_simp
      refine (HIN.out _ B3.out).mono ?_
      rintro e w2 ⟨rfl, v8, ho8, hv8, ha8, hm8⟩
      have AC8 := Lib.hid (show At w2 bc 54 (cmA (t, J)) from (hm8.block bc AC3.out.lt (NBC.out)).trans AC3.out)
      refine hK.out _ _ (AC8.out) (fun hT => ?_)
      clear hK hS
      have hS := hT
      clear hT
      refine wpAnyH_done (by kernel_rfl) ?_ _
      obtain ⟨A8, c8, hv8e, _⟩ := pl_own_slice ho8
      obtain ⟨q8, hq8⟩ : ∃ q8, qq.insertIdx pl (t, J) = q8 := ⟨_, rfl⟩
      rw [hq8] at ho8 hv8e
      obtain ⟨m8, hm8l⟩ : ∃ m8, q8.length = m8 := ⟨_, rfl⟩
      rw [hm8l] at ho8 hv8e
      subst hv8e
      have TR3b := Lib.hid (TRX.out.below B3.out)
      have hY : ∀ k, (k = bx ∨ (Value.slice A2 n2 c2).ownBlock = some k) → (V (.queue r)).ownBlock = some k ∨ (¬ TbX g b1 b2 b3 V k ∧ w.heap.size ≤ k) := by
        rintro k (rfl | hk)
        · exact .inr ⟨TR3b.out.box_ne (AXX.out.under B3.out AXX.out.lt) ⟨by decide, by decide, by decide⟩, by rw [HB6.out]; omega⟩
        · exact .inl (by rw [HV2.out]; exact hk)
      have TR2 := Lib.hid (TR3b.out.rowM (.queue r) hm8 hY (v := .slice A8 m8 c8) (l := q8.map cmP) (by rw [List.length_map, hm8l]; exact ho8) (fun k hk => by rw [HV2.out]; exact hv8 k hk))
      have A62 : Hid (At w2 b6 33 (rsA r)) := (hm8.block b6 (A6D.out.under B3.out A6D.out.lt).lt (by
        rintro (h | h)
        · omega
        · exact HNQ.out b6 (Nat.le_refl _) h)).trans (A6D.out.under B3.out A6D.out.lt)
      have AX2 : Hid (At w2 bx 79 (thA (.slice A1 n1 c1) (.slice A8 m8 c8))) := ha8
      have HQ8 := Lib.hid hq8
      clear hS ho8 hv8 ha8 hm8 hY hm8l hq8
      go_upto_region 15 with fail
      have hS0 : At w2.drew g 61 (tabA b1 b2 b3) ∧ At w2.drew b6 33 (rsA r) ∧ At w2.drew bx 79 (thA (.slice A1 n1 c1) (.slice A8 m8 c8)) := ⟨TR2.out.gt, A62.out, AX2.out⟩
      refine wp_region_held_drew (S := fun wz => At wz g 61 (tabA b1 b2 b3) ∧ At wz b6 33 (rsA r) ∧ At wz bx 79 (thA (.slice A1 n1 c1) (.slice A8 m8 c8))) (by kernel_rfl) hS0 (fun hS => ?_)
      refine takeH (i := 0) (d := 71) (v := ?vlp0) rfl (by kernel_rfl) (by kernel_rfl) (by kernel_rfl) (fun _ _ _ h => h) rfl (by rfl) ?ylp0 hS ?rlp0
      case ylp0 => (intro wz hz; have p0 : wz.cell? ⟨g, 0, none⟩ = some (.map (some b1)) := hz.1.cell 0; go_simp <;> with_reducible rfl)
      simp only [List.setIfInBounds_toArray, List.set_cons_zero, List.set_cons_succ]
      refine takeH (i := 1) (d := 72) (v := ?vlp1) rfl (by kernel_rfl) (by kernel_rfl) (by kernel_rfl) (fun _ _ _ h => h) rfl (by rfl) ?ylp1 hS ?rlp1
      case ylp1 => (intro wz hz; have p0 : wz.cell? ⟨g, 0, none⟩ = some (.map (some b1)) := hz.1.cell 0; go_simp <;> with_reducible rfl)
      simp only [List.setIfInBounds_toArray, List.set_cons_zero, List.set_cons_succ]
      refine takeH (i := 2) (d := 73) (v := ?vlp2) rfl (by kernel_rfl) (by kernel_rfl) (by kernel_rfl) (fun _ _ _ h => h) rfl (by rfl) ?ylp2 hS ?rlp2
      case ylp2 => (intro wz hz; have p0 : wz.cell? ⟨g, 0, none⟩ = some (.map (some b1)) := hz.1.cell 0; go_simp <;> with_reducible rfl)
      simp only [List.setIfInBounds_toArray, List.set_cons_zero, List.set_cons_succ]
      refine takeH (i := 3) (d := 74) (v := ?vlp3) rfl (by kernel_rfl) (by kernel_rfl) (by kernel_rfl) (fun _ _ _ h => h) rfl (by rfl) ?ylp3 hS ?rlp3
      case ylp3 => (intro wz hz; have p0 : wz.cell? ⟨g, 0, none⟩ = some (.map (some b1)) := hz.1.cell 0; go_simp <;> with_reducible rfl)
      simp only [List.setIfInBounds_toArray, List.set_cons_zero, List.set_cons_succ]
      refine takeH (i := 4) (d := 75) (v := rsV r) rfl (by kernel_rfl) (by kernel_rfl) (by kernel_rfl) (fun _ _ _ h => h) rfl (by rfl) ?ylp4 hS ?rlp4
      case ylp4 => (intro wz hz; have p0 : wz.cell? ⟨g, 0, none⟩ = some (.map (some b1)) := hz.1.cell 0; exact exec_load_at 33 (.tmp 6) rfl b6 rfl _ 2 strR rfl hz.2.1)
      simp only [List.setIfInBounds_toArray, List.set_cons_zero, List.set_cons_succ]
      refine takeH (i := 5) (d := 76) (v := .agg (thA (.slice A1 n1 c1) (.slice A8 m8 c8))) rfl (by kernel_rfl) (by kernel_rfl) (by kernel_rfl) (fun _ _ _ h => h) rfl (by rfl) ?ylp5 hS ?rlp5
      case ylp5 => (intro wz hz; have p0 : wz.cell? ⟨g, 0, none⟩ = some (.map (some b1)) := hz.1.cell 0; exact exec_load_at 79 (.tmp 11) rfl bx rfl (thA (.slice A1 n1 c1) (.slice A8 m8 c8)) 2 strTh rfl hz.2.2)
      simp only [List.setIfInBounds_toArray, List.set_cons_zero, List.set_cons_succ]
      refine wpAnyH_ready (rs := [6]) (by kernel_rfl) (by simp) ?_
      refine AllReadyH.cons rfl (fun K hK => ?_) AllReadyH.nil
      rw [if_pos (by rfl)]
      refine wp_mapStore (.tmp 74) (.tmp 75) (.tmp 76) rfl rfl keyT_res Tryz.underlying57 rfl (TR2.out.below ((Below.refl _ w2).drew)).ms.m1 r rfl HOK.out (thV (.slice A1 n1 c1) (.slice A8 m8 c8)) rfl ?_
      intro w9 hm9 hg9
      have TR3 := Lib.hid ((TR2.out.below ((Below.refl _ w2).drew)).put1 r ((hh, q8)) (.slice A1 n1 c1) (.slice A8 m8 c8) hm9 hg9)
      have ngm := TR2.out.ms.m1
      obtain ⟨es9, cl9, hes9, _⟩ := ngm
      have hS9 : At w9 g 61 (tabA b1 b2 b3) ∧ At w9 b6 33 (rsA r) ∧ At w9 bx 79 (thA (.slice A1 n1 c1) (.slice A8 m8 c8)) := ⟨hS0.1.grown hg9 (fun e => at_map TR2.out.gt hes9 (Option.some.inj e)), hS0.2.1.grown hg9 (fun e => at_map A62.out hes9 (Option.some.inj e)), hS0.2.2.grown hg9 (fun e => at_map AX2.out hes9 (Option.some.inj e))⟩
      clear hm9 hes9
      refine hK.out _ _ (hS9) (fun hT => ?_)
      clear hK hS
      have hS := hT
      clear hT
      refine wpAnyH_done (by kernel_rfl) ?_ _
      obtain ⟨w3, hw3⟩ : ∃ w3, w3 = w9 := ⟨_, rfl⟩
      subst hw3
      have A63 := Lib.hid hS9.2.1
      clear hS hS9 hg9 hS0
      go_upto_region 16 with fail
      have hS0 : At w3.drew g 61 (tabA b1 b2 b3) ∧ At w3.drew b6 33 (rsA r) := ⟨TR3.out.gt, A63.out⟩
      refine wp_region_held_drew (S := fun wz => At wz g 61 (tabA b1 b2 b3) ∧ At wz b6 33 (rsA r)) (by kernel_rfl) hS0 (fun hS => ?_)
      refine takeH (i := 0) (d := 77) (v := ?vl30) rfl (by kernel_rfl) (by kernel_rfl) (by kernel_rfl) (fun _ _ _ h => h) rfl (by rfl) ?yl30 hS ?rl30
      case yl30 => (intro wz hz; have p0 : wz.cell? ⟨g, 2, none⟩ = some (.map (some b3)) := hz.1.cell 2; go_simp <;> with_reducible rfl)
      simp only [List.setIfInBounds_toArray, List.set_cons_zero, List.set_cons_succ]
      refine takeH (i := 1) (d := 78) (v := ?vl31) rfl (by kernel_rfl) (by kernel_rfl) (by kernel_rfl) (fun _ _ _ h => h) rfl (by rfl) ?yl31 hS ?rl31
      case yl31 => (intro wz hz; have p0 : wz.cell? ⟨g, 2, none⟩ = some (.map (some b3)) := hz.1.cell 2; go_simp <;> with_reducible rfl)
      simp only [List.setIfInBounds_toArray, List.set_cons_zero, List.set_cons_succ]
      refine takeH (i := 2) (d := 79) (v := ?vl32) rfl (by kernel_rfl) (by kernel_rfl) (by kernel_rfl) (fun _ _ _ h => h) rfl (by rfl) ?yl32 hS ?rl32
      case yl32 => (intro wz hz; have p0 : wz.cell? ⟨g, 2, none⟩ = some (.map (some b3)) := hz.1.cell 2; go_simp <;> with_reducible rfl)
      simp only [List.setIfInBounds_toArray, List.set_cons_zero, List.set_cons_succ]
      refine takeH (i := 3) (d := 80) (v := ?vl33) rfl (by kernel_rfl) (by kernel_rfl) (by kernel_rfl) (fun _ _ _ h => h) rfl (by rfl) ?yl33 hS ?rl33
      case yl33 => (intro wz hz; have p0 : wz.cell? ⟨g, 2, none⟩ = some (.map (some b3)) := hz.1.cell 2; go_simp <;> with_reducible rfl)
      simp only [List.setIfInBounds_toArray, List.set_cons_zero, List.set_cons_succ]
      refine takeH (i := 4) (d := 81) (v := ?vl34) rfl (by kernel_rfl) (by kernel_rfl) (by kernel_rfl) (fun _ _ _ h => h) rfl (by rfl) ?yl34 hS ?rl34
      case yl34 => (intro wz hz; have p0 : wz.cell? ⟨g, 2, none⟩ = some (.map (some b3)) := hz.1.cell 2; go_simp <;> with_reducible rfl)
      simp only [List.setIfInBounds_toArray, List.set_cons_zero, List.set_cons_succ]
      refine takeH (i := 5) (d := 82) (v := rsV r) rfl (by kernel_rfl) (by kernel_rfl) (by kernel_rfl) (fun _ _ _ h => h) rfl (by rfl) ?yl35 hS ?rl35
      case yl35 => (intro wz hz; have p0 : wz.cell? ⟨g, 2, none⟩ = some (.map (some b3)) := hz.1.cell 2; exact exec_load_at 33 (.tmp 6) rfl b6 rfl _ 2 strR rfl hz.2)
      simp only [List.setIfInBounds_toArray, List.set_cons_zero, List.set_cons_succ]
      refine wpAnyH_ready (rs := [6]) (by kernel_rfl) (by simp) ?_
      refine AllReadyH.cons rfl (fun K hK => ?_) AllReadyH.nil
      rw [if_pos (by rfl)]
      refine wp_mapStore (.tmp 80) (.tmp 81) (.tmp 82) rfl rfl keyT_u64 Tryz.underlying59 rfl (TR3.out.below ((Below.refl _ w3).drew)).ms.m3 t rfl HOT.out (rsV r) rfl ?_
      intro w9 hm9 hg9
      have TR4 := Lib.hid ((TR3.out.below ((Below.refl _ w3).drew)).put3 t (some r) hm9 hg9)
      have ngm := TR3.out.ms.m3
      obtain ⟨es9, cl9, hes9, _⟩ := ngm
      have hS9 : At w9 g 61 (tabA b1 b2 b3) ∧ At w9 b6 33 (rsA r) := ⟨hS0.1.grown hg9 (fun e => at_map TR3.out.gt hes9 (Option.some.inj e)), hS0.2.grown hg9 (fun e => at_map A63.out hes9 (Option.some.inj e))⟩
      clear hm9 hes9
      refine hK.out _ _ (hS9) (fun hT => ?_)
      clear hK hS
      have hS := hT
      clear hT
      refine wpAnyH_done (by kernel_rfl) ?_ _
      have TR5 := Lib.hid TR4.out
      clear hS hS9 hg9 hS0
      go_wp2_with fail
      go_ret
      have hfin := lockI_wait (s := s) (r := r) (t := t) HM.out HW.out (by rw [HHE.out, HV0.out, HJ.out]; exact HJV.out) (by rw [HHE.out, HV0.out, HJ.out, HQE.out]; exact HCD.out)
      rw [HLK.out, HHE.out, HV0.out, HJ.out, HQE.out, HPLE.out, HQ8.out] at hfin
      refine ⟨by rw [hfin]; rfl, ?_⟩
      rw [hfin]
      refine th_fin (s := s) (x := (hh, q8)) TR5.out rfl rfl (fun i => ?_) (fun i => ?_) N1.out N2.out
      · rw [← HV1.out]
        exact setTh_self V r _ i
      · rw [row_self, HHE.out]
    · go_wp2_with (first
        | refine wpList_load_at 33 62 (.tmp 6) rfl rfl rfl b6 rfl _ 2 strR rfl A6D.out ?_
        | refine wpList_load_at 54 63 (.tmp 13) rfl rfl rfl bc rfl _ 2 strC rfl AC6.out ?_)
      refine (hold_any X g s r (t, J) wc (TT3.out.below HBX.out) HOK.out HOT.out HS.out).mono ?_
      rintro e w2 ⟨rfl, htw⟩
      have HTW := Lib.hid htw
      clear htw
      go_wp2_with fail
      go_ret
      have hfin := lockI_ok (s := s) (r := r) (t := t) HM.out HW.out (by rw [HHE.out, HV0.out, HJ.out]; exact HJV.out) (by rw [HHE.out, HV0.out, HJ.out, HQE.out]; exact HCD.out)
      rw [HLK.out, HHE.out, HV0.out, HJ.out] at hfin
      exact ⟨by rw [hfin]; rfl, by rw [hfin]; exact (HTW.out.from HBX.out).from HB3.out⟩
theorem Lock_any (X : Nat → Prop) (g : Nat) (s : TS) (t : Nat) (r : Rs) (m : Int) (w : World) (h : Tt w g s X) (hT : Tab w) (hr : RsOk r) (ht : U64 t) (hs : SmS s 99999) :
    Calls Tryz.prog 18 #[.pointer (some ⟨g, 0, none⟩), .int .u64 (t : Int), .agg (rsA r), .int .i64 m] w (LockR w X g (lockI s t r m)) := by
  by_cases hm : m < 1 ∨ 5 < m
  · exact lock_mode X g s t r m w h hm
  · cases hw : s.wt t with
    | none => exact lock_go X g s t r m w h hT hr ht hs hm hw
    | some x => exact lock_state X g s t r m w h ht hm (by rw [hw]; rfl)
end Go.Proofs.YthbifccankfngaaGreatDoor
