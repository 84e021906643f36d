/-
  The walk of the law WalDoes.
  Conditions: none beyond those that each theorem names.
-/
import Derived.Test.YthicidpdgggbjaaDoorK34Q
namespace Go.Proofs.YthicidpdgggbjaaDoor
open Go.RowKit
set_option maxRecDepth 20000

def DoL (w : World) (gd gs size b9 N : Nat) (p i : Value) (z : World) : Prop :=
  ∃ (k g B : Nat) (S : List Sect) (nw : Int) (rs : List Er) (fo : Nat) (ws : List Sect) (vE vW : Value) (A : Option Addr) (n c us : Nat) (ts : List Er), k ≤ N ∧ p = .pointer (some ⟨g, 0, none⟩) ∧ i = .int .i64 (k : Int) ∧
    Hid (WD w gd gs g size B S nw rs fo ws vE vW b9 A n c us fo ts z) ∧ Hid (WM size S nw rs fo ws us ts k)
theorem wd_same {w : World} {gd gs g size B : Nat} {S : List Sect} {nw : Int} {rs : List Er} {fo : Nat} {ws : List Sect} {vE vW : Value} {b9 : Nat} {A : Option Addr} {n c us : Nat} {ts : List Er} {z : World} {k : Nat} (h : WD w gd gs g size B S nw rs fo ws vE vW b9 A n c us fo ts z) (hm : WM size S nw rs fo ws us ts k) (hk : k ≤ 31) (hs : size ≤ 400) :
    Calls Tryd.prog 16 #[.pointer (some ⟨g, 0, none⟩), .agg (rlA size A n c us fo)] z (RetQ z true) :=
  lsame_ok _ _ B z g gd 2 size rs fo ws vE vW h.d.log ts A n c us h.lez hm.te hm.sum hm.fit hs (by have := hm.cnt; omega) hm.good hm.num (by rw [← hm.pos]; exact Nat.le_trans hm.fit hs)

theorem strOp : Str 46 16 := ⟨_, Tryd.underlying46, rfl, by kernel_rfl⟩
theorem wpList_load_ao {ops : Array Oper} {rest : List Oper} {op : Oper} {a : Act} {w : World} {Q : Exit → Act → World → Prop} (d : Nat) (x : Operand) (hop : op.dst = some d) (hgd : op.guard = none) (ho : op.op = .load 46 x) (g o : Nat) (hx : a.eval x = .pointer (some ⟨g, o, none⟩)) (r : Ao)
    (hc : w.rangeAt g o (aoL r)) (h : wpList Tryd.prog ops Q rest (a.put (some d) (.agg (aoA r))) w) : wpList Tryd.prog ops Q (op :: rest) a w := by
  obtain ⟨ds, h1, h2, h3⟩ := strOp
  refine wpList_load_mid hgd 46 x ho g o hx (aoL r) ds hc h1 h2 (by rw [aoL_length]; exact h3) ?_
  rw [hop]
  exact h
set_option maxHeartbeats 12800000 in
theorem does_yes (size : Nat) (AO : Option Addr) (N cO : Nat) (os : List Ao) (w : World) (hO : AOz (fun k => w.heap.size ≤ k) w AO N os) (hi : ∀ o ∈ os, AoIn o) (hn : N ≤ maxLen) (hs1 : 1 ≤ size) (hs2 : size ≤ 400) :
    Calls Tryd.prog 3 #[.int .i64 (size : Int), .slice AO N cO] w (RetQ w true) := by
  have d1 : decide ((size : Int) < 1) = false := by simp; omega
  have d2 : decide ((400 : Int) < (size : Int)) = false := by simp; omega
  have HO := Lib.hid hO
  have HI := Lib.hid hi
  have HNM := Lib.hid hn
  clear hO hi hn
  go_enter Tryd.func3, Tryd.ntmps3
  go_wp2_with fail
  refine (lightO_any _ AO N cO os w HO.out HI.out HNM.out).mono ?_
  rintro e z1 ⟨lt, rfl, hb1, hsm⟩
  have HB1 := Lib.hid hb1
  have HSM := Lib.hid hsm
  clear hb1 hsm
  cases lt
  · go_wp2_with fail
    refine (works_any z1).mono ?_
    rintro e z2 ⟨rfl, hb2⟩
    have HB2 := Lib.hid (HB1.out.trans (hb2.mono HB1.out.size))
    clear hb2
    go_wp2_with fail
    go_ret
    exact ⟨rfl, HB2.out⟩
  · obtain ⟨s4, hs4⟩ : ∃ s4 : Nat, (size : Int) + 4 = (s4 : Int) := ⟨size + 4, by omega⟩
    have hN30 : N ≤ 30 := (HSM.out rfl).1
    have SMO : Hid (∀ (k : Nat) (h : k < os.length), SmO os[k]) := (HSM.out rfl).2
    clear HSM
    go_wp2_with fail
    refine (new_ok (fun _ => False) s4 z1 (by omega) (by omega)).mono ?_
    rintro e z2 ⟨gd, gs, rfl, hg1, hg2, hp, hb⟩
    have HP := Lib.hid hp
    have hlow := HB1.out.trans (hb.mono HB1.out.size)
    have HD := Lib.hid (DS.new (base := 2) (size := size) (n := 0) hp hlow (Nat.le_trans HB1.out.size hg1) (Nat.le_trans HB1.out.size hg2) rfl)
    have hlt := hp.lt
    clear hp hb hg1 hg2 hlow HB1
    go_wp2_with fail
    refine (wnew_ok (fun _ => False) gd gs _ 0 (-1) [] false z2 2 size HP.out (by simp; omega) (by omega) (by simp; omega)).mono ?_
    rintro e z3 ⟨rfl, rfl⟩
    clear HP
    have hgl : gd ≠ z2.heap.size ∧ gs ≠ z2.heap.size := by omega
    generalize z2.alloc (.cells #[.pointer (some ⟨gd, 0, none⟩), .int .i64 ((2 : Nat) : Int), .int .i64 (size : Int), .slice none 0 0, .int .i64 0, .slice none 0 0] 82) = z3 at HD ⊢
    generalize z2.heap.size = g at HD hgl ⊢
    clear hlt
    go_wp2_with (first
      | refine wpList_build9 57 rfl rfl 34 _ rfl #[(0, .int .i64 (size : Int))] (by simp only [List.map_toArray, List.map_cons, List.map_nil]; rfl) _ (built_rls size) ?_
      | refine wpList_store_new 34 (.tmp 9) (.tmp 57) rfl rfl rfl _ z3 rfl rfl (rlA size none 0 0 0 0) zRL 4 rfl strRL rfl rfl (rlA_one _ _ _ _ _ _) rfl ?_)
    have W0 : Hid (WD w gd gs g size g (List.replicate s4 zsec) 0 [] 0 [] (.slice none 0 0) (.slice none 0 0) z3.heap.size none 0 0 0 0 [] (z3.alloc (.cells (rlA size none 0 0 0 0) 34))) :=
      ⟨(⟨HD.out.log.box, HD.out.log.oe, HD.out.log.ow, fun r hr => by simp at hr, HD.out.log.low⟩ : LogAt (fun k => pl_own gd gs k ∨ k = z3.heap.size) g z3 g gd 2 size [] 0 [] (.slice none 0 0) (.slice none 0 0)).below ((Below.refl _ z3).alloc (Nat.le_refl _) _), HD.out.call ((Below.refl _ z3).alloc (Nat.le_refl _) _), At.new z3 _ _, Lz.empty, fun r h => by simp at h, HD.out.low.size, fun hx => by have := (HD.out.log.xlt _ hx).1; omega, fun hx => by have := HD.out.plt _ hx; omega⟩
    have M0 : Hid (WM size (List.replicate s4 zsec) 0 [] 0 [] 0 [] 0) :=
      ⟨rfl, trivial, rfl, rfl, rfl, OnDisk.new s4 2 size (by omega), fun k hk _ => by simp at hk; simp [hk], by simp; omega, Nat.le_refl _, by omega, by omega⟩
    generalize z3.alloc (.cells (rlA size none 0 0 0 0) 34) = z4 at W0 ⊢
    generalize z3.heap.size = b9 at W0 ⊢
    clear HD
    go_loopw [7, 10] (fun p i z => DoL w gd gs size b9 N p i z) (fun _ i _ => N - (intOf i).toNat)
    case atStart => exact ⟨0, g, g, _, 0, [], 0, [], _, _, none, 0, 0, 0, [], Nat.zero_le _, rfl, rfl, W0, M0⟩
    case round =>
      clear W0 M0
      obtain ⟨k, g1, B, S, nw, rs, fo, ws, vE, vW, A, n, c, us, ts, hk, rfl, rfl, HW, HM⟩ := hrel
      by_cases hlt : k < N
      · obtain ⟨bL, oL, hl, rfl, hbw, hblw, hR0, hO0⟩ := HO.out.at hlt
        obtain ⟨o, ho⟩ : ∃ o, os[k] = o := ⟨_, rfl⟩
        have I1 := Lib.hid (HI.out _ (List.getElem_mem hl))
        have SM1 := Lib.hid (SMO.out k hl)
        rw [ho] at hR0 hO0 I1 SM1
        have R0 := Lib.hid (range_below hR0 HW.out.d.low hblw)
        have O0 := Lib.hid (hO0.kept ⟨HW.out.d.low.os, HW.out.d.low.tape, HW.out.d.low.output, HW.out.d.low.size, fun q _ hq => HW.out.d.low.block q (by omega)⟩)
        have c0 : wr.cell? ⟨bL, oL + k * 16, none⟩ = some (.int .i64 o.k) := R0.out 0 _ rfl
        have hbl : bL < wr.heap.size := Nat.lt_of_lt_of_le hblw HW.out.d.low.size
        have HR0 := Lib.hid hR0
        have EO := Lib.hid hO0.er
        have OK1 := Lib.hid I1.out.er
        clear hR0 hO0 ho
        by_cases k0 : o.k = 0 ∨ o.k = 1
        · have SMS := Lib.hid (light_small SM1.out.er)
          have HK0 := Lib.hid k0
          have RE1 := Lib.hid (er_of_ao R0.out)
          have LA : Hid (Calls Tryd.prog 10 #[.pointer (some ⟨g1, 0, none⟩), .agg (erA o.er)] wr fun e z' => ∃ (k : Nat) (q : Int) (rs2 : List Er) (ws2 : List Sect) (vE2 vW2 : Value), e = .returned (.tuple #[.int .u64 (k : Int), .int .i64 q]) ∧
              WD w gd gs g1 size B S nw rs2 fo ws2 vE2 vW2 b9 A n c us fo ts z' ∧ LHow size us o.er k q rs rs2 ws ws2) := by
            have f1 := HM.out.sum
            have f2 := HM.out.fit
            have f3 := HM.out.cnt
            have f4 := SMS.out
            exact append_law HW.out (by omega) (by omega) (by omega) f1 f2 (by omega) o.er O0.out.er (by omega) (by omega) (by omega) I1.out.er
          clear SM1 I1
          clear k0
          go_upto_region 14 with fail
          go_cut [69] from 70 to 72 (fun s69 wx => s69 = .bool (o.k == 0) ∧ wx = wr)
          case first =>
            go_wp2_with fail
            go_meet
            exact ⟨rfl, rfl⟩
          case rest =>
            obtain ⟨rfl, hwc⟩ := hcut
            subst hwc
            go_upto_if 69 with fail
            go_cut [69] from 70 to 72 (fun s69 wx => s69 = .bool true ∧ wx = wc)
            case first =>
              rcases HK0.out with k0 | k0
              · have e0 : (o.k == 0) = true := by simp [k0]
                go_wp2_with fail
                go_meet
                exact ⟨by rw [e0], rfl⟩
              · have e0 : (o.k == 0) = false := by simp [k0]
                have e1 : (o.k == 1) = true := by simp [k0]
                go_wp2_with fail
                go_meet
                exact ⟨rfl, rfl⟩
            case rest =>
            obtain ⟨rfl, hwd⟩ := hcut
            subst hwd
            clear c0
            go_wp2_with (refine wpList_load_er 78 (.tmp 77) rfl rfl rfl bL (oL + k * 16 + 1) rfl o.er RE1.out ?_)
            refine LA.out.mono ?_
            rintro e z5 ⟨lk0, q0, rs2, ws2, vE2, vW2, rfl, h5, how5⟩
            have HW5 := Lib.hid h5
            have HOW := Lib.hid how5
            have EL5 : Hid (ELz (fun k => w.heap.size ≤ k) z5 o.er) := EO.out.kept ⟨h5.d.low.os, h5.d.low.tape, h5.d.low.output, h5.d.low.size, fun q _ hq => h5.d.low.block q (by omega)⟩
            have R5 := Lib.hid (er_of_ao (range_below HR0.out h5.d.low hblw))
            have hbl5 : bL < z5.heap.size := Nat.lt_of_lt_of_le hblw h5.d.low.size
            have RA : Hid (∀ W, Below z5.heap.size z5 W → Calls Tryd.prog 11 #[.agg (rlA size A n c us fo), .agg (erA o.er)] W (RApp size us fo n (rlA size A n c us fo) ts o.er W)) := fun W hW =>
              rapp_any _ _ A n c size us fo ts o.er W (HW5.out.lez.below hW) (by have h1 := HM.out.cnt; have h2 := HW5.out.lez.len; have h3 := congrArg List.length HM.out.te; simp at h3; omega) (EL5.out.below hW) HM.out.fit (by omega) (by have := SMS.out; omega) (by have := SMS.out; omega) (by have := SMS.out; omega) OK1.out
            clear h5 how5 HW LA RE1 R0 O0 hbl
            go_upto_region 17 with fail
            go_cut [13, 14, 15] from 58 to 151 (fun s13 s14 s15 wx => ∃ b14 bx lk zc, s13 = .pointer (some ⟨b14, 0, none⟩) ∧ s14 = .int .u64 ((lk : Nat) : Int) ∧ s15 = .int .i64 zc ∧ Hid (CuY size fo z5 us n (rlA size A n c us fo) ts o.er b14 bx lk zc wx))
            case first =>
              refine wp_region_held_drew (S := Below z5.heap.size z5) (by kernel_rfl) ((Below.refl _ z5).drew) (fun hS => ?_)
              refine takeH (i := 0) (d := 83) (v := .agg (rlA size A n c us fo)) rfl (by kernel_rfl) (by kernel_rfl) (by kernel_rfl) (fun _ _ _ h => h) rfl (by rfl) ?yca0 hS ?rca0
              case yca0 => (intro wz hz; exact exec_load_at 34 (.tmp 9) rfl b9 rfl _ 4 strRL rfl (HW5.out.box.under hz HW5.out.box.lt))
              simp only [List.setIfInBounds_toArray, List.set_cons_zero, List.set_cons_succ]
              refine takeH (i := 1) (d := 84) (v := ?vca1) rfl (by kernel_rfl) (by kernel_rfl) (by kernel_rfl) (fun _ _ _ h => h) rfl (by rfl) ?yca1 hS ?rca1
              case yca1 => (intro wz hz; go_simp <;> with_reducible rfl)
              simp only [List.setIfInBounds_toArray, List.set_cons_zero, List.set_cons_succ]
              refine takeH (i := 2) (d := 85) (v := ?vca2) rfl (by kernel_rfl) (by kernel_rfl) (by kernel_rfl) (fun _ _ _ h => h) rfl (by rfl) ?yca2 hS ?rca2
              case yca2 => (intro wz hz; go_simp <;> with_reducible rfl)
              simp only [List.setIfInBounds_toArray, List.set_cons_zero, List.set_cons_succ]
              refine takeH (i := 3) (d := 86) (v := ?vca3) rfl (by kernel_rfl) (by kernel_rfl) (by kernel_rfl) (fun _ _ _ h => h) rfl (by rfl) ?yca3 hS ?rca3
              case yca3 => (intro wz hz; go_simp <;> with_reducible rfl)
              simp only [List.setIfInBounds_toArray, List.set_cons_zero, List.set_cons_succ]
              refine takeH (i := 4) (d := 87) (v := ?vca4) rfl (by kernel_rfl) (by kernel_rfl) (by kernel_rfl) (fun _ _ _ h => h) rfl (by rfl) ?yca4 hS ?rca4
              case yca4 => (intro wz hz; go_simp <;> with_reducible rfl)
              simp only [List.setIfInBounds_toArray, List.set_cons_zero, List.set_cons_succ]
              refine takeH (i := 5) (d := 88) (v := .agg (erA o.er)) rfl (by kernel_rfl) (by kernel_rfl) (by kernel_rfl) (fun _ _ _ h => h) rfl (by rfl) ?yca5 hS ?rca5
              case yca5 => (intro wz hz; exact exec_load_er (.tmp 87) rfl bL (oL + k * 16 + 1) rfl o.er (range_below R5.out hz hbl5))
              simp only [List.setIfInBounds_toArray, List.set_cons_zero, List.set_cons_succ]
              refine wpAnyH_ready (rs := [6, 11]) (by kernel_rfl) (by simp) ?_
              refine AllReadyH.cons rfl (fun K hK => ?_) (AllReadyH.cons rfl (fun K hK => ?_) AllReadyH.nil)
              · go_simp
                refine (RA.out z5.drew ((Below.refl _ z5).drew)).mono ?_
                rintro e z1 ⟨bx, lk, zc, rfl, hb4, hb1, hbl1, how⟩
                have HW1 := Lib.hid how
                have HB1 := Lib.hid (show Below z5.heap.size z5 z1 from ((Below.refl _ z5).drew).trans hbl1)
                have H4 := Lib.hid hb4
                have H1 := Lib.hid hb1
                clear how hb4 hb1 hbl1
                refine hK.out _ _ (HB1.out) (fun hT => ?_)
                clear hK hS
                have hS := hT
                clear hT
                refine takeH (i := 7) (d := 82) (v := ?vcb7) rfl (by kernel_rfl) (by kernel_rfl) (by kernel_rfl) (fun _ _ _ h => h) rfl (by rfl) ?ycb7 hS ?rcb7
                case ycb7 => (intro wz hz; go_simp <;> with_reducible rfl)
                simp only [List.setIfInBounds_toArray, List.set_cons_zero, List.set_cons_succ]
                refine takeH (i := 8) (d := 90) (v := ?vcb8) rfl (by kernel_rfl) (by kernel_rfl) (by kernel_rfl) (fun _ _ _ h => h) rfl (by rfl) ?ycb8 hS ?rcb8
                case ycb8 => (intro wz hz; go_simp <;> with_reducible rfl)
                simp only [List.setIfInBounds_toArray, List.set_cons_zero, List.set_cons_succ]
                refine takeH (i := 9) (d := 91) (v := ?vcb9) rfl (by kernel_rfl) (by kernel_rfl) (by kernel_rfl) (fun _ _ _ h => h) rfl (by rfl) ?ycb9 hS ?rcb9
                case ycb9 => (intro wz hz; go_simp <;> with_reducible rfl)
                simp only [List.setIfInBounds_toArray, List.set_cons_zero, List.set_cons_succ]
                refine takeH (i := 10) (d := 92) (v := ?vcb10) rfl (by kernel_rfl) (by kernel_rfl) (by kernel_rfl) (fun _ _ _ h => h) rfl (by rfl) ?ycb10 hS ?rcb10
                case ycb10 => (intro wz hz; go_simp <;> with_reducible rfl)
                simp only [List.setIfInBounds_toArray, List.set_cons_zero, List.set_cons_succ]
                refine wpAnyH_ready (rs := [11]) (by kernel_rfl) (by simp) ?_
                refine AllReadyH.cons rfl (fun K hK => ?_) AllReadyH.nil
                go_simp
                refine hK.out _ _ (HB1.out.alloc HB1.out.size _) (fun hT => ?_)
                clear hK hS
                have hS := hT
                clear hT
                refine wpAnyH_ready (rs := [12]) (by kernel_rfl) (by simp) ?_
                refine AllReadyH.cons rfl (fun K hK => ?_) AllReadyH.nil
                rw [if_pos (by rfl)]
                refine wp_store_at 34 (.tmp 13) (.tmp 90) rfl rfl z1.heap.size rfl bx zRL 4 rfl strRL H4.out rfl H1.out (At.new z1 34 zRL) ?_
                intro z3 ha3 hg3
                have CX := Lib.hid (CuY.first HB1.out H4.out H1.out ha3 hg3 HW1.out)
                clear ha3 hg3
                refine hK.out _ _ (CX.out.low) (fun hT => ?_)
                clear hK hS
                have hS := hT
                clear hT
                refine takeH (i := 13) (d := 14) (v := ?vcc13) rfl (by kernel_rfl) (by kernel_rfl) (by kernel_rfl) (fun _ _ _ h => h) rfl (by rfl) ?ycc13 hS ?rcc13
                case ycc13 => (intro wz hz; go_simp <;> with_reducible rfl)
                simp only [List.setIfInBounds_toArray, List.set_cons_zero, List.set_cons_succ]
                refine takeH (i := 14) (d := 15) (v := ?vcc14) rfl (by kernel_rfl) (by kernel_rfl) (by kernel_rfl) (fun _ _ _ h => h) rfl (by rfl) ?ycc14 hS ?rcc14
                case ycc14 => (intro wz hz; go_simp <;> with_reducible rfl)
                simp only [List.setIfInBounds_toArray, List.set_cons_zero, List.set_cons_succ]
                refine wpAnyH_done (by kernel_rfl) ?_ _
                go_wp2_with fail
                go_meet
                exact ⟨_, bx, lk, zc, rfl, rfl, rfl, CX⟩
              · go_simp
                refine hK.out _ _ ((Below.refl _ z5).drew.alloc (Nat.le_refl _) _) (fun hT => ?_)
                clear hK hS
                have hS := hT
                clear hT
                refine wpAnyH_ready (rs := [6]) (by kernel_rfl) (by simp) ?_
                refine AllReadyH.cons rfl (fun K hK => ?_) AllReadyH.nil
                go_simp
                refine (RA.out (z5.drew.alloc (.cells zRL 34)) (((Below.refl _ z5).drew).alloc (Nat.le_refl _) _)).mono ?_
                rintro e z1 ⟨bx, lk, zc, rfl, hb4, hb1, hbl1, how⟩
                have hsz : (z5.drew.alloc (.cells zRL 34)).heap.size = z5.heap.size + 1 := by simp
                rw [hsz] at hbl1 how
                have HW1 := Lib.hid how
                have HB1 := Lib.hid hbl1
                have HB2 := Lib.hid (show Below z5.heap.size z5 z1 from (((Below.refl _ z5).drew).alloc (Nat.le_refl _) (.cells zRL 34)).trans (hbl1.mono (by show z5.heap.size ≤ z5.heap.size + 1; omega)))
                have A14 := Lib.hid (show At z1 z5.heap.size 34 zRL from (At.new z5.drew 34 zRL).under hbl1 (by show z5.heap.size < _; omega))
                have H4 := Lib.hid hb4
                have H1 := Lib.hid hb1
                clear how hb4 hb1 hbl1 hsz
                refine hK.out _ _ (HB2.out) (fun hT => ?_)
                clear hK hS
                have hS := hT
                clear hT
                refine takeH (i := 7) (d := 82) (v := ?vcd7) rfl (by kernel_rfl) (by kernel_rfl) (by kernel_rfl) (fun _ _ _ h => h) rfl (by rfl) ?ycd7 hS ?rcd7
                case ycd7 => (intro wz hz; go_simp <;> with_reducible rfl)
                simp only [List.setIfInBounds_toArray, List.set_cons_zero, List.set_cons_succ]
                refine takeH (i := 8) (d := 90) (v := ?vcd8) rfl (by kernel_rfl) (by kernel_rfl) (by kernel_rfl) (fun _ _ _ h => h) rfl (by rfl) ?ycd8 hS ?rcd8
                case ycd8 => (intro wz hz; go_simp <;> with_reducible rfl)
                simp only [List.setIfInBounds_toArray, List.set_cons_zero, List.set_cons_succ]
                refine takeH (i := 9) (d := 91) (v := ?vcd9) rfl (by kernel_rfl) (by kernel_rfl) (by kernel_rfl) (fun _ _ _ h => h) rfl (by rfl) ?ycd9 hS ?rcd9
                case ycd9 => (intro wz hz; go_simp <;> with_reducible rfl)
                simp only [List.setIfInBounds_toArray, List.set_cons_zero, List.set_cons_succ]
                refine takeH (i := 10) (d := 92) (v := ?vcd10) rfl (by kernel_rfl) (by kernel_rfl) (by kernel_rfl) (fun _ _ _ h => h) rfl (by rfl) ?ycd10 hS ?rcd10
                case ycd10 => (intro wz hz; go_simp <;> with_reducible rfl)
                simp only [List.setIfInBounds_toArray, List.set_cons_zero, List.set_cons_succ]
                refine wpAnyH_ready (rs := [12]) (by kernel_rfl) (by simp) ?_
                refine AllReadyH.cons rfl (fun K hK => ?_) AllReadyH.nil
                rw [if_pos (by rfl)]
                refine wp_store_at 34 (.tmp 13) (.tmp 90) rfl rfl z5.heap.size rfl bx zRL 4 rfl strRL H4.out rfl H1.out A14.out ?_
                intro z3 ha3 hg3
                have CX := Lib.hid (CuY.second (w0 := z5.drew) HB1.out H4.out H1.out ha3 hg3 HW1.out).undrew
                clear ha3 hg3
                refine hK.out _ _ (CX.out.low) (fun hT => ?_)
                clear hK hS
                have hS := hT
                clear hT
                refine takeH (i := 13) (d := 14) (v := ?vce13) rfl (by kernel_rfl) (by kernel_rfl) (by kernel_rfl) (fun _ _ _ h => h) rfl (by rfl) ?yce13 hS ?rce13
                case yce13 => (intro wz hz; go_simp <;> with_reducible rfl)
                simp only [List.setIfInBounds_toArray, List.set_cons_zero, List.set_cons_succ]
                refine takeH (i := 14) (d := 15) (v := ?vce14) rfl (by kernel_rfl) (by kernel_rfl) (by kernel_rfl) (fun _ _ _ h => h) rfl (by rfl) ?yce14 hS ?rce14
                case yce14 => (intro wz hz; go_simp <;> with_reducible rfl)
                simp only [List.setIfInBounds_toArray, List.set_cons_zero, List.set_cons_succ]
                refine wpAnyH_done (by kernel_rfl) ?_ _
                go_wp2_with fail
                go_meet
                exact ⟨_, bx, lk, zc, rfl, rfl, rfl, CX⟩
            case rest =>
              obtain ⟨b14, bx, lk, zc, rfl, rfl, rfl, CX⟩ := hcut
              obtain ⟨hlk, hzc, A2, n2, c2, us2, ts2, hbx, hrow2, hels2, hm2⟩ := app_join HW5.out HM.out EL5.out HOW.out CX.out
              subst hlk hzc hbx
              have HW7 := Lib.hid (HW5.out.call CX.out.low)
              have A13 := Lib.hid CX.out.box
              have ROW2 := Lib.hid hrow2
              have ELS2 := Lib.hid hels2
              have M2 := Lib.hid hm2
              have enk : ((lk : Int) != (lk : Int)) = false := by simp
              have enz : (zc != zc) = false := by simp
              clear hrow2 hels2 hm2 CX HW5 HOW EL5 RA HM R5
              go_wp2_with (first
                | refine wpList_load_at 34 93 (.tmp 13) rfl rfl rfl b14 rfl (rlA size A2 n2 c2 us2 fo) 4 strRL rfl A13.out ?_
                | (refine wpList_store_at 34 (.tmp 9) (.tmp 93) rfl rfl rfl b9 rfl (rlA size A2 n2 c2 us2 fo) (rlA size A n c us fo) 4 rfl strRL rfl rfl (rlA_one _ _ _ _ _ _) HW7.out.box ?_
                   intro z8 ha8 hg8
                   have hm8 : Mod (fun k => k = b9) wc z8 := (Mod.refl _ wc).grown hg8 (fun k hk => by injection hk with hk; exact .inl hk.symm)
                   have W8 := Lib.hid (HW7.out.store hm8 ha8 (ROW2.out.keptY hm8 fun k _ hk => .inl hk) (fun r hr => (ELS2.out r hr).keptY hm8 fun k _ hk => by rw [hk]; exact HW7.out.bw))
                   clear ha8 hg8 hm8)
                | refine wpList_load_at 34 149 (.tmp 9) rfl rfl rfl b9 rfl (rlA size A2 n2 c2 us2 fo) 4 strRL rfl W8.out.box ?_)
              refine (wd_same W8.out M2.out (by omega) hs2).mono ?_
              rintro e z9 ⟨rfl, hb9⟩
              have HW9 := Lib.hid (W8.out.call hb9)
              clear hb9
              go_wp2_with fail
              exact ⟨⟨k + 1, g1, B, S, nw, rs2, fo, ws2, vE2, vW2, A2, n2, c2, us2, ts2, by omega, rfl, by go_num, HW9, M2⟩, by simp [intOf]; omega⟩
        · have e0 : (o.k == 0) = false := by simp; omega
          have e1 : (o.k == 1) = false := by simp; omega
          by_cases k2 : o.k = 2
          · have e2 : (o.k == 2) = true := by simp [k2]
            clear k0 k2
            have bc2 : wr.cell? ⟨b9, 2, none⟩ = some (.int .i64 (us : Int)) := HW.out.box.cell 2
            have bc3 : wr.cell? ⟨b9, 3, none⟩ = some (.int .i64 (fo : Int)) := HW.out.box.cell 3
            have bf3 := HW.out.box.frozen 3
            by_cases hws : ws = []
            · subst hws
              have hfu : fo = us := by have := HM.out.sum; simpa using this.symm
              subst hfu
              go_wp2_with fail
              refine (force_nil (pl_own gd gs) B wr g1 gd 2 size rs fo vE vW HW.out.d.log).mono ?_
              rintro e z5 ⟨rfl, rfl⟩
              have W5 : Hid (WD w gd gs g1 size B S nw rs fo [] vE vW b9 A n c fo fo ts (wr.setCell ⟨b9, 3, none⟩ (.int .i64 (fo : Int)))) := by
                have hm : Mod (fun k => k = b9) wr (wr.setCell ⟨b9, 3, none⟩ (.int .i64 (fo : Int))) := (Mod.refl (fun k => k = b9) wr).setCell (.inl rfl) _
                exact HW.out.store hm (HW.out.box.set 3 _) (HW.out.row.keptY hm fun k _ hk => .inl hk) (fun r hr => (HW.out.els r hr).keptY hm fun k _ hk => by rw [hk]; exact HW.out.bw)
              have BX5 := Lib.hid W5.out.box
              go_wp2_with (refine wpList_load_at 34 149 (.tmp 9) rfl rfl rfl b9 rfl (rlA size A n c fo fo) 4 strRL rfl BX5.out ?_)
              refine (wd_same W5.out HM.out (by omega) hs2).mono ?_
              rintro e z9 ⟨rfl, hb9⟩
              have HW9 := Lib.hid (W5.out.call hb9)
              clear hb9
              go_wp2_with fail
              exact ⟨⟨k + 1, g1, B, S, nw, rs, fo, [], vE, vW, A, n, c, fo, ts, by omega, rfl, by go_num, HW9, HM.out.next⟩, by simp [intOf]; omega⟩
            · clear bc2 bc3 bf3
              have hf : Hid (Calls Tryd.prog 12 #[.pointer (some ⟨g1, 0, none⟩)] wr fun e z' => e = .returned (.int .i64 0) ∧ WD w gd gs g1 size B (upd S (2 + fo) ws (fun _ => true)) (nw + 1) rs us [] vE (.slice none 0 0) b9 A n c us fo ts z') := by
                have hl : 0 < ws.length := List.length_pos_iff.mpr hws
                have f1 := HM.out.sum
                have f2 := HM.out.fit
                have f3 := HM.out.len
                have f4 := HM.out.n0
                have f5 := HM.out.n1
                exact wd_force HW.out (by omega) (by omega) hl (by omega) (by omega) (by omega) (by omega) (by omega)
              go_wp2_with fail
              refine hf.out.mono ?_
              rintro e z5 ⟨rfl, h5⟩
              have H5 := Lib.hid h5
              clear h5 hf
              have bc2 : z5.cell? ⟨b9, 2, none⟩ = some (.int .i64 (us : Int)) := H5.out.box.cell 2
              have bc3 : z5.cell? ⟨b9, 3, none⟩ = some (.int .i64 (fo : Int)) := H5.out.box.cell 3
              have bf3 := H5.out.box.frozen 3
              have M5 := Lib.hid HM.out.force
              have W5 : Hid (WD w gd gs g1 size B (upd S (2 + fo) ws (fun _ => true)) (nw + 1) rs us [] vE (.slice none 0 0) b9 A n c us us ts (z5.setCell ⟨b9, 3, none⟩ (.int .i64 (us : Int)))) := by
                have hm : Mod (fun k => k = b9) z5 (z5.setCell ⟨b9, 3, none⟩ (.int .i64 (us : Int))) := (Mod.refl (fun k => k = b9) z5).setCell (.inl rfl) _
                exact H5.out.store hm (H5.out.box.set 3 _) (H5.out.row.keptY hm fun k _ hk => .inl hk) (fun r hr => (H5.out.els r hr).keptY hm fun k _ hk => by rw [hk]; exact H5.out.bw)
              have BX5 := Lib.hid W5.out.box
              go_wp2_with (refine wpList_load_at 34 149 (.tmp 9) rfl rfl rfl b9 rfl (rlA size A n c us us) 4 strRL rfl BX5.out ?_)
              refine (wd_same W5.out M5.out (by omega) hs2).mono ?_
              rintro e z9 ⟨rfl, hb9⟩
              have HW9 := Lib.hid (W5.out.call hb9)
              clear hb9
              go_wp2_with fail
              exact ⟨⟨k + 1, g1, B, upd S (2 + fo) ws (fun _ => true), nw + 1, rs, us, [], vE, .slice none 0 0, A, n, c, us, ts, by omega, rfl, by go_num, HW9, M5.out⟩, by simp [intOf]; omega⟩
          · have e2 : (o.k == 2) = false := by simp; omega
            by_cases k3 : o.k = 3
            · have e3 : (o.k == 3) = true := by simp [k3]
              clear k0 k2 k3
              have hc : Hid (Calls Tryd.prog 13 #[.pointer (some ⟨gd, 0, none⟩), .pointer (some ⟨g1, 0, none⟩), .int .i64 (size : Int), .agg (aoA o)] wr (DCrash w gd gs size S nw (rs.map (·.e)) (kfW fo o.keep) wr)) := by
                have f1 := HM.out.sum
                have f2 := HM.out.fit
                have f3 := HM.out.len
                have f4 := HM.out.n0
                have f5 := HM.out.n1
                have f6 := HM.out.pos
                exact crash_any w gd gs g1 size B S nw rs fo ws vE vW (rs.map (·.e)) o wr HW.out.d HM.out.od HM.out.ws (by omega) HM.out.num hs1 hs2 (by omega) f4 (by omega) HM.out.out O0.out I1.out SM1.out.keep SM1.out.more (fun m hm => by obtain ⟨j, hj, rfl⟩ := List.getElem_of_mem hm; exact SM1.out.each j hj)
              go_wp2_with (refine wpList_load_ao 119 (.tmp 118) rfl rfl rfl bL (oL + k * 16) rfl o R0.out ?_)
              refine hc.out.mono ?_
              rintro e z5 ⟨m, q, g', vE', rs', nw', S', hwh, hq, rfl, hrs, hn0, hn1, h5, hod5, hout5, hlen5, hg5, hm5, hlog5⟩
              have W5 := Lib.hid (HW.out.crashed h5 hg5 hm5 hlog5)
              have M5 := Lib.hid (wm_crashed HM.out hrs hq hn0 hn1 hod5 hout5 hlen5)
              have CL5 := Lib.hid (out_clean hod5 hout5)
              have HWH := Lib.hid hwh
              have HQ := Lib.hid hq
              have R5 := Lib.hid (range_below HR0.out h5.low hblw)
              have K5 : Hid (Lz (fun k => w.heap.size ≤ k) z5 1 o.KA o.keep.length (BL o.keep)) := O0.out.keep.keptY hm5 fun k _ hk => HW.out.d.hw k hk
              have C14 := Lib.hid (R5.out 14 _ (aoL_14 o))
              have hbl5 : bL < z5.heap.size := Nat.lt_of_lt_of_le hblw h5.low.size
              have HL5 := Lib.hid (show S'.length = size + 4 by rw [hlen5]; exact HM.out.len)
              clear hwh hq hrs hn0 hn1 h5 hod5 hout5 hlen5 hg5 hm5 hlog5 HW R0 O0 I1 hbl hc
              go_upto_region 27 with fail
              refine wp_region_held_drew (S := Below z5.heap.size z5) (by kernel_rfl) ((Below.refl _ z5).drew) (fun hS => ?_)
              refine takeH (i := 0) (d := 124) (v := .agg (rlA size A n c us fo)) rfl (by kernel_rfl) (by kernel_rfl) (by kernel_rfl) (fun _ _ _ h => h) rfl (by rfl) ?ywa0 hS ?rwa0
              case ywa0 => (intro wz hz; have p14 := (hz.cell (p := ⟨bL, oL + k * 16 + 14, none⟩) hbl5).trans C14.out; exact exec_load_at 34 (.tmp 9) rfl b9 rfl _ 4 strRL rfl (W5.out.box.under hz W5.out.box.lt))
              simp only [List.setIfInBounds_toArray, List.set_cons_zero, List.set_cons_succ]
              refine takeH (i := 1) (d := 125) (v := ?vwa1) rfl (by kernel_rfl) (by kernel_rfl) (by kernel_rfl) (fun _ _ _ h => h) rfl (by rfl) ?ywa1 hS ?rwa1
              case ywa1 => (intro wz hz; have p14 := (hz.cell (p := ⟨bL, oL + k * 16 + 14, none⟩) hbl5).trans C14.out; go_simp <;> with_reducible rfl)
              simp only [List.setIfInBounds_toArray, List.set_cons_zero, List.set_cons_succ]
              refine takeH (i := 2) (d := 126) (v := ?vwa2) rfl (by kernel_rfl) (by kernel_rfl) (by kernel_rfl) (fun _ _ _ h => h) rfl (by rfl) ?ywa2 hS ?rwa2
              case ywa2 => (intro wz hz; have p14 := (hz.cell (p := ⟨bL, oL + k * 16 + 14, none⟩) hbl5).trans C14.out; go_simp <;> with_reducible rfl)
              simp only [List.setIfInBounds_toArray, List.set_cons_zero, List.set_cons_succ]
              refine takeH (i := 3) (d := 127) (v := ?vwa3) rfl (by kernel_rfl) (by kernel_rfl) (by kernel_rfl) (fun _ _ _ h => h) rfl (by rfl) ?ywa3 hS ?rwa3
              case ywa3 => (intro wz hz; have p14 := (hz.cell (p := ⟨bL, oL + k * 16 + 14, none⟩) hbl5).trans C14.out; go_simp <;> with_reducible rfl)
              simp only [List.setIfInBounds_toArray, List.set_cons_zero, List.set_cons_succ]
              refine takeH (i := 4) (d := 128) (v := ?vwa4) rfl (by kernel_rfl) (by kernel_rfl) (by kernel_rfl) (fun _ _ _ h => h) rfl (by rfl) ?ywa4 hS ?rwa4
              case ywa4 => (intro wz hz; have p14 := (hz.cell (p := ⟨bL, oL + k * 16 + 14, none⟩) hbl5).trans C14.out; go_simp <;> with_reducible rfl)
              simp only [List.setIfInBounds_toArray, List.set_cons_zero, List.set_cons_succ]
              refine takeH (i := 5) (d := 129) (v := ?vwa5) rfl (by kernel_rfl) (by kernel_rfl) (by kernel_rfl) (fun _ _ _ h => h) rfl (by rfl) ?ywa5 hS ?rwa5
              case ywa5 => (intro wz hz; have p14 := (hz.cell (p := ⟨bL, oL + k * 16 + 14, none⟩) hbl5).trans C14.out; go_simp <;> with_reducible rfl)
              simp only [List.setIfInBounds_toArray, List.set_cons_zero, List.set_cons_succ]
              refine wpAnyH_ready (rs := [6]) (by kernel_rfl) (by simp) ?_
              refine AllReadyH.cons rfl (fun K hK => ?_) AllReadyH.nil
              go_simp
              refine (whole_any _ (fun k => w.heap.size ≤ k) A o.KA n c o.keep.length o.kc size us fo ts o.keep _ (W5.out.lez.below hS) (K5.out.below hS) (by have h1 := HM.out.cnt; have h2 := W5.out.lez.len; have h3 := congrArg List.length HM.out.te; simp at h3; omega) (by have := SM1.out.keep; omega) (by have := HM.out.sum; have := HM.out.fit; omega) (gd_of_map HM.out.te HM.out.good)).mono ?_
              rintro e z6 ⟨m2, p2, v2, hm2, hp2, rfl, ho6, hb6⟩
              rw [HM.out.te] at hm2 hp2
              obtain rfl : m2 = m := hm2.unique HWH.out
              obtain rfl : p2 = q := by rw [hp2, HQ.out]
              obtain ⟨A6, c6, rfl, _, _⟩ := own_slice ho6
              have L6 : Hid (Lz (fun k => k = b9 ∨ XL g' vE' (.slice none 0 0) k ∨ pl_own gd gs k) z6 13 A6 m2 (flatE (ts.take m2))) := Lz.of_own ho6 (fun k hk => Nat.lt_of_lt_of_le (by
                rcases hk with rfl | hk | hk
                · exact W5.out.box.lt
                · exact (W5.out.lg.xlt k hk).1
                · exact W5.out.d.plt k hk) hS.size)
              have B6 := Lib.hid (hS.trans (hb6.mono hS.size))
              clear hm2 hp2 ho6 hb6
              have hb : True := trivial
              refine hK.out _ _ (B6.out) (fun hT => ?_)
              clear hK hb hS
              have hS := hT
              clear hT
              refine takeH (i := 7) (d := 123) (v := ?vwa7) rfl (by kernel_rfl) (by kernel_rfl) (by kernel_rfl) (fun _ _ _ h => h) rfl (by rfl) ?ywa7 hS ?rwa7
              case ywa7 => (intro wz hz; have p14 := (hz.cell (p := ⟨bL, oL + k * 16 + 14, none⟩) hbl5).trans C14.out; go_simp <;> with_reducible rfl)
              simp only [List.setIfInBounds_toArray, List.set_cons_zero, List.set_cons_succ]
              refine takeH (i := 8) (d := 131) (v := ?vwa8) rfl (by kernel_rfl) (by kernel_rfl) (by kernel_rfl) (fun _ _ _ h => h) rfl (by rfl) ?ywa8 hS ?rwa8
              case ywa8 => (intro wz hz; have p14 := (hz.cell (p := ⟨bL, oL + k * 16 + 14, none⟩) hbl5).trans C14.out; go_simp <;> with_reducible rfl)
              simp only [List.setIfInBounds_toArray, List.set_cons_zero, List.set_cons_succ]
              refine takeH (i := 9) (d := 132) (v := ?vwa9) rfl (by kernel_rfl) (by kernel_rfl) (by kernel_rfl) (fun _ _ _ h => h) rfl (by rfl) ?ywa9 hS ?rwa9
              case ywa9 => (intro wz hz; have p14 := (hz.cell (p := ⟨bL, oL + k * 16 + 14, none⟩) hbl5).trans C14.out; go_simp <;> with_reducible rfl)
              simp only [List.setIfInBounds_toArray, List.set_cons_zero, List.set_cons_succ]
              refine takeH (i := 10) (d := 18) (v := ?vwa10) rfl (by kernel_rfl) (by kernel_rfl) (by kernel_rfl) (fun _ _ _ h => h) rfl (by rfl) ?ywa10 hS ?rwa10
              case ywa10 => (intro wz hz; have p14 := (hz.cell (p := ⟨bL, oL + k * 16 + 14, none⟩) hbl5).trans C14.out; go_simp <;> with_reducible rfl)
              simp only [List.setIfInBounds_toArray, List.set_cons_zero, List.set_cons_succ]
              refine takeH (i := 11) (d := 19) (v := ?vwa11) rfl (by kernel_rfl) (by kernel_rfl) (by kernel_rfl) (fun _ _ _ h => h) rfl (by rfl) ?ywa11 hS ?rwa11
              case ywa11 => (intro wz hz; have p14 := (hz.cell (p := ⟨bL, oL + k * 16 + 14, none⟩) hbl5).trans C14.out; go_simp <;> with_reducible rfl)
              simp only [List.setIfInBounds_toArray, List.set_cons_zero, List.set_cons_succ]
              refine wpAnyH_done (by kernel_rfl) ?_ _
              have W6 := Lib.hid (W5.out.call B6.out)
              go_wp2_with (first
                | refine wpList_build9 138 rfl rfl 34 _ rfl #[(0, .int .i64 (size : Int)), (1, .slice A6 m2 c6), (2, .int .i64 (p2 : Int)), (3, .int .i64 (p2 : Int))] (by simp only [List.map_toArray, List.map_cons, List.map_nil]; rfl) _ (built_rlv size A6 m2 c6 p2) ?_
                | (refine wpList_store_at 34 (.tmp 9) (.tmp 138) rfl rfl rfl b9 rfl (rlA size A6 m2 c6 p2 p2) (rlA size A n c us fo) 4 rfl strRL rfl rfl (rlA_one _ _ _ _ _ _) W6.out.box ?_
                   intro z7 ha7 hg7
                   have hm7 : Mod (fun k => k = b9) z6 z7 := (Mod.refl _ z6).grown hg7 (fun k hk => by injection hk with hk; exact .inl hk.symm)
                   have W7 := Lib.hid (W6.out.store hm7 ha7 (L6.out.keptY hm7 fun k _ hk => .inl hk) (fun r hr => (W6.out.els r (List.mem_of_mem_take hr)).keptY hm7 fun k _ hk => by rw [hk]; exact W6.out.bw))
                   clear ha7 hg7 hm7))
              refine (clean_any _ gd gs S' nw' (-1) [] false z7 size p2 W7.out.d.plat (by have := HL5.out; omega) HL5.out (by have := M5.out.fit; omega) CL5.out).mono ?_
              rintro e z8 ⟨rfl, hb8⟩
              have W8 := Lib.hid (W7.out.call hb8)
              clear hb8
              go_wp2_with (refine wpList_load_at 34 149 (.tmp 9) rfl rfl rfl b9 rfl (rlA size A6 m2 c6 p2 p2) 4 strRL rfl W8.out.box ?_)
              refine (wd_same W8.out M5.out (by omega) hs2).mono ?_
              rintro e z9 ⟨rfl, hb9⟩
              have HW9 := Lib.hid (W8.out.call hb9)
              clear hb9
              go_wp2_with fail
              exact ⟨⟨k + 1, g', g', S', nw', rs', p2, [], vE', .slice none 0 0, A6, m2, c6, p2, ts.take m2, by omega, rfl, by go_num, HW9, M5⟩, by simp [intOf]; omega⟩
            · have e3 : (o.k == 3) = false := by simp; omega
              clear k0 k2 k3
              go_wp2_with (refine wpList_load_at 34 149 (.tmp 9) rfl rfl rfl b9 rfl (rlA size A n c us fo) 4 strRL rfl HW.out.box ?_)
              refine (wd_same HW.out HM.out (by omega) hs2).mono ?_
              rintro e z9 ⟨rfl, hb9⟩
              have HW9 := Lib.hid (HW.out.call hb9)
              clear hb9
              go_wp2_with fail
              exact ⟨⟨k + 1, g1, B, S, nw, rs, fo, ws, vE, vW, A, n, c, us, ts, by omega, rfl, by go_num, HW9, HM.out.next⟩, by simp [intOf]; omega⟩
      · obtain rfl : k = N := by omega
        go_wp2_with fail
        refine (works_any wr).mono ?_
        rintro e z9 ⟨rfl, hb9⟩
        have LW := Lib.hid (HW.out.d.low.trans (hb9.mono HW.out.d.low.size))
        clear hb9
        go_wp2_with fail
        go_ret
        exact ⟨rfl, LW.out⟩
end Go.Proofs.YthicidpdgggbjaaDoor
