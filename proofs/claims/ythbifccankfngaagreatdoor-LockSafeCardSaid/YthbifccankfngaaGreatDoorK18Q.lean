/-
  The walk of grant.
  Conditions: at most 99999 claims a row, with those that wait.
-/
import Derived.Test.YthbifccankfngaaGreatDoorK17Q
namespace Go.Proofs.YthbifccankfngaaGreatDoor
open Go.RowKit Go.Shelf
attribute [local go_sem] Oper.semAt_some
set_option maxRecDepth 20000

/-- What grant returns, and what it leaves. -/
def GrantR (w : World) (X : Nat → Prop) (g : Nat) (p : TS × List Nat) (e : Ending) (w' : World) : Prop :=
  ∃ v, e = .returned v ∧ w'.ownsRow w.heap.size 31 1 v p.2.length (UC p.2) ∧ Tw w X g p.1 w'
def lenS : Value → Nat
  | .slice _ n _ => n
  | _ => 0
/-- The state of grant's loop: begun at w1, on (s0, n0); so far F was freed, the table is s, and n rounds are left. -/
structure GrS (w0 w1 : World) (X : Nat → Prop) (g : Nat) (s0 : TS) (r : Rs) (n0 : Nat) (s : TS) (n : Nat) (F : List Nat) (v : Value) (z : World) : Prop where
  tw : Tw w1 X g s z
  rel : grantI n0 s0 r = ((grantI n s r).1, F ++ (grantI n s r).2)
  len : F.length + n = n0
  q : (s.at r).2.length ≤ n
  ok : OkQ s r
  sm : ∃ N, SmS s N ∧ N + n ≤ 99999
  own : z.ownsRow w1.heap.size 31 1 v F.length (UC F)
theorem u_info : ∃ i, Tryz.prog.info? 31 = some i ∧ i.zero = some (.int .u64 0) ∧ i.size = 1 ∧ i.bytes = 8 := ⟨_, rfl, rfl, rfl, rfl⟩
theorem tU_ne : (31 : Nat) ≠ 54 ∧ (31 : Nat) ≠ 33 ∧ (31 : Nat) ≠ 61 := ⟨by decide, by decide, by decide⟩
def GrL (w0 w1 : World) (X : Nat → Prop) (g : Nat) (s0 : TS) (r : Rs) (n0 : Nat) (v : Value) (z : World) : Prop :=
  ∃ s n F A c, v = .slice A F.length c ∧ Hid (GrS w0 w1 X g s0 r n0 s n F (.slice A F.length c) z)
set_option maxHeartbeats 12800000 in
theorem grant_any (X : Nat → Prop) (g : Nat) (s : TS) (r : Rs) (w : World) (h : Tt w g s X) (hX : ∀ k, X k → 2 ≤ k) (hT : Tab w) (hr : RsOk r) (hok : OkQ s r) (N : Nat) (hs : SmS s N) (hN : N + (s.at r).2.length ≤ 99999) :
    Calls Tryz.prog 49 #[.pointer (some ⟨g, 0, none⟩), .agg (rsA r)] w (GrantR w X g (grantA s r)) := by
  obtain ⟨n0, hn0⟩ : ∃ n0, (s.at r).2.length = n0 := ⟨_, rfl⟩
  have hgr : grantA s r = grantI n0 s r := by rw [← hn0]; rfl
  rw [hgr]
  rw [hn0] at hN
  obtain ⟨PP, hPP⟩ : ∃ PP, grantI n0 s r = PP := ⟨_, rfl⟩
  rw [hPP]
  obtain ⟨w1, hw1⟩ : ∃ w1, w.alloc (.cells (rsA r) 33) = w1 := ⟨_, rfl⟩
  obtain ⟨r3, hr3⟩ : ∃ r3, w.heap.size = r3 := ⟨_, rfl⟩
  have hbel : Below w.heap.size w w1 := hw1 ▸ (Below.refl _ w).alloc (Nat.le_refl _) _
  have hlX := h.lt
  have h1 : w1.heap.size = r3 + 1 := by rw [← hw1, ← hr3]; simp
  have HXR : Hid (∀ k, X k → k < r3) := fun k hk => by rw [← hr3]; exact hlX k hk
  have HB := Lib.hid hbel
  have A3W : Hid (At w1 r3 33 (rsA r)) := by
    have := At.new w 33 (rsA r)
    rw [hw1, hr3] at this
    exact this
  have HW1 := Lib.hid h1
  have HTB := Lib.hid (tab_below hT hbel)
  have HX2 := Lib.hid hX
  have HOK := Lib.hid hr
  have HPP := Lib.hid hPP
  have HBR3 := Lib.hid hr3
  have HN99 : Hid (n0 ≤ 99999) := (by show n0 ≤ 99999; omega : n0 ≤ 99999)
  have ST : Hid (GrS w w1 X g s r n0 s n0 [] (.slice none 0 0) w1) := ⟨Tw.refl (h.below hbel), by rw [List.nil_append], by simp, by rw [hn0]; exact Nat.le_refl _, hok, ⟨N, hs, hN⟩, World.ownsRow_nil w1 w1.heap.size 31 1⟩
  clear h hX hT hr hok hs hN hPP hbel h1 hr3 hgr hn0 hlX
  go_enter Tryz.func49, Tryz.ntmps49
  go_wp2_with fail
  rw [HBR3.out]
  clear hw1
  go_loopw [5] (fun v z => GrL w w1 X g s r n0 v z) (fun v _ => n0 - lenS v)
  case atStart => exact ⟨s, n0, [], none, 0, rfl, ST⟩
  case round =>
    obtain ⟨s', n, F, AF, cF, rfl, HG⟩ := hrel
    obtain ⟨X0, hX0, hXs, hmod⟩ := HG.out.tw
    obtain ⟨B, b1, b2, b3, V, hv, hB, hx⟩ := hX0.ex
    have hXE : ∀ k, TbX g b1 b2 b3 V k → X k ∨ w1.heap.size ≤ k := fun k hk => hXs k (hx k hk)
    have hE3 : ¬ TbX g b1 b2 b3 V r3 := fun hk => by
      rcases hXE r3 hk with h | h
      · have := HXR.out r3 h; omega
      · rw [HW1.out] at h; omega
    have A3 := Lib.hid (A3W.out.mod hmod (fun hk => by have := HXR.out r3 hk; omega))
    have TT := Lib.hid (show Tt wr g s' (TbX g b1 b2 b3 V) from ⟨⟨B, b1, b2, b3, V, hv, hB, fun _ hk => hk⟩, hv.lt⟩)
    have HTAB := Lib.hid (tab_mod HTB.out hmod HX2.out)
    have TR := Lib.hid (TbR.start (X := TbX g b1 b2 b3 V) hv hB fun _ hk => hk)
    have HFR : Hid (∀ k, (Value.slice AF F.length cF).ownBlock = some k → ¬ TbX g b1 b2 b3 V k) := fun k hk => by
      obtain ⟨cs, ha⟩ := own_at HG.out.own hk
      exact hv.box_ne ha tU_ne
    obtain ⟨NB, hNB, hNN⟩ := HG.out.sm
    obtain ⟨A1, c1, hv1, ho1⟩ := hv.holdR r
    obtain ⟨A2, c2, hv2, ho2⟩ := hv.queueR r
    have hn1 := (hNB.1 r).1
    have hn2 := (hNB.1 r).2
    have hqn := HG.out.q
    obtain ⟨hh, hhe⟩ : ∃ hh, (s'.at r).1 = hh := ⟨_, rfl⟩
    obtain ⟨qq, hqe⟩ : ∃ qq, (s'.at r).2 = qq := ⟨_, rfl⟩
    obtain ⟨n1, hn1e⟩ : ∃ n1, hh.length = n1 := ⟨_, rfl⟩
    obtain ⟨n2, hn2e⟩ : ∃ n2, qq.length = n2 := ⟨_, rfl⟩
    rw [hhe] at ho1 hv1 hn1
    rw [hqe] at hv2 ho2 hn2 hqn
    have hl := own_lz ho1
    have hq := own_lz ho2
    rw [hn1e] at ho1 hl hv1 hn1
    rw [hn2e] at ho2 hq hv2 hn2 hqn
    have TB := Lib.hid hv
    have HL := Lib.hid hl
    have HQ := Lib.hid hq
    have HO2 := Lib.hid ho2
    have HV1 := Lib.hid hv1
    have HV2 := Lib.hid hv2
    have HHE := Lib.hid hhe
    have HQE := Lib.hid hqe
    have HN1E := Lib.hid hn1e
    have HN2E := Lib.hid hn2e
    have HXE := Lib.hid hXE
    have HE3 := Lib.hid hE3
    have HMOD := Lib.hid hmod
    have HNB := Lib.hid hNB
    have HB0 := Lib.hid hB
    have hr3 : r3 < wr.heap.size := A3.out.lt
    obtain ⟨nF, hnF⟩ : ∃ nF, F.length = nF := ⟨_, rfl⟩
    have HNF := Lib.hid hnF
    have hlenF := HG.out.len
    rw [hnF] at HFR hlenF ⊢
    clear hX0 hXs hx hv hB hl hq ho1 ho2 hv1 hv2 hhe hqe hn1e hn2e hXE hE3 hmod hNB hnF
    go_upto_region 2 with fail
    refine wp_region_held_drew (S := Below wr.heap.size wr) (by kernel_rfl) ((Below.refl _ wr).drew) (fun hS => ?_)
    refine takeH (i := 0) (d := 8) (v := ?vgl0) rfl (by kernel_rfl) (by kernel_rfl) (by kernel_rfl) (fun _ _ _ h => h) rfl (by rfl) ?ygl0 hS ?rgl0
    case ygl0 => (intro wz hz; have p0 : wz.cell? ⟨g, 0, none⟩ = some (.map (some b1)) := (TB.out.below hz).cell1; go_simp <;> with_reducible rfl)
    simp only [List.setIfInBounds_toArray, List.set_cons_zero, List.set_cons_succ]
    refine takeH (i := 1) (d := 9) (v := ?vgl1) rfl (by kernel_rfl) (by kernel_rfl) (by kernel_rfl) (fun _ _ _ h => h) rfl (by rfl) ?ygl1 hS ?rgl1
    case ygl1 => (intro wz hz; have p0 : wz.cell? ⟨g, 0, none⟩ = some (.map (some b1)) := (TB.out.below hz).cell1; go_simp <;> with_reducible rfl)
    simp only [List.setIfInBounds_toArray, List.set_cons_zero, List.set_cons_succ]
    refine takeH (i := 2) (d := 10) (v := ?vgl2) rfl (by kernel_rfl) (by kernel_rfl) (by kernel_rfl) (fun _ _ _ h => h) rfl (by rfl) ?ygl2 hS ?rgl2
    case ygl2 => (intro wz hz; have p0 : wz.cell? ⟨g, 0, none⟩ = some (.map (some b1)) := (TB.out.below hz).cell1; go_simp <;> with_reducible rfl)
    simp only [List.setIfInBounds_toArray, List.set_cons_zero, List.set_cons_succ]
    refine takeH (i := 3) (d := 11) (v := ?vgl3) rfl (by kernel_rfl) (by kernel_rfl) (by kernel_rfl) (fun _ _ _ h => h) rfl (by rfl) ?ygl3 hS ?rgl3
    case ygl3 => (intro wz hz; have p0 : wz.cell? ⟨g, 0, none⟩ = some (.map (some b1)) := (TB.out.below hz).cell1; go_simp <;> with_reducible rfl)
    simp only [List.setIfInBounds_toArray, List.set_cons_zero, List.set_cons_succ]
    refine takeH (i := 4) (d := 12) (v := rsV r) rfl (by kernel_rfl) (by kernel_rfl) (by kernel_rfl) (fun _ _ _ h => h) rfl (by rfl) ?ygl4 hS ?rgl4
    case ygl4 => (intro wz hz; have p0 : wz.cell? ⟨g, 0, none⟩ = some (.map (some b1)) := (TB.out.below hz).cell1; exact exec_load_at 33 (.tmp 3) rfl r3 rfl _ 2 strR rfl (A3.out.under hz A3.out.lt))
    simp only [List.setIfInBounds_toArray, List.set_cons_zero, List.set_cons_succ]
    refine takeH (i := 5) (d := 13) (v := thV (.slice A1 n1 c1) (.slice A2 n2 c2)) rfl (by kernel_rfl) (by kernel_rfl) (by kernel_rfl) (fun _ _ _ h => h) rfl (by rfl) ?ygl5 hS ?rgl5
    case ygl5 => (intro wz hz; have p0 : wz.cell? ⟨g, 0, none⟩ = some (.map (some b1)) := (TB.out.below hz).cell1; exact exec_look (.tmp 11) (.tmp 12) false rfl keyT_res Tryz.underlying57 (thV nilS nilS) zero_th rfl (TB.out.below hz).ms.m1 r rfl HOK.out _ (by rw [(TB.out.below hz).look1, HV1.out, HV2.out]))
    simp only [List.setIfInBounds_toArray, List.set_cons_zero, List.set_cons_succ]
    refine wpAnyH_ready (rs := [6]) (by kernel_rfl) (by simp) ?_
    refine AllReadyH.cons rfl (fun K hK => ?_) AllReadyH.nil
    go_simp
    refine hK.out _ _ (((Below.refl _ wr).drew).alloc (Nat.le_refl _) _) (fun hT => ?_)
    clear hK hS
    have hS := hT
    clear hT
    refine wpAnyH_ready (rs := [7]) (by kernel_rfl) (by simp) ?_
    refine AllReadyH.cons rfl (fun K hK => ?_) AllReadyH.nil
    rw [if_pos (by rfl)]
    refine wp_store_at 79 (.tmp 6) (.tmp 13) rfl rfl wr.heap.size rfl (thA (.slice A1 n1 c1) (.slice A2 n2 c2)) (thA nilS nilS) 2 rfl strTh rfl rfl (thA_one _ _ _ _ _ _) (At.new wr.drew 79 (thA nilS nilS)) ?_
    intro w9 ha9 hg9
    have AX := Lib.hid ha9
    have HB9 := Lib.hid (show Below wr.heap.size wr w9 from (((Below.refl _ wr).drew).alloc (Nat.le_refl _) (.cells (thA nilS nilS) 79)).grown hg9 (by simp [World.alloc]) (fun k hk => by injection hk with hk; subst hk; exact Nat.le_refl _))
    clear ha9 hg9
    refine hK.out _ _ (HB9.out) (fun hT => ?_)
    clear hK hS
    have hS := hT
    clear hT
    refine wpAnyH_done (by kernel_rfl) ?_ _
    clear hS
    obtain ⟨b6, hb6⟩ : ∃ b6, wr.heap.size = b6 := ⟨_, rfl⟩
    have hb69 : wr.heap.size < w9.heap.size := AX.out.lt
    rw [hb6] at AX hb69 hr3 ⊢
    have HB6 := Lib.hid hb6
    clear hb6
    obtain ⟨brk, hbrk⟩ : ∃ brk, brk = (match qq with | [] => true | x :: _ => !admI hh x) := ⟨_, rfl⟩
    have HBRK := Lib.hid hbrk
    clear hbrk
    dsimp only [Act.put]
    go_upto_region 3 with fail
    go_cut [26] from 14 to 27 (fun s26 wx => s26 = .bool brk ∧ Hid (Below w9.heap.size w9 wx))
    case first =>
      cases qq with
      | nil =>
        have hb : brk = true := HBRK.out
        have hn20 : n2 = 0 := HN2E.out.symm
        have e4 : ((n2 : Int) == 0) = true := by simp [hn20]
        subst hb
        clear hn20
        refine wp_region_held_drew (S := Below w9.heap.size w9) (by kernel_rfl) ((Below.refl _ w9).drew) (fun hS => ?_)
        refine takeH (i := 0) (d := 14) (v := ?vga0) rfl (by kernel_rfl) (by kernel_rfl) (by kernel_rfl) (fun _ _ _ h => h) rfl (by rfl) ?yga0 hS ?rga0
        case yga0 => (intro wz hz; have p1 : wz.cell? ⟨b6, 1, none⟩ = some (.slice A2 n2 c2) := (AX.out.under hz AX.out.lt).cell 1; go_simp <;> with_reducible rfl)
        simp only [List.setIfInBounds_toArray, List.set_cons_zero, List.set_cons_succ]
        refine takeH (i := 1) (d := 15) (v := ?vga1) rfl (by kernel_rfl) (by kernel_rfl) (by kernel_rfl) (fun _ _ _ h => h) rfl (by rfl) ?yga1 hS ?rga1
        case yga1 => (intro wz hz; have p1 : wz.cell? ⟨b6, 1, none⟩ = some (.slice A2 n2 c2) := (AX.out.under hz AX.out.lt).cell 1; go_simp <;> with_reducible rfl)
        simp only [List.setIfInBounds_toArray, List.set_cons_zero, List.set_cons_succ]
        refine takeH (i := 2) (d := 16) (v := ?vga2) rfl (by kernel_rfl) (by kernel_rfl) (by kernel_rfl) (fun _ _ _ h => h) rfl (by rfl) ?yga2 hS ?rga2
        case yga2 => (intro wz hz; have p1 : wz.cell? ⟨b6, 1, none⟩ = some (.slice A2 n2 c2) := (AX.out.under hz AX.out.lt).cell 1; go_simp <;> with_reducible rfl)
        simp only [List.setIfInBounds_toArray, List.set_cons_zero, List.set_cons_succ]
        refine takeH (i := 3) (d := 17) (v := ?vga3) rfl (by kernel_rfl) (by kernel_rfl) (by kernel_rfl) (fun _ _ _ h => h) rfl (by rfl) ?yga3 hS ?rga3
        case yga3 => (intro wz hz; have p1 : wz.cell? ⟨b6, 1, none⟩ = some (.slice A2 n2 c2) := (AX.out.under hz AX.out.lt).cell 1; go_simp <;> with_reducible rfl)
        simp only [List.setIfInBounds_toArray, List.set_cons_zero, List.set_cons_succ]
        refine takeH (i := 4) (d := 18) (v := ?vga4) rfl (by kernel_rfl) (by kernel_rfl) (by kernel_rfl) (fun _ _ _ h => h) rfl (by rfl) ?yga4 hS ?rga4
        case yga4 => (intro wz hz; have p1 : wz.cell? ⟨b6, 1, none⟩ = some (.slice A2 n2 c2) := (AX.out.under hz AX.out.lt).cell 1; go_simp <;> with_reducible rfl)
        simp only [List.setIfInBounds_toArray, List.set_cons_zero, List.set_cons_succ]
        refine skipH (i := 5) (d := 19) rfl (by kernel_rfl) (by kernel_rfl) (by kernel_rfl) (fun _ _ _ h => h) rfl (by rfl) hS ?_
        simp only [List.setIfInBounds_toArray, List.set_cons_zero, List.set_cons_succ]
        refine skipH (i := 6) (d := 20) rfl (by kernel_rfl) (by kernel_rfl) (by kernel_rfl) (fun _ _ _ h => h) rfl (by rfl) hS ?_
        simp only [List.setIfInBounds_toArray, List.set_cons_zero, List.set_cons_succ]
        refine skipH (i := 7) (d := 21) rfl (by kernel_rfl) (by kernel_rfl) (by kernel_rfl) (fun _ _ _ h => h) rfl (by rfl) hS ?_
        simp only [List.setIfInBounds_toArray, List.set_cons_zero, List.set_cons_succ]
        refine skipH (i := 8) (d := 22) rfl (by kernel_rfl) (by kernel_rfl) (by kernel_rfl) (fun _ _ _ h => h) rfl (by rfl) hS ?_
        simp only [List.setIfInBounds_toArray, List.set_cons_zero, List.set_cons_succ]
        refine skipH (i := 9) (d := 23) rfl (by kernel_rfl) (by kernel_rfl) (by kernel_rfl) (fun _ _ _ h => h) rfl (by rfl) hS ?_
        simp only [List.setIfInBounds_toArray, List.set_cons_zero, List.set_cons_succ]
        refine skipH (i := 10) (d := 24) rfl (by kernel_rfl) (by kernel_rfl) (by kernel_rfl) (fun _ _ _ h => h) rfl (by rfl) hS ?_
        simp only [List.setIfInBounds_toArray, List.set_cons_zero, List.set_cons_succ]
        refine skipH (i := 11) (d := 25) rfl (by kernel_rfl) (by kernel_rfl) (by kernel_rfl) (fun _ _ _ h => h) rfl (by rfl) hS ?_
        simp only [List.setIfInBounds_toArray, List.set_cons_zero, List.set_cons_succ]
        refine takeH (i := 12) (d := 26) (v := ?vga12) rfl (by kernel_rfl) (by kernel_rfl) (by kernel_rfl) (fun _ _ _ h => h) rfl (by rfl) ?yga12 hS ?rga12
        case yga12 => (intro wz hz; have p1 : wz.cell? ⟨b6, 1, none⟩ = some (.slice A2 n2 c2) := (AX.out.under hz AX.out.lt).cell 1; go_simp <;> with_reducible rfl)
        simp only [List.setIfInBounds_toArray, List.set_cons_zero, List.set_cons_succ]
        refine wpAnyH_done (by kernel_rfl) ?_ _
        go_wp2_with fail
        go_meet
        exact ⟨rfl, Lib.hid hS⟩
      | cons x q =>
        have hb : brk = !admI hh x := HBRK.out
        have hn20 : 0 < n2 := by rw [← HN2E.out]; simp
        have e4 : ((n2 : Int) == 0) = false := by simp; omega
        obtain ⟨ad, had⟩ : ∃ ad, admI hh x = ad := ⟨_, rfl⟩
        rw [had] at hb
        subst hb
        obtain ⟨bQ, oQ, hlq, hAe, _, hbQ, hrQ⟩ := (HQ.out.below HB9.out).cm hn20
        subst hAe
        have RX : Hid (w9.rangeAt bQ oQ (cmV x)) := by
          have := hrQ
          rw [Nat.zero_mul, Nat.add_zero] at this
          exact this
        have HAD : Hid (∀ W, Below w9.heap.size w9 W → Calls Tryz.prog 43 #[.agg (thA (.slice A1 n1 c1) (.slice (some ⟨bQ, oQ, none⟩) n2 c2)), .agg (cmA x)] W (RetB W (.bool ad))) := fun W hW => by
          have := admits_any (fun _ => False) A1 n1 c1 hh (.slice (some ⟨bQ, oQ, none⟩) n2 c2) x W (tab_below HTAB.out (HB9.out.trans (hW.mono HB9.out.size))) (HL.out.below (HB9.out.trans (hW.mono HB9.out.size))) (by omega)
          rw [had] at this
          exact this
        have e5 : (0 : Int) < (n2 : Int) := by omega
        clear hrQ had
        refine wp_region_held_drew (S := Below w9.heap.size w9) (by kernel_rfl) ((Below.refl _ w9).drew) (fun hS => ?_)
        refine takeH (i := 0) (d := 14) (v := ?vgb0) rfl (by kernel_rfl) (by kernel_rfl) (by kernel_rfl) (fun _ _ _ h => h) rfl (by rfl) ?ygb0 hS ?rgb0
        case ygb0 => (intro wz hz; have p1 : wz.cell? ⟨b6, 1, none⟩ = some (.slice (some ⟨bQ, oQ, none⟩) n2 c2) := (AX.out.under hz AX.out.lt).cell 1; go_simp <;> with_reducible rfl)
        simp only [List.setIfInBounds_toArray, List.set_cons_zero, List.set_cons_succ]
        refine takeH (i := 1) (d := 15) (v := ?vgb1) rfl (by kernel_rfl) (by kernel_rfl) (by kernel_rfl) (fun _ _ _ h => h) rfl (by rfl) ?ygb1 hS ?rgb1
        case ygb1 => (intro wz hz; have p1 : wz.cell? ⟨b6, 1, none⟩ = some (.slice (some ⟨bQ, oQ, none⟩) n2 c2) := (AX.out.under hz AX.out.lt).cell 1; go_simp <;> with_reducible rfl)
        simp only [List.setIfInBounds_toArray, List.set_cons_zero, List.set_cons_succ]
        refine takeH (i := 2) (d := 16) (v := ?vgb2) rfl (by kernel_rfl) (by kernel_rfl) (by kernel_rfl) (fun _ _ _ h => h) rfl (by rfl) ?ygb2 hS ?rgb2
        case ygb2 => (intro wz hz; have p1 : wz.cell? ⟨b6, 1, none⟩ = some (.slice (some ⟨bQ, oQ, none⟩) n2 c2) := (AX.out.under hz AX.out.lt).cell 1; go_simp <;> with_reducible rfl)
        simp only [List.setIfInBounds_toArray, List.set_cons_zero, List.set_cons_succ]
        refine takeH (i := 3) (d := 17) (v := ?vgb3) rfl (by kernel_rfl) (by kernel_rfl) (by kernel_rfl) (fun _ _ _ h => h) rfl (by rfl) ?ygb3 hS ?rgb3
        case ygb3 => (intro wz hz; have p1 : wz.cell? ⟨b6, 1, none⟩ = some (.slice (some ⟨bQ, oQ, none⟩) n2 c2) := (AX.out.under hz AX.out.lt).cell 1; go_simp <;> with_reducible rfl)
        simp only [List.setIfInBounds_toArray, List.set_cons_zero, List.set_cons_succ]
        refine takeH (i := 4) (d := 18) (v := ?vgb4) rfl (by kernel_rfl) (by kernel_rfl) (by kernel_rfl) (fun _ _ _ h => h) rfl (by rfl) ?ygb4 hS ?rgb4
        case ygb4 => (intro wz hz; have p1 : wz.cell? ⟨b6, 1, none⟩ = some (.slice (some ⟨bQ, oQ, none⟩) n2 c2) := (AX.out.under hz AX.out.lt).cell 1; go_simp <;> with_reducible rfl)
        simp only [List.setIfInBounds_toArray, List.set_cons_zero, List.set_cons_succ]
        refine takeH (i := 5) (d := 19) (v := .agg (thA (.slice A1 n1 c1) (.slice (some ⟨bQ, oQ, none⟩) n2 c2))) rfl (by kernel_rfl) (by kernel_rfl) (by kernel_rfl) (fun _ _ _ h => h) rfl (by rfl) ?ygb5 hS ?rgb5
        case ygb5 => (intro wz hz; have p1 : wz.cell? ⟨b6, 1, none⟩ = some (.slice (some ⟨bQ, oQ, none⟩) n2 c2) := (AX.out.under hz AX.out.lt).cell 1; exact exec_load_at 79 (.tmp 6) rfl b6 rfl _ 2 strTh rfl (AX.out.under hz AX.out.lt))
        simp only [List.setIfInBounds_toArray, List.set_cons_zero, List.set_cons_succ]
        refine takeH (i := 6) (d := 20) (v := ?vgb6) rfl (by kernel_rfl) (by kernel_rfl) (by kernel_rfl) (fun _ _ _ h => h) rfl (by rfl) ?ygb6 hS ?rgb6
        case ygb6 => (intro wz hz; have p1 : wz.cell? ⟨b6, 1, none⟩ = some (.slice (some ⟨bQ, oQ, none⟩) n2 c2) := (AX.out.under hz AX.out.lt).cell 1; go_simp <;> with_reducible rfl)
        simp only [List.setIfInBounds_toArray, List.set_cons_zero, List.set_cons_succ]
        refine takeH (i := 7) (d := 21) (v := ?vgb7) rfl (by kernel_rfl) (by kernel_rfl) (by kernel_rfl) (fun _ _ _ h => h) rfl (by rfl) ?ygb7 hS ?rgb7
        case ygb7 => (intro wz hz; have p1 : wz.cell? ⟨b6, 1, none⟩ = some (.slice (some ⟨bQ, oQ, none⟩) n2 c2) := (AX.out.under hz AX.out.lt).cell 1; go_simp <;> with_reducible rfl)
        simp only [List.setIfInBounds_toArray, List.set_cons_zero, List.set_cons_succ]
        refine takeH (i := 8) (d := 22) (v := ?vgb8) rfl (by kernel_rfl) (by kernel_rfl) (by kernel_rfl) (fun _ _ _ h => h) rfl (by rfl) ?ygb8 hS ?rgb8
        case ygb8 => (intro wz hz; have p1 : wz.cell? ⟨b6, 1, none⟩ = some (.slice (some ⟨bQ, oQ, none⟩) n2 c2) := (AX.out.under hz AX.out.lt).cell 1; go_simp <;> with_reducible rfl)
        simp only [List.setIfInBounds_toArray, List.set_cons_zero, List.set_cons_succ]
        refine takeH (i := 9) (d := 23) (v := .agg (cmA x)) rfl (by kernel_rfl) (by kernel_rfl) (by kernel_rfl) (fun _ _ _ h => h) rfl (by rfl) ?ygb9 hS ?rgb9
        case ygb9 => (intro wz hz; have p1 : wz.cell? ⟨b6, 1, none⟩ = some (.slice (some ⟨bQ, oQ, none⟩) n2 c2) := (AX.out.under hz AX.out.lt).cell 1; exact exec_load_in 54 (.tmp 22) rfl bQ oQ rfl (cmV x) 2 strC rfl (fun j v hv => (hz.cell (p := ⟨bQ, oQ + j, none⟩) hbQ).trans (RX.out j v hv)))
        simp only [List.setIfInBounds_toArray, List.set_cons_zero, List.set_cons_succ]
        refine wpAnyH_ready (rs := [10]) (by kernel_rfl) (by simp) ?_
        refine AllReadyH.cons rfl (fun K hK => ?_) AllReadyH.nil
        go_simp
        refine (HAD.out _ hS).mono ?_
        rintro e y9 ⟨rfl, hb9⟩
        have hb : True := trivial
        have B9 := Lib.hid (hS.trans (hb9.mono hS.size))
        clear hb9
        refine hK.out _ _ (B9.out) (fun hT => ?_)
        clear hK hb hS
        have hS := hT
        clear hT
        refine takeH (i := 11) (d := 25) (v := ?vgb11) rfl (by kernel_rfl) (by kernel_rfl) (by kernel_rfl) (fun _ _ _ h => h) rfl (by rfl) ?ygb11 hS ?rgb11
        case ygb11 => (intro wz hz; have p1 : wz.cell? ⟨b6, 1, none⟩ = some (.slice (some ⟨bQ, oQ, none⟩) n2 c2) := (AX.out.under hz AX.out.lt).cell 1; go_simp <;> with_reducible rfl)
        simp only [List.setIfInBounds_toArray, List.set_cons_zero, List.set_cons_succ]
        refine takeH (i := 12) (d := 26) (v := ?vgb12) rfl (by kernel_rfl) (by kernel_rfl) (by kernel_rfl) (fun _ _ _ h => h) rfl (by rfl) ?ygb12 hS ?rgb12
        case ygb12 => (intro wz hz; have p1 : wz.cell? ⟨b6, 1, none⟩ = some (.slice (some ⟨bQ, oQ, none⟩) n2 c2) := (AX.out.under hz AX.out.lt).cell 1; go_simp <;> with_reducible rfl)
        simp only [List.setIfInBounds_toArray, List.set_cons_zero, List.set_cons_succ]
        refine wpAnyH_done (by kernel_rfl) ?_ _
        go_wp2_with fail
        go_meet
        exact ⟨rfl, Lib.hid hS⟩
    obtain ⟨rfl, HC⟩ := hcut
    have HBC := Lib.hid (HB9.out.trans (HC.out.mono HB9.out.size))
    cases brk
    · obtain ⟨x, q, hqx, hax⟩ : ∃ x q, qq = x :: q ∧ admI hh x = true := by
        have hb := HBRK.out
        cases hq : qq with
        | nil =>
          rw [hq] at hb
          have hb2 : false = true := hb
          cases hb2
        | cons x q =>
          rw [hq] at hb
          have hb2 : false = !admI hh x := hb
          refine ⟨x, q, rfl, ?_⟩
          cases had : admI hh x
          · rw [had] at hb2; cases hb2
          · rfl
      have hn20 : 0 < n2 := by rw [← HN2E.out, hqx]; simp
      obtain ⟨bQ, oQ, hlq, hAe, _, hbQ, hrQ⟩ := (HQ.out.below HBC.out).cm hn20
      have AXC := Lib.hid (AX.out.under HC.out AX.out.lt)
      subst hAe
      have RX : Hid (wc.rangeAt bQ oQ (cmV x)) := by
        have := hrQ
        rw [Nat.zero_mul, Nat.add_zero] at this
        have e : qq[0]'hlq = x := by simp [hqx]
        rw [e] at this
        exact this
      have c61 : wc.cell? ⟨b6, 1, none⟩ = some (.slice (some ⟨bQ, oQ, none⟩) n2 c2) := AXC.out.cell 1
      have hokx : U64 x.1 := HG.out.ok x (by rw [HQE.out, hqx]; simp)
      have HX1 := Lib.hid hokx
      have HQX := Lib.hid hqx
      have HAX := Lib.hid hax
      have e7 : (0 : Int) < (n2 : Int) := by omega
      have HBA := Lib.hid (HBC.out.alloc HBC.out.size (.cells (cmA x) 54))
      have A7 := Lib.hid (At.new wc 54 (cmA x))
      have hb7 : b6 < wc.heap.size := AXC.out.lt
      have c70 : (wc.alloc (.cells (cmA x) 54)).cell? ⟨wc.heap.size, 0, none⟩ = some (.int .u64 (x.1 : Int)) := A7.out.cell 0
      have AXA := Lib.hid (AXC.out.alloc (.cells (cmA x) 54))
      clear hqx hax hrQ hokx hlq
      go_wp2_with (first
        | refine wpList_load_in 54 30 (.tmp 29) rfl rfl rfl bQ oQ rfl (cmV x) 2 strC rfl RX.out ?_
        | refine wpList_store_new 54 (.tmp 7) (.tmp 30) rfl rfl rfl _ wc rfl rfl (cmA x) zC 2 rfl strC rfl rfl (cmA_one _) rfl ?_)
      refine (of_any x.1 (wc.alloc (.cells (cmA x) 54))).mono ?_
      rintro e zb ⟨rfl, hzb⟩
      obtain ⟨b7, hb7e⟩ : ∃ b7, wc.heap.size = b7 := ⟨_, rfl⟩
      have hsz : (wc.alloc (.cells (cmA x) 54)).heap.size = b7 + 1 := by rw [← hb7e]; simp
      rw [hb7e] at A7 hb7 ⊢
      rw [hsz]
      have HBZ := Lib.hid (show Below wr.heap.size wr zb from hzb ▸ HBA.out.alloc HBA.out.size _)
      have A7Z := Lib.hid (show At zb b7 54 (cmA x) from hzb ▸ A7.out.alloc _)
      have AXZ := Lib.hid (show At zb b6 79 (thA (.slice A1 n1 c1) (.slice (some ⟨bQ, oQ, none⟩) n2 c2)) from hzb ▸ AXA.out.alloc _)
      have hcf : zb.cell? ⟨b7 + 1, 0, none⟩ = some (.int .u64 (x.1 : Int)) := by
        have := (At.new (wc.alloc (.cells (cmA x) 54)) 31 #[.int .u64 (x.1 : Int)]).cell 0
        rw [hsz] at this
        rw [hzb]
        exact this
      have howq : ∀ k, (Value.slice (some ⟨bQ, oQ, none⟩) n2 c2).ownBlock = some k → k < b6 := fun k hk => by
        have := (HO2.out.lt k hk).2
        rw [HB6.out] at this
        exact this
      have HOWQ := Lib.hid howq
      have A3Z := Lib.hid (A3.out.under HBZ.out A3.out.lt)
      have TRZ := Lib.hid (TR.out.below HBZ.out)
      have HREM := Lib.hid (remove_any 64 #[.pointer (some ⟨b7 + 1, 0, none⟩)] (fun c => c.1 == x.1) ent_of B (.slice (some ⟨bQ, oQ, none⟩) n2 c2) qq zb (by rw [HN2E.out]; exact own_mod HO2.out (Mod.of_below HBZ.out (fun _ => False)) (fun _ _ h => h))
        (pred_ofX x.1 (b7 + 1) _ zb (fun hk => by have := howq _ hk; omega) hcf) (by rw [HN2E.out]; omega) b6 1 _ AXZ.out rfl)
      clear hzb hb7e hsz hcf howq c61 c70
      go_wp2_with fail
      refine HREM.out.mono ?_
      rintro e y5 ⟨rfl, v8, ho8, hv8, ha8, hm8⟩
      obtain ⟨q8, hq8⟩ : ∃ q8, qq.filter (fun c => !(c.1 == x.1)) = q8 := ⟨_, rfl⟩
      rw [hq8] at ho8
      obtain ⟨m8, hm8l⟩ : ∃ m8, q8.length = m8 := ⟨_, rfl⟩
      rw [hm8l] at ho8
      obtain ⟨A8, c8, hv8e, _⟩ := pl_own_slice ho8
      subst hv8e
      have hY : ∀ k, (k = b6 ∨ (Value.slice (some ⟨bQ, oQ, none⟩) n2 c2).ownBlock = some k) → (V (.queue r)).ownBlock = some k ∨ (¬ TbX g b1 b2 b3 V k ∧ wr.heap.size ≤ k) := by
        rintro k (rfl | hk)
        · exact .inr ⟨TRZ.out.box_ne AXZ.out ⟨by decide, by decide, by decide⟩, by rw [HB6.out]; exact Nat.le_refl _⟩
        · exact .inl (by rw [HV2.out]; exact hk)
      have TR2 := Lib.hid (TRZ.out.rowM (.queue r) hm8 hY (v := .slice A8 m8 c8) (l := q8.map cmP) (by rw [List.length_map, hm8l]; exact ho8) (fun k hk => .inl (by rw [HV2.out, ← hv8]; exact hk)))
      have nb : ∀ k, k ≠ b6 → (b6 < k ∨ ¬ TbX g b1 b2 b3 V k) → ¬ (k = b6 ∨ (Value.slice (some ⟨bQ, oQ, none⟩) n2 c2).ownBlock = some k) := by
        rintro k h1 h2 (h | h)
        · exact h1 h
        · rcases h2 with h2 | h2
          · have := HOWQ.out k h; omega
          · exact h2 (.inr (.inr (.inr (.inr ⟨.queue r, by rw [HV2.out]; exact h⟩))))
      have A35 := Lib.hid (A3Z.out.mod hm8 (nb r3 (by omega) (.inr HE3.out)))
      have A75 := Lib.hid (A7Z.out.mod hm8 (nb b7 (by omega) (.inl (by omega))))
      have AX5 : Hid (At y5 b6 79 (thA (.slice A1 n1 c1) (.slice A8 m8 c8))) := ha8
      have HV8 := Lib.hid hv8
      have HQ8 := Lib.hid hq8
      clear ho8 hv8 ha8 hm8 hY nb hq8 HREM
      go_upto_region 6 with fail
      have hS0 : At y5.drew g 61 (tabA b1 b2 b3) ∧ At y5.drew r3 33 (rsA r) ∧ At y5.drew b6 79 (thA (.slice A1 n1 c1) (.slice A8 m8 c8)) := ⟨TR2.out.gt, A35.out, AX5.out⟩
      refine wp_region_held_drew (S := fun wz => At wz g 61 (tabA b1 b2 b3) ∧ At wz r3 33 (rsA r) ∧ At wz b6 79 (thA (.slice A1 n1 c1) (.slice A8 m8 c8))) (by kernel_rfl) hS0 (fun hS => ?_)
      refine takeH (i := 0) (d := 36) (v := ?vgp0) rfl (by kernel_rfl) (by kernel_rfl) (by kernel_rfl) (fun _ _ _ h => h) rfl (by rfl) ?ygp0 hS ?rgp0
      case ygp0 => (intro wz hz; have p0 : wz.cell? ⟨g, 0, none⟩ = some (.map (some b1)) := hz.1.cell 0; go_simp <;> with_reducible rfl)
      simp only [List.setIfInBounds_toArray, List.set_cons_zero, List.set_cons_succ]
      refine takeH (i := 1) (d := 37) (v := ?vgp1) rfl (by kernel_rfl) (by kernel_rfl) (by kernel_rfl) (fun _ _ _ h => h) rfl (by rfl) ?ygp1 hS ?rgp1
      case ygp1 => (intro wz hz; have p0 : wz.cell? ⟨g, 0, none⟩ = some (.map (some b1)) := hz.1.cell 0; go_simp <;> with_reducible rfl)
      simp only [List.setIfInBounds_toArray, List.set_cons_zero, List.set_cons_succ]
      refine takeH (i := 2) (d := 38) (v := ?vgp2) rfl (by kernel_rfl) (by kernel_rfl) (by kernel_rfl) (fun _ _ _ h => h) rfl (by rfl) ?ygp2 hS ?rgp2
      case ygp2 => (intro wz hz; have p0 : wz.cell? ⟨g, 0, none⟩ = some (.map (some b1)) := hz.1.cell 0; go_simp <;> with_reducible rfl)
      simp only [List.setIfInBounds_toArray, List.set_cons_zero, List.set_cons_succ]
      refine takeH (i := 3) (d := 39) (v := ?vgp3) rfl (by kernel_rfl) (by kernel_rfl) (by kernel_rfl) (fun _ _ _ h => h) rfl (by rfl) ?ygp3 hS ?rgp3
      case ygp3 => (intro wz hz; have p0 : wz.cell? ⟨g, 0, none⟩ = some (.map (some b1)) := hz.1.cell 0; go_simp <;> with_reducible rfl)
      simp only [List.setIfInBounds_toArray, List.set_cons_zero, List.set_cons_succ]
      refine takeH (i := 4) (d := 40) (v := rsV r) rfl (by kernel_rfl) (by kernel_rfl) (by kernel_rfl) (fun _ _ _ h => h) rfl (by rfl) ?ygp4 hS ?rgp4
      case ygp4 => (intro wz hz; have p0 : wz.cell? ⟨g, 0, none⟩ = some (.map (some b1)) := hz.1.cell 0; exact exec_load_at 33 (.tmp 3) rfl r3 rfl _ 2 strR rfl hz.2.1)
      simp only [List.setIfInBounds_toArray, List.set_cons_zero, List.set_cons_succ]
      refine takeH (i := 5) (d := 41) (v := .agg (thA (.slice A1 n1 c1) (.slice A8 m8 c8))) rfl (by kernel_rfl) (by kernel_rfl) (by kernel_rfl) (fun _ _ _ h => h) rfl (by rfl) ?ygp5 hS ?rgp5
      case ygp5 => (intro wz hz; have p0 : wz.cell? ⟨g, 0, none⟩ = some (.map (some b1)) := hz.1.cell 0; exact exec_load_at 79 (.tmp 6) rfl b6 rfl (thA (.slice A1 n1 c1) (.slice A8 m8 c8)) 2 strTh rfl hz.2.2)
      simp only [List.setIfInBounds_toArray, List.set_cons_zero, List.set_cons_succ]
      refine wpAnyH_ready (rs := [6]) (by kernel_rfl) (by simp) ?_
      refine AllReadyH.cons rfl (fun K hK => ?_) AllReadyH.nil
      rw [if_pos (by rfl)]
      refine wp_mapStore (.tmp 39) (.tmp 40) (.tmp 41) rfl rfl keyT_res Tryz.underlying57 rfl (TR2.out.below ((Below.refl _ y5).drew)).ms.m1 r rfl HOK.out (thV (.slice A1 n1 c1) (.slice A8 m8 c8)) rfl ?_
      intro w9 hm9 hg9
      have TR3 := Lib.hid ((TR2.out.below ((Below.refl _ y5).drew)).put1 r ((hh, q8)) (.slice A1 n1 c1) (.slice A8 m8 c8) hm9 hg9)
      have ngm := TR2.out.ms.m1
      obtain ⟨es9, cl9, hes9, _⟩ := ngm
      have hS9 : At w9 g 61 (tabA b1 b2 b3) ∧ At w9 r3 33 (rsA r) ∧ At w9 b6 79 (thA (.slice A1 n1 c1) (.slice A8 m8 c8)) := ⟨hS0.1.grown hg9 (fun e => at_map TR2.out.gt hes9 (Option.some.inj e)), hS0.2.1.grown hg9 (fun e => at_map A35.out hes9 (Option.some.inj e)), hS0.2.2.grown hg9 (fun e => at_map AX5.out hes9 (Option.some.inj e))⟩
      clear hm9 hes9
      refine hK.out _ _ (hS9) (fun hT => ?_)
      clear hK hS
      have hS := hT
      clear hT
      refine wpAnyH_done (by kernel_rfl) ?_ _
      obtain ⟨w3, hw3⟩ : ∃ w3, w3 = w9 := ⟨_, rfl⟩
      subst hw3
      have A36 := Lib.hid hS9.2.1
      have A76 : Hid (At w3 b7 54 (cmA x)) := by
        obtain ⟨es7, cl7, hes7, _⟩ := TR2.out.ms.m1
        exact (show At y5.drew b7 54 (cmA x) from A75.out).grown hg9 (fun e => at_map A75.out hes7 (Option.some.inj e))
      have TT1 : Hid (Tt w3 g { s' with th := upd s'.th r (some (hh, q8)) } (TbX g b1 b2 b3 V)) := by
        refine th_tt (s := s') (x := (hh, q8)) TR3.out rfl rfl (fun i => ?_) (fun i => ?_) TB.out.n1 TB.out.n2 (fun k hk => ?_) (fun k hk => ?_)
        · rw [← HV1.out]
          exact setTh_self V r _ i
        · rw [row_self, HHE.out]
        · rcases hk with h | h | h | h | ⟨i, hi⟩
          · exact .inl h
          · exact .inr (.inl h)
          · exact .inr (.inr (.inl h))
          · exact .inr (.inr (.inr (.inl h)))
          · refine .inr (.inr (.inr (.inr ?_)))
            by_cases e : i = .queue r
            · subst e
              rw [setF_same, HV8.out] at hi
              exact ⟨.queue r, by rw [HV2.out]; exact hi⟩
            · rw [setF_ne _ _ e] at hi
              exact ⟨i, hi⟩
        · exact Nat.lt_of_lt_of_le (TB.out.lt k hk) TR3.out.mod.size
      have hm3 := Lib.hid TR3.out.mod
      have hb7n : Hid (¬ TbX g b1 b2 b3 V b7) := fun hk => by
        have := TB.out.lt b7 hk
        rw [HB6.out] at this
        omega
      have SM1 : Hid (SmS { s' with th := upd s'.th r (some (hh, q8)) } 99999) := by
        refine (sm_th HNB.out r (hh, q8) (by rw [HN1E.out]; exact hn1) ?_).mono (by omega)
        show q8.length ≤ NB
        rw [← HQ8.out]
        exact Nat.le_trans (List.length_filter_le _ _) (by rw [HN2E.out]; exact hn2)
      clear hS hS9 hg9 hS0
      go_wp2_with (first
        | refine wpList_load_at 33 43 (.tmp 3) rfl rfl rfl r3 rfl _ 2 strR rfl A36.out ?_
        | refine wpList_load_at 54 44 (.tmp 7) rfl rfl rfl b7 rfl _ 2 strC rfl A76.out ?_)
      refine (hold_any (TbX g b1 b2 b3 V) g { s' with th := upd s'.th r (some (hh, q8)) } r x w3 TT1.out HOK.out HX1.out SM1.out).mono ?_
      rintro e y7 ⟨rfl, X7, hX7, hXs7, hm7⟩
      obtain ⟨s2, hs2⟩ : ∃ s2, holdI { s' with th := upd s'.th r (some (hh, q8)) } r x = s2 := ⟨_, rfl⟩
      rw [hs2] at hX7
      obtain ⟨B7, d1, d2, d3, V7, hv7, hB7, hx7⟩ := hX7.ex
      have A7H := Lib.hid (A76.out.mod hm7 hb7n.out)
      have TH := Lib.hid (TbR.start (X := X7) hv7 hB7 hx7)
      have HM7 := Lib.hid hm7
      have HXS7 := Lib.hid hXs7
      have HV7 := Lib.hid hv7
      have HS2 := Lib.hid hs2
      clear hX7 hXs7 hm7 hv7 hB7 hx7 hs2
      go_upto_region 8 with fail
      refine wp_region_held_drew (S := fun wz => At wz g 61 (tabA d1 d2 d3) ∧ At wz b7 54 (cmA x)) (by kernel_rfl) ⟨TH.out.gt, A7H.out⟩ (fun hS => ?_)
      refine takeH (i := 0) (d := 46) (v := ?vgd0) rfl (by kernel_rfl) (by kernel_rfl) (by kernel_rfl) (fun _ _ _ h => h) rfl (by rfl) ?ygd0 hS ?rgd0
      case ygd0 => (intro wz hz; have p0 : wz.cell? ⟨g, 2, none⟩ = some (.map (some d3)) := hz.1.cell 2; have p1 : wz.cell? ⟨b7, 0, none⟩ = some (.int .u64 (x.1 : Int)) := hz.2.cell 0; go_simp <;> with_reducible rfl)
      simp only [List.setIfInBounds_toArray, List.set_cons_zero, List.set_cons_succ]
      refine takeH (i := 1) (d := 47) (v := ?vgd1) rfl (by kernel_rfl) (by kernel_rfl) (by kernel_rfl) (fun _ _ _ h => h) rfl (by rfl) ?ygd1 hS ?rgd1
      case ygd1 => (intro wz hz; have p0 : wz.cell? ⟨g, 2, none⟩ = some (.map (some d3)) := hz.1.cell 2; have p1 : wz.cell? ⟨b7, 0, none⟩ = some (.int .u64 (x.1 : Int)) := hz.2.cell 0; go_simp <;> with_reducible rfl)
      simp only [List.setIfInBounds_toArray, List.set_cons_zero, List.set_cons_succ]
      refine takeH (i := 2) (d := 48) (v := ?vgd2) rfl (by kernel_rfl) (by kernel_rfl) (by kernel_rfl) (fun _ _ _ h => h) rfl (by rfl) ?ygd2 hS ?rgd2
      case ygd2 => (intro wz hz; have p0 : wz.cell? ⟨g, 2, none⟩ = some (.map (some d3)) := hz.1.cell 2; have p1 : wz.cell? ⟨b7, 0, none⟩ = some (.int .u64 (x.1 : Int)) := hz.2.cell 0; go_simp <;> with_reducible rfl)
      simp only [List.setIfInBounds_toArray, List.set_cons_zero, List.set_cons_succ]
      refine takeH (i := 3) (d := 49) (v := ?vgd3) rfl (by kernel_rfl) (by kernel_rfl) (by kernel_rfl) (fun _ _ _ h => h) rfl (by rfl) ?ygd3 hS ?rgd3
      case ygd3 => (intro wz hz; have p0 : wz.cell? ⟨g, 2, none⟩ = some (.map (some d3)) := hz.1.cell 2; have p1 : wz.cell? ⟨b7, 0, none⟩ = some (.int .u64 (x.1 : Int)) := hz.2.cell 0; go_simp <;> with_reducible rfl)
      simp only [List.setIfInBounds_toArray, List.set_cons_zero, List.set_cons_succ]
      refine takeH (i := 4) (d := 50) (v := ?vgd4) rfl (by kernel_rfl) (by kernel_rfl) (by kernel_rfl) (fun _ _ _ h => h) rfl (by rfl) ?ygd4 hS ?rgd4
      case ygd4 => (intro wz hz; have p0 : wz.cell? ⟨g, 2, none⟩ = some (.map (some d3)) := hz.1.cell 2; have p1 : wz.cell? ⟨b7, 0, none⟩ = some (.int .u64 (x.1 : Int)) := hz.2.cell 0; go_simp <;> with_reducible rfl)
      simp only [List.setIfInBounds_toArray, List.set_cons_zero, List.set_cons_succ]
      refine takeH (i := 5) (d := 51) (v := ?vgd5) rfl (by kernel_rfl) (by kernel_rfl) (by kernel_rfl) (fun _ _ _ h => h) rfl (by rfl) ?ygd5 hS ?rgd5
      case ygd5 => (intro wz hz; have p0 : wz.cell? ⟨g, 2, none⟩ = some (.map (some d3)) := hz.1.cell 2; have p1 : wz.cell? ⟨b7, 0, none⟩ = some (.int .u64 (x.1 : Int)) := hz.2.cell 0; go_simp <;> with_reducible rfl)
      simp only [List.setIfInBounds_toArray, List.set_cons_zero, List.set_cons_succ]
      refine wpAnyH_ready (rs := [6]) (by kernel_rfl) (by simp) ?_
      refine AllReadyH.cons rfl (fun K hK => ?_) AllReadyH.nil
      rw [if_pos (by rfl)]
      refine wp_mapDrop (.tmp 49) (.tmp 51) rfl rfl keyT_u64 Tryz.underlying59 rfl (TH.out.below ((Below.refl _ y7).drew)).ms.m3 x.1 rfl HX1.out ?_
      intro w9 hm9 hg9
      have TH2 := Lib.hid ((TH.out.below ((Below.refl _ y7).drew)).put3 x.1 none hm9 hg9)
      obtain ⟨es9, cl9, hes9, _⟩ := TH.out.ms.m3
      have hS9 := (show At w9 g 61 (tabA d1 d2 d3) ∧ At w9 b7 54 (cmA x) from ⟨hS.1.grown hg9 (fun e => at_map TH.out.gt hes9 (Option.some.inj e)), hS.2.grown hg9 (fun e => at_map A7H.out hes9 (Option.some.inj e))⟩)
      clear hm9 hes9
      refine hK.out _ _ (hS9) (fun hT => ?_)
      clear hK hS
      have hS := hT
      clear hT
      refine wpAnyH_done (by kernel_rfl) ?_ _
      have hstep : stepI s' r x = { s2 with wt := upd s2.wt x.1 none } := by
        have h1 : stepI s' r x = { holdI { s' with th := upd s'.th r (some ((s'.at r).1, notT x.1 (s'.at r).2)) } r x with wt := upd s'.wt x.1 none } := rfl
        have h2 : notT x.1 (s'.at r).2 = q8 := by rw [HQE.out, ← HQ8.out]; rfl
        rw [h1, h2, HHE.out, HS2.out]
        have h3 : s2.wt = s'.wt := by rw [← HS2.out]; exact (hold_th _ r x).2.2.2
        rw [h3]
      have hfin : Tw y7 X7 g (stepI s' r x) w9 := by
        rw [hstep]
        exact TH2.out.fin (fun _ => rfl) (fun i => by cases i <;> rfl) HV7.out.n1 HV7.out.n2
      have hX7 : ∀ k, X7 k → X k ∨ w1.heap.size ≤ k := fun k hk => by
        rcases HXS7.out k hk with h | h
        · exact HXE.out k h
        · exact .inr (Nat.le_trans HMOD.out.size (Nat.le_trans hm3.out.size h))
      have hm17 : Mod X w1 y7 := (HMOD.out.sub hm3.out HXE.out).sub HM7.out HXE.out
      have TW9 := Lib.hid (hfin.step hX7 hm17)
      have hown3 := own_mod HG.out.own hm3.out (fun k hk => HFR.out k (by rw [HNF.out] at hk; exact hk))
      have hown7 := own_mod hown3 HM7.out (fun k hk => HFR.out k (by rw [HNF.out] at hk; exact hk))
      have hown9 := own_mod hown7 hfin.choose_spec.2.2 (fun k hk hx => by
        rcases HXS7.out k hx with h | h
        · exact HFR.out k (by rw [HNF.out] at hk; exact hk) h
        · have h1 := (HG.out.own.lt k hk).2
          have h2 := hm3.out.size
          omega)
      rw [HNF.out] at hown9
      have OWN := Lib.hid (own_under hown9 ((Below.refl _ w9).alloc (Nat.le_refl _) (.cells #[.int .u64 (x.1 : Int)] 31)) (Nat.le_refl _))
      have TWA := Lib.hid (TW9.out.below ((Below.refl _ w9).alloc (Nat.le_refl _) (.cells #[.int .u64 (x.1 : Int)] 31)))
      have LN := Lib.hid (lies_new w9 (.int .u64 (x.1 : Int)) 31)
      have c70 : w9.cell? ⟨b7, 0, none⟩ = some (.int .u64 (x.1 : Int)) := hS9.2.cell 0
      have hw19 : w1.heap.size ≤ (w9.alloc (.cells #[.int .u64 (x.1 : Int)] 31)).heap.size := by
        have h1 := hm17.size
        have h2 := hfin.choose_spec.2.2.size
        simp
        omega
      have HW19 := Lib.hid hw19
      have HQL := Lib.hid (show ((stepI s' r x).at r).2.length ≤ q.length from step_qlen (by rw [HQE.out, HQX.out]))
      have hqn2 : q.length + 1 = n2 := by rw [← HN2E.out, HQX.out]; simp
      obtain ⟨m, hm⟩ : ∃ m, n = m + 1 := ⟨n - 1, by omega⟩
      have HREL : Hid (grantI n0 s r = ((grantI m (stepI s' r x) r).1, (F ++ [x.1]) ++ (grantI m (stepI s' r x) r).2)) := by
        show _ = _
        rw [HG.out.rel, hm, grantI_go (c := x) (q := q) (by rw [HQE.out, HQX.out]) (by rw [HHE.out]; exact HAX.out)]
        simp
      have HMQ : Hid (((stepI s' r x).at r).2.length ≤ m) := Nat.le_trans HQL.out (by omega)
      have HOKQ := Lib.hid (okq_step HG.out.ok x)
      have HSMX : Hid (∃ N, SmS (stepI s' r x) N ∧ N + m ≤ 99999) := ⟨NB + 1, sm_step HNB.out r x, by omega⟩
      have hF63 : nF ≤ 99999 := by have := HN99.out; omega
      clear hS hS9 hg9 hstep hfin hX7 hm17 hown3 hown7 hown9 hw19
      obtain ⟨i0, hi0, hz0, hz1, hz2⟩ := u_info
      go_wp2_with (at_builtin; refine wpList_app _ rfl (.tmp 52) (.tmp 55) 37 rfl w1.heap.size 31 i0 (.int .u64 0) 1 8 Tryz.underlying37 hi0 hz0 hz1 hz2 rfl (by omega) (.slice AF nF cF) nF (UC F) rfl OWN.out (w9.heap.size + 1) (some ⟨w9.heap.size, 0, none⟩) 1 1 [.int .u64 (x.1 : Int)] rfl LN.out (fun u hu => by simp at hu; rw [hu]; rfl) (by simp only [maxLen]; omega) (by omega) HW19.out ?_; intro v5 w5 ho5 hg5)
      obtain ⟨A5, c5, rfl, _⟩ := own_slice ho5
      have hl5 : (F ++ [x.1]).length = nF + 1 := by rw [List.length_append, HNF.out]; rfl
      refine ⟨⟨stepI s' r x, m, F ++ [x.1], A5, c5, by rw [hl5], ?_⟩, ?_⟩
      · refine ⟨TWA.out.row OWN.out (Nat.le_refl _) hg5, HREL.out, by rw [hl5]; omega, HMQ.out, HOKQ.out, HSMX.out, ?_⟩
        rw [hl5, UC_append]
        exact ho5
      · simp [lenS]
        omega
    · have hend : grantI n s' r = (endI s' r, []) := grantI_end (by
        have hb := HBRK.out
        cases hq : qq with
        | nil => exact .inl (by rw [HQE.out, hq])
        | cons x q =>
          rw [hq] at hb
          have hb2 : true = !admI hh x := hb
          refine .inr ⟨x, q, by rw [HQE.out, hq], ?_⟩
          rw [HHE.out]
          cases had : admI hh x
          · rfl
          · rw [had] at hb2; cases hb2) n
      have HPE : Hid (PP = (endI s' r, F)) := by
        show _ = _
        rw [← HPP.out, HG.out.rel, hend, List.append_nil]
      have TBC := Lib.hid (TB.out.below HBC.out)
      have A3C := Lib.hid (A3.out.under HBC.out A3.out.lt)
      have HTW := Lib.hid (HG.out.tw.below HBC.out)
      have HOW := Lib.hid (own_mod HG.out.own (Mod.of_below HBC.out (fun _ => False)) (fun _ _ h => h))
      clear hend
      go_upto_region 10 with fail
      by_cases h10 : n1 = 0
      · have e6 : ((n1 : Int) == 0) = true := by simp [h10]
        have H10 := Lib.hid h10
        clear h10
        refine wp_region_held_drew (S := Below wc.heap.size wc) (by kernel_rfl) ((Below.refl _ wc).drew) (fun hS => ?_)
        refine takeH (i := 0) (d := 57) (v := ?vgt0) rfl (by kernel_rfl) (by kernel_rfl) (by kernel_rfl) (fun _ _ _ h => h) rfl (by rfl) ?ygt0 hS ?rgt0
        case ygt0 => (intro wz hz; have p0 : wz.cell? ⟨g, 0, none⟩ = some (.map (some b1)) := (TBC.out.below hz).cell1; go_simp <;> with_reducible rfl)
        simp only [List.setIfInBounds_toArray, List.set_cons_zero, List.set_cons_succ]
        refine takeH (i := 1) (d := 58) (v := ?vgt1) rfl (by kernel_rfl) (by kernel_rfl) (by kernel_rfl) (fun _ _ _ h => h) rfl (by rfl) ?ygt1 hS ?rgt1
        case ygt1 => (intro wz hz; have p0 : wz.cell? ⟨g, 0, none⟩ = some (.map (some b1)) := (TBC.out.below hz).cell1; go_simp <;> with_reducible rfl)
        simp only [List.setIfInBounds_toArray, List.set_cons_zero, List.set_cons_succ]
        refine takeH (i := 2) (d := 59) (v := ?vgt2) rfl (by kernel_rfl) (by kernel_rfl) (by kernel_rfl) (fun _ _ _ h => h) rfl (by rfl) ?ygt2 hS ?rgt2
        case ygt2 => (intro wz hz; have p0 : wz.cell? ⟨g, 0, none⟩ = some (.map (some b1)) := (TBC.out.below hz).cell1; go_simp <;> with_reducible rfl)
        simp only [List.setIfInBounds_toArray, List.set_cons_zero, List.set_cons_succ]
        refine takeH (i := 3) (d := 60) (v := ?vgt3) rfl (by kernel_rfl) (by kernel_rfl) (by kernel_rfl) (fun _ _ _ h => h) rfl (by rfl) ?ygt3 hS ?rgt3
        case ygt3 => (intro wz hz; have p0 : wz.cell? ⟨g, 0, none⟩ = some (.map (some b1)) := (TBC.out.below hz).cell1; go_simp <;> with_reducible rfl)
        simp only [List.setIfInBounds_toArray, List.set_cons_zero, List.set_cons_succ]
        refine takeH (i := 4) (d := 61) (v := rsV r) rfl (by kernel_rfl) (by kernel_rfl) (by kernel_rfl) (fun _ _ _ h => h) rfl (by rfl) ?ygt4 hS ?rgt4
        case ygt4 => (intro wz hz; have p0 : wz.cell? ⟨g, 0, none⟩ = some (.map (some b1)) := (TBC.out.below hz).cell1; exact exec_load_at 33 (.tmp 3) rfl r3 rfl _ 2 strR rfl (A3C.out.under hz A3C.out.lt))
        simp only [List.setIfInBounds_toArray, List.set_cons_zero, List.set_cons_succ]
        refine takeH (i := 5) (d := 62) (v := thV (.slice A1 n1 c1) (.slice A2 n2 c2)) rfl (by kernel_rfl) (by kernel_rfl) (by kernel_rfl) (fun _ _ _ h => h) rfl (by rfl) ?ygt5 hS ?rgt5
        case ygt5 => (intro wz hz; have p0 : wz.cell? ⟨g, 0, none⟩ = some (.map (some b1)) := (TBC.out.below hz).cell1; exact exec_look (.tmp 60) (.tmp 61) false rfl keyT_res Tryz.underlying57 (thV nilS nilS) zero_th rfl (TBC.out.below hz).ms.m1 r rfl HOK.out _ (by rw [(TBC.out.below hz).look1, HV1.out, HV2.out]))
        simp only [List.setIfInBounds_toArray, List.set_cons_zero, List.set_cons_succ]
        refine takeH (i := 6) (d := 63) (v := .slice A1 n1 c1) rfl (by kernel_rfl) (by kernel_rfl) (by kernel_rfl) (fun _ _ _ h => h) rfl (by rfl) ?ygt6 hS ?rgt6
        case ygt6 => (intro wz hz; have p0 : wz.cell? ⟨g, 0, none⟩ = some (.map (some b1)) := (TBC.out.below hz).cell1; have hf := field_th 0 (by omega) (.slice A1 n1 c1) (.slice A2 n2 c2) wz; unfold thV at hf ⊢; go_simp <;> with_reducible rfl)
        simp only [List.setIfInBounds_toArray, List.set_cons_zero, List.set_cons_succ]
        refine takeH (i := 7) (d := 64) (v := ?vgt7) rfl (by kernel_rfl) (by kernel_rfl) (by kernel_rfl) (fun _ _ _ h => h) rfl (by rfl) ?ygt7 hS ?rgt7
        case ygt7 => (intro wz hz; have p0 : wz.cell? ⟨g, 0, none⟩ = some (.map (some b1)) := (TBC.out.below hz).cell1; go_simp <;> with_reducible rfl)
        simp only [List.setIfInBounds_toArray, List.set_cons_zero, List.set_cons_succ]
        refine takeH (i := 8) (d := 65) (v := ?vgt8) rfl (by kernel_rfl) (by kernel_rfl) (by kernel_rfl) (fun _ _ _ h => h) rfl (by rfl) ?ygt8 hS ?rgt8
        case ygt8 => (intro wz hz; have p0 : wz.cell? ⟨g, 0, none⟩ = some (.map (some b1)) := (TBC.out.below hz).cell1; go_simp <;> with_reducible rfl)
        simp only [List.setIfInBounds_toArray, List.set_cons_zero, List.set_cons_succ]
        refine wpAnyH_done (by kernel_rfl) ?_ _
        clear hS
        obtain ⟨wd, hwd⟩ : ∃ wd, wd = wc.drew := ⟨_, rfl⟩
        rw [← hwd]
        have HBD := Lib.hid (show Below wr.heap.size wr wd from hwd ▸ HBC.out.drew)
        clear hwd
        have TRD := Lib.hid (TR.out.below HBD.out)
        have A3D := Lib.hid (A3.out.under HBD.out A3.out.lt)
        go_upto_region 11 with fail
        refine wp_region_held_drew (S := fun wz => At wz g 61 (tabA b1 b2 b3) ∧ At wz r3 33 (rsA r)) (by kernel_rfl) ⟨TRD.out.gt, A3D.out⟩ (fun hS => ?_)
        refine takeH (i := 0) (d := 66) (v := ?vge0) rfl (by kernel_rfl) (by kernel_rfl) (by kernel_rfl) (fun _ _ _ h => h) rfl (by rfl) ?yge0 hS ?rge0
        case yge0 => (intro wz hz; have p0 : wz.cell? ⟨g, 0, none⟩ = some (.map (some b1)) := hz.1.cell 0; go_simp <;> with_reducible rfl)
        simp only [List.setIfInBounds_toArray, List.set_cons_zero, List.set_cons_succ]
        refine takeH (i := 1) (d := 67) (v := ?vge1) rfl (by kernel_rfl) (by kernel_rfl) (by kernel_rfl) (fun _ _ _ h => h) rfl (by rfl) ?yge1 hS ?rge1
        case yge1 => (intro wz hz; have p0 : wz.cell? ⟨g, 0, none⟩ = some (.map (some b1)) := hz.1.cell 0; go_simp <;> with_reducible rfl)
        simp only [List.setIfInBounds_toArray, List.set_cons_zero, List.set_cons_succ]
        refine takeH (i := 2) (d := 68) (v := ?vge2) rfl (by kernel_rfl) (by kernel_rfl) (by kernel_rfl) (fun _ _ _ h => h) rfl (by rfl) ?yge2 hS ?rge2
        case yge2 => (intro wz hz; have p0 : wz.cell? ⟨g, 0, none⟩ = some (.map (some b1)) := hz.1.cell 0; go_simp <;> with_reducible rfl)
        simp only [List.setIfInBounds_toArray, List.set_cons_zero, List.set_cons_succ]
        refine takeH (i := 3) (d := 69) (v := ?vge3) rfl (by kernel_rfl) (by kernel_rfl) (by kernel_rfl) (fun _ _ _ h => h) rfl (by rfl) ?yge3 hS ?rge3
        case yge3 => (intro wz hz; have p0 : wz.cell? ⟨g, 0, none⟩ = some (.map (some b1)) := hz.1.cell 0; go_simp <;> with_reducible rfl)
        simp only [List.setIfInBounds_toArray, List.set_cons_zero, List.set_cons_succ]
        refine takeH (i := 4) (d := 70) (v := rsV r) rfl (by kernel_rfl) (by kernel_rfl) (by kernel_rfl) (fun _ _ _ h => h) rfl (by rfl) ?yge4 hS ?rge4
        case yge4 => (intro wz hz; have p0 : wz.cell? ⟨g, 0, none⟩ = some (.map (some b1)) := hz.1.cell 0; exact exec_load_at 33 (.tmp 3) rfl r3 rfl _ 2 strR rfl hz.2)
        simp only [List.setIfInBounds_toArray, List.set_cons_zero, List.set_cons_succ]
        refine wpAnyH_ready (rs := [5]) (by kernel_rfl) (by simp) ?_
        refine AllReadyH.cons rfl (fun K hK => ?_) AllReadyH.nil
        rw [if_pos (by rfl)]
        refine wp_mapDrop (.tmp 69) (.tmp 70) rfl rfl keyT_res Tryz.underlying57 rfl (TRD.out.below ((Below.refl _ wd).drew)).ms.m1 r rfl HOK.out ?_
        intro w9 hm9 hg9
        have TRD2 := Lib.hid ((TRD.out.below ((Below.refl _ wd).drew)).del1 r hm9 hg9)
        obtain ⟨es9, cl9, hes9, _⟩ := TRD.out.ms.m1
        have hS9 := (show At w9 g 61 (tabA b1 b2 b3) ∧ At w9 r3 33 (rsA r) from ⟨hS.1.grown hg9 (fun e => at_map TRD.out.gt hes9 (Option.some.inj e)), hS.2.grown hg9 (fun e => at_map A3D.out hes9 (Option.some.inj e))⟩)
        clear hm9 hes9
        refine hK.out _ _ (hS9) (fun hT => ?_)
        clear hK hS
        have hS := hT
        clear hT
        refine wpAnyH_done (by kernel_rfl) ?_ _
        clear hS hS9 hg9
        go_wp2_with fail
        go_ret
        have hee : endI s' r = { s' with th := upd s'.th r none } := by
          unfold endI
          rw [HHE.out]
          have : hh = [] := List.eq_nil_of_length_eq_zero (by rw [HN1E.out]; exact H10.out)
          rw [this]
          rfl
        have hfin := del_fin TRD2.out TB.out.n1 TB.out.n2
        refine ⟨_, rfl, ?_, ?_⟩
        · rw [HPE.out]
          have := own_mod HG.out.own hfin.choose_spec.2.2 (fun k hk => HFR.out k (by rw [HNF.out] at hk; exact hk))
          rw [HNF.out] at this ⊢
          exact own_base this HB.out.size
        · rw [HPE.out, hee]
          exact (hfin.step HXE.out HMOD.out).from HB.out
      · have e6 : ((n1 : Int) == 0) = false := by simp [h10]
        have H10 := Lib.hid h10
        clear h10
        refine wp_region_held_drew (S := Below wc.heap.size wc) (by kernel_rfl) ((Below.refl _ wc).drew) (fun hS => ?_)
        refine takeH (i := 0) (d := 57) (v := ?vgu0) rfl (by kernel_rfl) (by kernel_rfl) (by kernel_rfl) (fun _ _ _ h => h) rfl (by rfl) ?ygu0 hS ?rgu0
        case ygu0 => (intro wz hz; have p0 : wz.cell? ⟨g, 0, none⟩ = some (.map (some b1)) := (TBC.out.below hz).cell1; go_simp <;> with_reducible rfl)
        simp only [List.setIfInBounds_toArray, List.set_cons_zero, List.set_cons_succ]
        refine takeH (i := 1) (d := 58) (v := ?vgu1) rfl (by kernel_rfl) (by kernel_rfl) (by kernel_rfl) (fun _ _ _ h => h) rfl (by rfl) ?ygu1 hS ?rgu1
        case ygu1 => (intro wz hz; have p0 : wz.cell? ⟨g, 0, none⟩ = some (.map (some b1)) := (TBC.out.below hz).cell1; go_simp <;> with_reducible rfl)
        simp only [List.setIfInBounds_toArray, List.set_cons_zero, List.set_cons_succ]
        refine takeH (i := 2) (d := 59) (v := ?vgu2) rfl (by kernel_rfl) (by kernel_rfl) (by kernel_rfl) (fun _ _ _ h => h) rfl (by rfl) ?ygu2 hS ?rgu2
        case ygu2 => (intro wz hz; have p0 : wz.cell? ⟨g, 0, none⟩ = some (.map (some b1)) := (TBC.out.below hz).cell1; go_simp <;> with_reducible rfl)
        simp only [List.setIfInBounds_toArray, List.set_cons_zero, List.set_cons_succ]
        refine takeH (i := 3) (d := 60) (v := ?vgu3) rfl (by kernel_rfl) (by kernel_rfl) (by kernel_rfl) (fun _ _ _ h => h) rfl (by rfl) ?ygu3 hS ?rgu3
        case ygu3 => (intro wz hz; have p0 : wz.cell? ⟨g, 0, none⟩ = some (.map (some b1)) := (TBC.out.below hz).cell1; go_simp <;> with_reducible rfl)
        simp only [List.setIfInBounds_toArray, List.set_cons_zero, List.set_cons_succ]
        refine takeH (i := 4) (d := 61) (v := rsV r) rfl (by kernel_rfl) (by kernel_rfl) (by kernel_rfl) (fun _ _ _ h => h) rfl (by rfl) ?ygu4 hS ?rgu4
        case ygu4 => (intro wz hz; have p0 : wz.cell? ⟨g, 0, none⟩ = some (.map (some b1)) := (TBC.out.below hz).cell1; exact exec_load_at 33 (.tmp 3) rfl r3 rfl _ 2 strR rfl (A3C.out.under hz A3C.out.lt))
        simp only [List.setIfInBounds_toArray, List.set_cons_zero, List.set_cons_succ]
        refine takeH (i := 5) (d := 62) (v := thV (.slice A1 n1 c1) (.slice A2 n2 c2)) rfl (by kernel_rfl) (by kernel_rfl) (by kernel_rfl) (fun _ _ _ h => h) rfl (by rfl) ?ygu5 hS ?rgu5
        case ygu5 => (intro wz hz; have p0 : wz.cell? ⟨g, 0, none⟩ = some (.map (some b1)) := (TBC.out.below hz).cell1; exact exec_look (.tmp 60) (.tmp 61) false rfl keyT_res Tryz.underlying57 (thV nilS nilS) zero_th rfl (TBC.out.below hz).ms.m1 r rfl HOK.out _ (by rw [(TBC.out.below hz).look1, HV1.out, HV2.out]))
        simp only [List.setIfInBounds_toArray, List.set_cons_zero, List.set_cons_succ]
        refine takeH (i := 6) (d := 63) (v := .slice A1 n1 c1) rfl (by kernel_rfl) (by kernel_rfl) (by kernel_rfl) (fun _ _ _ h => h) rfl (by rfl) ?ygu6 hS ?rgu6
        case ygu6 => (intro wz hz; have p0 : wz.cell? ⟨g, 0, none⟩ = some (.map (some b1)) := (TBC.out.below hz).cell1; have hf := field_th 0 (by omega) (.slice A1 n1 c1) (.slice A2 n2 c2) wz; unfold thV at hf ⊢; go_simp <;> with_reducible rfl)
        simp only [List.setIfInBounds_toArray, List.set_cons_zero, List.set_cons_succ]
        refine takeH (i := 7) (d := 64) (v := ?vgu7) rfl (by kernel_rfl) (by kernel_rfl) (by kernel_rfl) (fun _ _ _ h => h) rfl (by rfl) ?ygu7 hS ?rgu7
        case ygu7 => (intro wz hz; have p0 : wz.cell? ⟨g, 0, none⟩ = some (.map (some b1)) := (TBC.out.below hz).cell1; go_simp <;> with_reducible rfl)
        simp only [List.setIfInBounds_toArray, List.set_cons_zero, List.set_cons_succ]
        refine takeH (i := 8) (d := 65) (v := ?vgu8) rfl (by kernel_rfl) (by kernel_rfl) (by kernel_rfl) (fun _ _ _ h => h) rfl (by rfl) ?ygu8 hS ?rgu8
        case ygu8 => (intro wz hz; have p0 : wz.cell? ⟨g, 0, none⟩ = some (.map (some b1)) := (TBC.out.below hz).cell1; go_simp <;> with_reducible rfl)
        simp only [List.setIfInBounds_toArray, List.set_cons_zero, List.set_cons_succ]
        refine wpAnyH_done (by kernel_rfl) ?_ _
        clear hS
        go_wp2_with fail
        go_ret
        have hee : endI s' r = s' := by
          unfold endI
          rw [HHE.out, if_neg]
          intro h
          have : hh = [] := by simpa using h
          rw [this] at HN1E
          exact H10.out HN1E.out.symm
        refine ⟨_, rfl, ?_, ?_⟩
        · rw [HPE.out]
          have := own_mod HOW.out (Mod.of_below ((Below.refl _ wc).drew) (fun _ => False)) (fun _ _ h => h)
          rw [HNF.out] at this ⊢
          exact own_base this HB.out.size
        · rw [HPE.out, hee]
          exact (HTW.out.below ((Below.refl _ wc).drew)).from HB.out
end Go.Proofs.YthbifccankfngaaGreatDoor
