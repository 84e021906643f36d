/-
  The law LockSafe whatever came in.
  Conditions: none beyond those that each theorem names.
-/
import Derived.Test.YthbifccankfngaaGreatDoorLC0Q
import Derived.Test.YthbifccankfngaaGreatDoorL3Q
namespace Go.Proofs.YthbifccankfngaaGreatDoor
open Go.RowKit Go.Shelf
attribute [local go_sem] Oper.semAt_some
set_option maxRecDepth 20000

section
variable {w0 z : World} {g b4 k : Nat} {X : Nat → Prop} {s : TS} {A1 A2 : Option Addr} {n1 c1 n2 c2 : Nat} {u : TR}
theorem things_l (h : LdS w0 g b4 k X s A1 n1 c1 A2 n2 c2 u z) (hk : k ≤ 200) :
    Calls Tryz.prog 11 #[.pointer (some ⟨g, 0, none⟩)] z (fun e z' => ∃ A n c, ∃ l : List Rs, e = .returned (.slice A n c) ∧ l.length = n ∧ n ≤ 200 ∧ (∀ r ∈ l, (s.th r).isSome = true ∧ RsOk r) ∧ Lz (fun _ => False) z' 2 A n (rsL l) ∧ Below z.heap.size z z') := by
  refine (Things_any X g s z h.two.tt 200 (fun ks hn ha => h.two.rel.count (Nat.le_trans h.two.sz hk) ks hn ha) (by omega)).mono ?_
  rintro e z' ⟨v, l, rfl, ⟨h1, h2⟩, ho, hb⟩
  obtain ⟨A, c, rfl, _⟩ := own_slice ho
  exact ⟨A, l.length, c, l, rfl, rfl, h.two.rel.count (Nat.le_trans h.two.sz hk) l (rising_nodup h1) (fun a ha => (h2 a).1 ha), fun r hr => ⟨(h2 r).1 hr, h.two.rel.ok_of h.two.ok ((h2 r).1 hr)⟩, Lz.of_own ho (fun _ h => h.elim), hb⟩
theorem LdS.smS (h : LdS w0 g b4 k X s A1 n1 c1 A2 n2 c2 u z) (hk : k ≤ 200) : SmS s 100000 := (h.two.rel.sm (Nat.le_trans h.two.sz hk)).mono (by omega)
theorem holders_l (h : LdS w0 g b4 k X s A1 n1 c1 A2 n2 c2 u z) (hk : k ≤ 200) (r : Rs) (hr : RsOk r) (n : Nat) (hn : (s.at r).1.length = n) :
    Calls Tryz.prog 13 #[.pointer (some ⟨g, 0, none⟩), .agg (rsA r)] z (fun e z' => ∃ A c, e = .returned (.slice A n c) ∧ Lz (fun _ => False) z' 2 A n (cmL (s.at r).1) ∧ Below z.heap.size z z') := by
  refine (Holders_any X g s r z h.two.tt hr (h.smS hk)).mono ?_
  rintro e z' ⟨A, c, rfl, ho, hb⟩
  rw [hn] at ho ⊢
  exact ⟨A, c, rfl, Lz.of_own ho (fun _ h => h.elim), hb⟩
theorem queue_l (h : LdS w0 g b4 k X s A1 n1 c1 A2 n2 c2 u z) (hk : k ≤ 200) (r : Rs) (hr : RsOk r) (n : Nat) (hn : (s.at r).2.length = n) :
    Calls Tryz.prog 14 #[.pointer (some ⟨g, 0, none⟩), .agg (rsA r)] z (fun e z' => ∃ A c, e = .returned (.slice A n c) ∧ Lz (fun _ => False) z' 2 A n (cmL (s.at r).2) ∧ Below z.heap.size z z') := by
  refine (Queue_any X g s r z h.two.tt hr (h.smS hk)).mono ?_
  rintro e z' ⟨A, c, rfl, ho, hb⟩
  rw [hn] at ho ⊢
  exact ⟨A, c, rfl, Lz.of_own ho (fun _ h => h.elim), hb⟩
end
set_option maxHeartbeats 12800000 in
theorem safe_small (AO : Option Addr) (N cO : Nat) (os : List Opx) (w : World) (hO : OZ w AO N os) (hi : ∀ o ∈ os, OpOk o) (hT : Tab w) (hN60 : N ≤ 60) :
    Calls Tryz.prog 4 #[.slice AO N cO] w (RetB w (.bool true)) := by
  have d1 : decide ((60 : Int) < (N : Int)) = false := by simp; omega
  have HO := Lib.hid hO
  have HI := Lib.hid hi
  have HTB := Lib.hid hT
  clear hO hi hT
  go_enter Tryz.func4, Tryz.ntmps4
  go_wp2_with fail
  refine (new_any w).mono ?_
  rintro e z1 ⟨g, X0, rfl, hg, hx, hb⟩
  have HG := Lib.hid hg
  have HX := Lib.hid hx
  have HB := Lib.hid hb
  clear hg hx hb
  go_upto_region 7 with ((with_reducible show wpList _ _ _ (⟨none, _, _, _, _, _⟩ :: _) _ _); refine wpList_store_new 28 (.tmp 4) (.tmp 15) rfl rfl rfl z1.heap.size z1 rfl rfl (rtA none none 0 0 0 0) (rtA none none 0 0 0 0) 2 rfl strT rfl rfl (rtA_one _ _ _ _ _ _) rfl ?_)
  have hal : Below z1.heap.size z1 (z1.alloc (.cells (rtA none none 0 0 0 0) 28)) := (Below.refl _ z1).alloc (Nat.le_refl _) _
  have L0 := Lib.hid (lds_start HTB.out HG.out HX.out HB.out hal (At.new z1 _ _))
  have hwb := HB.out.size
  generalize z1.alloc (.cells (rtA none none 0 0 0 0) 28) = z2 at L0 ⊢
  generalize z1.heap.size = b4 at L0 hwb ⊢
  clear hal HG HX HB
  go_wp2_with fail
  go_loopw [5] (fun i z => LsL w g b4 N i z) (fun i _ => N - (intOf i).toNat)
  case atStart => exact ⟨0, X0, emptyS, none, 0, 0, none, 0, 0, ⟨[], []⟩, Nat.zero_le _, rfl, rfl, L0⟩
  case round =>
    clear L0
    obtain ⟨k, X, s, A1, n1, c1, A2, n2, c2, u, hk, _, rfl, HL⟩ := hrel
    by_cases hlt : k < N
    · obtain ⟨bO, oO, hl, rfl, hbO, hr⟩ := HO.out.at hlt
      obtain ⟨o, ho⟩ : ∃ o, os[k] = o := ⟨_, rfl⟩
      have HOK : Hid (OpOk o) := ho ▸ HI.out _ (List.getElem_mem hl)
      rw [ho] at hr
      have R0 := Lib.hid hr
      have hbr : bO < wr.heap.size := Nat.lt_of_lt_of_le hbO HL.out.low.size
      have RD : Hid (wr.drew.rangeAt bO (oO + k * 5) (opV o)) := pl_rangeAt_block R0.out (HL.out.low.drew.block bO hbO)
      have C0 := Lib.hid ((Below.refl wr.heap.size wr).drew)
      have A4D := Lib.hid (HL.out.below C0.out).box
      have HDO := Lib.hid (do_ready HL.out (by omega) o HOK.out)
      clear hr ho
      go_upto_region 10 with fail
      refine wp_region_held_drew (S := fun wz => wz.rangeAt bO (oO + k * 5) (opV o)) (by kernel_rfl) RD.out (fun hS => ?_)
      refine takeH (i := 0) (d := 23) (v := ?vab0) rfl (by kernel_rfl) (by kernel_rfl) (by kernel_rfl) (fun _ _ _ h => h) rfl (by rfl) ?yab0 hS ?rab0
      case yab0 => (intro wz hz; go_simp <;> with_reducible rfl)
      simp only [List.setIfInBounds_toArray, List.set_cons_zero, List.set_cons_succ]
      refine takeH (i := 2) (d := 25) (v := ?vab2) rfl (by kernel_rfl) (by kernel_rfl) (by kernel_rfl) (fun _ _ _ h => h) rfl (by rfl) ?yab2 hS ?rab2
      case yab2 => (intro wz hz; go_simp <;> with_reducible rfl)
      simp only [List.setIfInBounds_toArray, List.set_cons_zero, List.set_cons_succ]
      refine takeH (i := 3) (d := 26) (v := ?vab3) rfl (by kernel_rfl) (by kernel_rfl) (by kernel_rfl) (fun _ _ _ h => h) rfl (by rfl) ?yab3 hS ?rab3
      case yab3 => (intro wz hz; go_simp <;> with_reducible rfl)
      simp only [List.setIfInBounds_toArray, List.set_cons_zero, List.set_cons_succ]
      refine takeH (i := 4) (d := 27) (v := ?vab4) rfl (by kernel_rfl) (by kernel_rfl) (by kernel_rfl) (fun _ _ _ h => h) rfl (by rfl) ?yab4 hS ?rab4
      case yab4 => (intro wz hz; go_simp <;> with_reducible rfl)
      simp only [List.setIfInBounds_toArray, List.set_cons_zero, List.set_cons_succ]
      refine takeH (i := 5) (d := 28) (v := .agg (opA o)) rfl (by kernel_rfl) (by kernel_rfl) (by kernel_rfl) (fun _ _ _ h => h) rfl (by rfl) ?yab5 hS ?rab5
      case yab5 => (intro wz hz; exact exec_load_in 35 (.tmp 27) rfl bO (oO + k * 5) rfl (opV o) 5 strOp rfl hz)
      simp only [List.setIfInBounds_toArray, List.set_cons_zero, List.set_cons_succ]
      refine wpAnyH_ready (rs := [1]) (by kernel_rfl) (by simp) ?_
      refine AllReadyH.cons rfl (fun K hK => ?_) AllReadyH.nil
      rw [if_pos (by rfl)]
      refine wp_exec 24 rfl (exec_load_at 28 (.tmp 4) rfl b4 rfl (rtA A1 A2 n1 c1 n2 c2) 2 strT rfl A4D.out) ?_
      refine hK.out _ _ (hS) (fun hT => ?_)
      clear hK hS
      have hS := hT
      clear hT
      refine wpAnyH_ready (rs := [6]) (by kernel_rfl) (by simp) ?_
      refine AllReadyH.cons rfl (fun K hK => ?_) AllReadyH.nil
      go_simp
      refine (HDO.out _ C0.out).mono ?_
      rintro e y ⟨X', s', B1, m1, d1, B2, m2, d2, u', rfl, h2, q1, q2, q3, q4⟩
      have H2 := Lib.hid h2
      have Q1 := Lib.hid q1
      have Q2 := Lib.hid q2
      have Q3 := Lib.hid q3
      have Q4 := Lib.hid q4
      have RY : Hid (y.rangeAt bO (oO + k * 5) (opV o)) := pl_rangeAt_block R0.out (q1.block bO hbO)
      clear h2 q1 q2 q3 q4
      refine hK.out _ _ (RY.out) (fun hT => ?_)
      clear hK hS
      have hS := hT
      clear hT
      refine takeH (i := 7) (d := 22) (v := ?vabb7) rfl (by kernel_rfl) (by kernel_rfl) (by kernel_rfl) (fun _ _ _ h => h) rfl (by rfl) ?yabb7 hS ?rabb7
      case yabb7 => (intro wz hz; go_simp <;> with_reducible rfl)
      simp only [List.setIfInBounds_toArray, List.set_cons_zero, List.set_cons_succ]
      refine takeH (i := 8) (d := 30) (v := ?vabb8) rfl (by kernel_rfl) (by kernel_rfl) (by kernel_rfl) (fun _ _ _ h => h) rfl (by rfl) ?yabb8 hS ?rabb8
      case yabb8 => (intro wz hz; go_simp <;> with_reducible rfl)
      simp only [List.setIfInBounds_toArray, List.set_cons_zero, List.set_cons_succ]
      refine takeH (i := 9) (d := 31) (v := ?vabb9) rfl (by kernel_rfl) (by kernel_rfl) (by kernel_rfl) (fun _ _ _ h => h) rfl (by rfl) ?yabb9 hS ?rabb9
      case yabb9 => (intro wz hz; go_simp <;> with_reducible rfl)
      simp only [List.setIfInBounds_toArray, List.set_cons_zero, List.set_cons_succ]
      refine wpAnyH_ready (rs := [10]) (by kernel_rfl) (by simp) ?_
      refine AllReadyH.cons rfl (fun K hK => ?_) AllReadyH.nil
      rw [if_pos (by rfl)]
      refine wp_store_at 28 (.tmp 4) (.tmp 30) rfl rfl b4 rfl (rtA B1 B2 m1 d1 m2 d2) (rtA A1 A2 n1 c1 n2 c2) 2 rfl strT rfl rfl (rtA_one _ _ _ _ _ _) Q2.out ?_
      intro w9 ha9 hg9
      have HL9 := Lib.hid (LdS.put HTB.out hwb H2.out Q1.out Q2.out Q3.out Q4.out ha9 hg9)
      have R9 : Hid (w9.rangeAt bO (oO + k * 5) (opV o)) := pl_rangeAt_block R0.out (HL9.out.low.block bO hbO)
      clear ha9 hg9
      refine hK.out _ _ (R9.out) (fun hT => ?_)
      clear hK hS
      have hS := hT
      clear hT
      refine wpAnyH_done (by kernel_rfl) ?_ _
      clear hS R9 RY H2 Q1 Q2 Q3 Q4
      have hk200 : k + 1 ≤ 200 := by omega
      go_wp2_with fail
      refine (things_l HL9.out hk200).mono ?_
      rintro e y0 ⟨AT, nT, cT, lt, rfl, hlT, hnT, hst, hlz, hb0⟩
      have HLT := Lib.hid hlT
      have HST := Lib.hid hst
      have HLZ := Lib.hid hlz
      have HL0 := Lib.hid (HL9.out.below hb0)
      clear hlT hst hlz hb0 HL9
      go_wp2_with fail
      go_loopw [7] (fun i wr => ∃ j : Nat, j ≤ nT ∧ i = .int .i64 (j : Int) ∧ Hid (Below y0.heap.size y0 wr)) (fun i _ => nT - (intOf i).toNat)
      case atStart => exact ⟨0, Nat.zero_le _, rfl, Lib.hid (Below.refl _ _)⟩
      case round =>
        obtain ⟨j, hj, rfl, HR⟩ := hrel
        by_cases hlj : j < nT
        · obtain ⟨b7, o7, hl7, rfl, hb70, r7⟩ := HLZ.out.rs hlj
          obtain ⟨x, hxe⟩ : ∃ x, lt[j] = x := ⟨_, rfl⟩
          rw [hxe] at r7
          have hxs := HST.out _ (List.getElem_mem hl7)
          rw [hxe] at hxs
          have HXS := Lib.hid hxs.1
          have HXK := Lib.hid hxs.2
          have R7 : Hid (wr.rangeAt b7 (o7 + j * 2) (encR x)) := pl_rangeAt_block r7 (HR.out.block b7 hb70)
          have hb7 : b7 < wr.heap.size := Nat.lt_of_lt_of_le hb70 HR.out.size
          have HLR := Lib.hid (HL0.out.below HR.out)
          obtain ⟨nh, hnh⟩ : ∃ n, (s'.at x).1.length = n := ⟨_, rfl⟩
          obtain ⟨nq, hnq⟩ : ∃ n, (s'.at x).2.length = n := ⟨_, rfl⟩
          have hnh2 : nh ≤ 100000 := by rw [← hnh]; exact ((HLR.out.smS hk200).1 x).1
          have HNH := Lib.hid hnh
          have HNQ := Lib.hid hnq
          clear hnh hnq r7 hxe hxs
          go_upto_region 15 with fail
          refine wp_region_held_drew (S := Below wr.heap.size wr) (by kernel_rfl) ((Below.refl _ wr).drew) (fun hS => ?_)
          refine takeH (i := 0) (d := 40) (v := ?vsg0) rfl (by kernel_rfl) (by kernel_rfl) (by kernel_rfl) (fun _ _ _ h => h) rfl (by rfl) ?ysg0 hS ?rsg0
          case ysg0 => (intro wz hz; go_simp <;> with_reducible rfl)
          simp only [List.setIfInBounds_toArray, List.set_cons_zero, List.set_cons_succ]
          refine takeH (i := 1) (d := 41) (v := ?vsg1) rfl (by kernel_rfl) (by kernel_rfl) (by kernel_rfl) (fun _ _ _ h => h) rfl (by rfl) ?ysg1 hS ?rsg1
          case ysg1 => (intro wz hz; go_simp <;> with_reducible rfl)
          simp only [List.setIfInBounds_toArray, List.set_cons_zero, List.set_cons_succ]
          refine takeH (i := 2) (d := 42) (v := ?vsg2) rfl (by kernel_rfl) (by kernel_rfl) (by kernel_rfl) (fun _ _ _ h => h) rfl (by rfl) ?ysg2 hS ?rsg2
          case ysg2 => (intro wz hz; go_simp <;> with_reducible rfl)
          simp only [List.setIfInBounds_toArray, List.set_cons_zero, List.set_cons_succ]
          refine takeH (i := 3) (d := 43) (v := ?vsg3) rfl (by kernel_rfl) (by kernel_rfl) (by kernel_rfl) (fun _ _ _ h => h) rfl (by rfl) ?ysg3 hS ?rsg3
          case ysg3 => (intro wz hz; go_simp <;> with_reducible rfl)
          simp only [List.setIfInBounds_toArray, List.set_cons_zero, List.set_cons_succ]
          refine takeH (i := 4) (d := 44) (v := .agg (rsA x)) rfl (by kernel_rfl) (by kernel_rfl) (by kernel_rfl) (fun _ _ _ h => h) rfl (by rfl) ?ysg4 hS ?rsg4
          case ysg4 => (intro wz hz; exact exec_load_in 33 (.tmp 43) rfl b7 (o7 + j * 2) rfl (encR x) 2 strR rfl (pl_rangeAt_block R7.out (hz.block b7 hb7)))
          simp only [List.setIfInBounds_toArray, List.set_cons_zero, List.set_cons_succ]
          refine takeH (i := 6) (d := 46) (v := ?vsg6) rfl (by kernel_rfl) (by kernel_rfl) (by kernel_rfl) (fun _ _ _ h => h) rfl (by rfl) ?ysg6 hS ?rsg6
          case ysg6 => (intro wz hz; go_simp <;> with_reducible rfl)
          simp only [List.setIfInBounds_toArray, List.set_cons_zero, List.set_cons_succ]
          refine takeH (i := 7) (d := 47) (v := ?vsg7) rfl (by kernel_rfl) (by kernel_rfl) (by kernel_rfl) (fun _ _ _ h => h) rfl (by rfl) ?ysg7 hS ?rsg7
          case ysg7 => (intro wz hz; go_simp <;> with_reducible rfl)
          simp only [List.setIfInBounds_toArray, List.set_cons_zero, List.set_cons_succ]
          refine takeH (i := 8) (d := 48) (v := ?vsg8) rfl (by kernel_rfl) (by kernel_rfl) (by kernel_rfl) (fun _ _ _ h => h) rfl (by rfl) ?ysg8 hS ?rsg8
          case ysg8 => (intro wz hz; go_simp <;> with_reducible rfl)
          simp only [List.setIfInBounds_toArray, List.set_cons_zero, List.set_cons_succ]
          refine takeH (i := 9) (d := 49) (v := ?vsg9) rfl (by kernel_rfl) (by kernel_rfl) (by kernel_rfl) (fun _ _ _ h => h) rfl (by rfl) ?ysg9 hS ?rsg9
          case ysg9 => (intro wz hz; go_simp <;> with_reducible rfl)
          simp only [List.setIfInBounds_toArray, List.set_cons_zero, List.set_cons_succ]
          refine takeH (i := 10) (d := 50) (v := .agg (rsA x)) rfl (by kernel_rfl) (by kernel_rfl) (by kernel_rfl) (fun _ _ _ h => h) rfl (by rfl) ?ysg10 hS ?rsg10
          case ysg10 => (intro wz hz; exact exec_load_in 33 (.tmp 49) rfl b7 (o7 + j * 2) rfl (encR x) 2 strR rfl (pl_rangeAt_block R7.out (hz.block b7 hb7)))
          simp only [List.setIfInBounds_toArray, List.set_cons_zero, List.set_cons_succ]
          refine wpAnyH_ready (rs := [5]) (by kernel_rfl) (by simp) ?_
          refine AllReadyH.cons rfl (fun K hK => ?_) AllReadyH.nil
          go_simp
          refine (holders_l (HLR.out.below hS) hk200 x HXK.out nh HNH.out).mono ?_
          rintro e y1 ⟨D1, d1, rfl, hl1, hb⟩
          have L1 := Lib.hid hl1
          have Y1 := Lib.hid (hS.trans (hb.mono hS.size))
          clear hl1
          refine hK.out _ _ (Y1.out) (fun hT => ?_)
          clear hK hb hS
          have hS := hT
          clear hT
          refine wpAnyH_ready (rs := [11]) (by kernel_rfl) (by simp) ?_
          refine AllReadyH.cons rfl (fun K hK => ?_) AllReadyH.nil
          go_simp
          refine (queue_l (HLR.out.below hS) hk200 x HXK.out nq HNQ.out).mono ?_
          rintro e y2 ⟨D2, d2, rfl, hl2, hb⟩
          have L2 := Lib.hid hl2
          have L1b := Lib.hid (L1.out.below hb)
          have Y2 := Lib.hid (hS.trans (hb.mono hS.size))
          clear hl2
          refine hK.out _ _ (Y2.out) (fun hT => ?_)
          clear hK hb hS
          have hS := hT
          clear hT
          refine wpAnyH_ready (rs := [12]) (by kernel_rfl) (by simp) ?_
          refine AllReadyH.cons rfl (fun K hK => ?_) AllReadyH.nil
          go_simp
          refine (safe_any D1 D2 nh d1 nq d2 (s'.at x).1 (s'.at x).2 _ L1b.out L2.out (by omega) (fun i k hi hk => safe_pair HLR.out.two.rel x i k hi hk) (safe_held HLR.out.two.rel x HXS.out) (fun c hc => safe_first HLR.out.two.rel x c hc)).mono ?_
          rintro e y3 ⟨rfl, hb⟩
          have Y3 := Lib.hid (hS.trans (hb.mono hS.size))
          refine hK.out _ _ (Y3.out) (fun hT => ?_)
          clear hK hb hS
          have hS := hT
          clear hT
          refine takeH (i := 13) (d := 53) (v := ?vsg13) rfl (by kernel_rfl) (by kernel_rfl) (by kernel_rfl) (fun _ _ _ h => h) rfl (by rfl) ?ysg13 hS ?rsg13
          case ysg13 => (intro wz hz; go_simp <;> with_reducible rfl)
          simp only [List.setIfInBounds_toArray, List.set_cons_zero, List.set_cons_succ]
          refine wpAnyH_done (by kernel_rfl) ?_ _
          have HS3 := Lib.hid (HR.out.trans (hS.mono HR.out.size))
          clear hS Y1 Y2 Y3 L1 L2 L1b
          go_wp2_with fail
          exact ⟨⟨j + 1, by omega, by go_num, HS3⟩, by simp [intOf]; omega⟩
        · obtain rfl : j = nT := by omega
          have HL8 := Lib.hid (HL0.out.below HR.out)
          go_wp2_with fail
          exact ⟨⟨k + 1, X', s', B1, m1, d1, B2, m2, d2, u', by omega, rfl, by go_num, HL8⟩, by simp [intOf]; omega⟩
    · obtain rfl : k = N := by omega
      go_wp2_with fail
      refine (works_any wr (HL.out.two.tb)).mono ?_
      rintro e z9 ⟨rfl, hb9⟩
      have LW := Lib.hid (HL.out.low.trans (hb9.mono HL.out.low.size))
      clear hb9
      go_wp2_with fail
      go_ret
      exact ⟨rfl, LW.out⟩
set_option maxHeartbeats 1600000 in
theorem safe_big (AO : Option Addr) (N cO : Nat) (w : World) (hT : Tab w) (hN60 : 60 < N) : Calls Tryz.prog 4 #[.slice AO N cO] w (RetB w (.bool true)) := by
  have d1 : decide ((60 : Int) < (N : Int)) = true := by simp; omega
  have HW := Lib.hid (works_any w hT)
  go_enter Tryz.func4, Tryz.ntmps4
  go_wp2_with fail
  refine HW.out.mono ?_
  rintro e z9 ⟨rfl, hb9⟩
  have LW := Lib.hid hb9
  clear hb9
  go_wp2_with fail
  go_ret
  exact ⟨rfl, LW.out⟩
theorem safe_law (AO : Option Addr) (cO : Nat) (os : List Opx) (w : World) (hO : OZ w AO os.length os) (hi : ∀ o ∈ os, OpOk o) (hT : Tab w) : Calls Tryz.prog 4 #[.slice AO os.length cO] w (RetB w (.bool true)) := by
  by_cases h : os.length ≤ 60
  · exact safe_small AO _ cO os w hO hi hT h
  · exact safe_big AO _ cO w hT (by omega)
end Go.Proofs.YthbifccankfngaaGreatDoor
