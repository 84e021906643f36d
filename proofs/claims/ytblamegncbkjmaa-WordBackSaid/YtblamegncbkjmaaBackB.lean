/-
  WordBack: the first loop.
  Conditions: none.
-/
import Derived.Test.YtblamegncbkjmaaBackA
import Derived.Deep.RegionHeld
namespace Go.Proofs.Ytblamegncbkjmaa
open Go.RowKit

def PutsR (w : World) (fs : List Fl) (out i : Value) (wr : World) : Prop :=
  ∃ (j : Nat) (A : Option Addr) (n c : Nat), i = .int .i64 j ∧ j ≤ fs.length ∧ out = .slice A n c ∧ n ≤ 8 * j ∧
    Hid (wr.ownsRow w.heap.size 5 1 (.slice A n c) n (BC (encs (fs.take j)))) ∧ Hid (Below w.heap.size w wr) ∧ Hid (∀ f ∈ fs.take j, f.fits)

def TxS (b off j : Nat) (f : Fl) (w : World) : Prop :=
  w.cell? ⟨b, off + j * 4, none⟩ = some (.bool true) ∧ w.cell? ⟨b, off + j * 4 + 3, none⟩ = some (.string f.s)

def NxS (b off j : Nat) (f : Fl) (w : World) : Prop :=
  w.cell? ⟨b, off + j * 4, none⟩ = some (.bool false) ∧ w.cell? ⟨b, off + j * 4 + 2, none⟩ = some (.int .u64 f.n)

section
variable {P : Program} {ops : Array Oper} {Q : Exit → Act → World → Prop} {md : Region.Mode} {S : World → Prop}
/-- An operation that is carried out, taken first: its slot written out. -/
theorem takeH {i d : Nat} {oi : Oper} {v : Value} {fuel : Nat} {listed : Array Bool} {ts : Array Value} {ds : List Deferred} {w : World} (hi : ops[i]? = some oi)
    (hs : Region.noSelect ops = true) (hf : Region.free md ops listed i = true) (hr : (Region.ready md ops listed).contains i = true)
    (hQ : ∀ c a w, Q (.panic c) (a.put oi.dst v) w → Q (.panic c) a w) (hd : oi.dst = some d) (hw : Region.wanted oi (yielded ops ts) = true)
    (hy : ∀ w, S w → (execOp (Act.eval ⟨ts, ds⟩) oi).run P w = .ok (.value v) w) (hS : S w)
    (h : wpAnyH P md ops Q S fuel (listed.setIfInBounds i true) ⟨ts.setIfInBounds d v, ds⟩ w) : wpAnyH P md ops Q S (fuel + 1) listed ⟨ts, ds⟩ w := by
  refine wpAnyH_take hi hs hf hr hQ (Or.inl ⟨hw, hy⟩) hS ?_
  rw [hd]
  exact h
/-- An operation whose guard says no. -/
theorem skipH {i d : Nat} {oi : Oper} {fuel : Nat} {listed : Array Bool} {ts : Array Value} {ds : List Deferred} {w : World} (hi : ops[i]? = some oi)
    (hs : Region.noSelect ops = true) (hf : Region.free md ops listed i = true) (hr : (Region.ready md ops listed).contains i = true)
    (hQ : ∀ c a w, Q (.panic c) (a.put oi.dst undef) w → Q (.panic c) a w) (hd : oi.dst = some d) (hw : Region.wanted oi (yielded ops ts) = false) (hS : S w)
    (h : wpAnyH P md ops Q S fuel (listed.setIfInBounds i true) ⟨ts.setIfInBounds d undef, ds⟩ w) : wpAnyH P md ops Q S (fuel + 1) listed ⟨ts, ds⟩ w := by
  refine wpAnyH_take hi hs hf hr hQ (Or.inr ⟨hw, rfl⟩) hS ?_
  rw [hd]
  exact h
end

def GetsR (w1 : World) (g : Nat) (fs : List Fl) (i : Value) (wq : World) : Prop :=
  ∃ j : Nat, i = .int .i64 j ∧ j ≤ fs.length ∧ Hid (Rdr wq g (encs (fs.drop j)) false) ∧ Hid (Below g w1 wq) ∧ w1.heap.size ≤ wq.heap.size

set_option maxHeartbeats 4000000 in
set_option maxRecDepth 100000 in
theorem back_in (A0 : Option Addr) (c0 : Nat) (fs : List Fl) (w : World) (h0 : Fls w w.heap.size A0 fs) (hn0 : fs.length ≤ 30) :
    Calls Try.prog 5 #[.slice A0 fs.length c0] w fun e w' => e = .returned (.bool true) ∧ Below w.heap.size w w' := by
  have H0 := Lib.hid h0
  clear h0
  have d0 : decide ((30 : Int) < (fs.length : Int)) = false := by simp; omega
  go_enter Try.func5, Try.ntmps5
  go_wp2_with fail
  go_loopw [3, 4] (fun out i wr => PutsR w fs out i wr) (fun out i wr => fs.length - (intOf i).toNat)
  case atStart => exact ⟨0, none, 0, 0, rfl, Nat.zero_le _, rfl, by omega, Lib.hid (World.ownsRow_nil w _ _ _), Lib.hid (Below.refl _ _), Lib.hid (by simp)⟩
  case round =>
    obtain ⟨j, A, n, c, rfl, hj, rfl, hnj, hO, hB, hF⟩ := hrel
    by_cases hlt : j < fs.length
    · obtain ⟨b, off, rfl, hbB, fa0⟩ := H0.out.at_ j hlt
      have fa := fa0.under hB.out hbB
      have f0 := fa.c0
      have f1 := fa.c1
      have f2 := fa.c2
      have f3 := fa.c3
      have f8 := fa.z8
      have h64 := fa.z64
      have hes := encs_snoc fs j hlt
      have hmem : fs.take (j + 1) = fs.take j ++ [fs[j]] := by rw [List.take_succ_eq_append_getElem hlt]
      generalize fs[j] = f at *
      have HES := Lib.hid hes
      have HM := Lib.hid hmem
      clear fa fa0 hes hmem
      cases ht : f.tx with
      | false =>
        rw [ht] at f0
        have HT := Lib.hid ht
        clear ht
        go_wp2_with fail
        refine (f_put f HT.out h64 hO.out hB.out (by omega)).mono ?_
        rintro e w1 ⟨A1, n1, c1, rfl, hn1, ho1, hb1⟩
        have O1 := Lib.hid ho1
        have B1 := Lib.hid hb1
        have N1 := Lib.hid hn1
        clear ho1 hb1 hn1 f0 f1 f2 f3
        go_wp2_with fail
        have hfit : f.fits := fun h => by rw [HT.out] at h; cases h
        refine ⟨⟨j + 1, A1, n1, c1, by go_num, by omega, rfl, ?_, ?_, B1, ?_⟩, by simp [intOf]; omega⟩
        · have h1 := O1.out.1
          have h2 := hO.out.1
          rw [BC_length, List.length_append, f.enc_length hfit] at h1
          rw [BC_length] at h2
          have := f.k_hi
          omega
        · rw [HES.out]; exact O1
        · refine Lib.hid ?_
          rw [HM.out]
          intro g hg
          rcases List.mem_append.1 hg with hg | hg
          · exact hF.out g hg
          · rw [List.mem_singleton.1 hg]; exact hfit
      | true =>
        rw [ht] at f0
        have HT := Lib.hid ht
        clear ht
        by_cases hsz : f.s.size < f.k
        · have HS := Lib.hid hsz
          clear hsz
          go_wp2_with fail
          refine (f_text f HT.out HS.out hO.out hB.out (by omega)).mono ?_
          rintro e w1 ⟨A1, n1, c1, rfl, hn1, ho1, hb1⟩
          have O1 := Lib.hid ho1
          have B1 := Lib.hid hb1
          have N1 := Lib.hid hn1
          clear ho1 hb1 hn1 f0 f1 f2 f3
          go_wp2_with fail
          have hfit : f.fits := fun _ => HS.out
          refine ⟨⟨j + 1, A1, n1, c1, by go_num, by omega, rfl, ?_, ?_, B1, ?_⟩, by simp [intOf]; omega⟩
          · have h1 := O1.out.1
            have h2 := hO.out.1
            rw [BC_length, List.length_append, f.enc_length hfit] at h1
            rw [BC_length] at h2
            have := f.k_hi
            omega
          · rw [HES.out]; exact O1
          · refine Lib.hid ?_
            rw [HM.out]
            intro g hg
            rcases List.mem_append.1 hg with hg | hg
            · exact hF.out g hg
            · rw [List.mem_singleton.1 hg]; exact hfit
        · have HS := Lib.hid hsz
          clear hsz
          go_wp2_with fail
          refine (f_long f HS.out).mono ?_
          rintro e w1 ⟨rfl, rfl⟩
          go_wp2_with (go_at_call 7; refine (works_any _).mono ?_; rintro e w' ⟨rfl, hb⟩)
          go_ret
          exact ⟨rfl, hB.out.trans (hb.mono hB.out.size)⟩
    · obtain rfl : j = fs.length := by omega
      rw [List.take_of_length_le (Nat.le_refl _)] at hO hF
      have s1 := hB.out.size
      go_wp2_with fail
      refine (read_any wr.heap.size n c A (encs fs) wr (Lies.of_own hO.out) (Nat.le_refl _) (by omega)).mono ?_
      rintro e w1 ⟨g, rfl, hg, hr, hb⟩
      have R1 := Lib.hid hr
      have B1 := Lib.hid (hB.out.trans (hb.mono s1))
      have L1 := Lib.hid ((Lies.of_own hO.out).under hb)
      have g1 := hr.lt
      obtain ⟨hc2, hm2⟩ : n ≤ c ∧ c ≤ maxLen := by
        obtain ⟨_, _, e2, hc2, hm2⟩ := own_slice hO.out
        injection e2 with _ _ e3
        subst e3
        exact ⟨hc2, hm2⟩
      have gw : w.heap.size ≤ g := Nat.le_trans s1 hg
      have hlen : ∀ j, (encs (fs.drop j)).length ≤ 1000 := fun j => by
        have h1 := encs_len (fs.drop j) (fun f hf => hF.out f (List.mem_of_mem_drop hf))
        rw [List.length_drop] at h1
        omega
      clear hr hb
      go_wp2_with fail
      go_loopw [9] (fun i wq => GetsR w1 g fs i wq) (fun i wq => fs.length - (intOf i).toNat)
      case atStart => exact ⟨0, rfl, Nat.zero_le _, R1, Lib.hid (Below.refl _ _), Nat.le_refl _⟩
      case round =>
        obtain ⟨j, rfl, hj, hR, hBq, hsz⟩ := hrel
        by_cases hlt : j < fs.length
        · obtain ⟨b, off, rfl, hbB, fa0⟩ := H0.out.at_ j hlt
          have fa := (fa0.under B1.out hbB).under hBq.out (by omega)
          have f0 := fa.c0
          have f1 := fa.c1
          have f2 := fa.c2
          have f3 := fa.c3
          have f8 := fa.z8
          have h64 := fa.z64
          have hed := encs_drop fs j hlt
          have hfit := hF.out _ (List.getElem_mem hlt)
          generalize fs[j] = f at *
          have HED := Lib.hid hed
          have HFT := Lib.hid hfit
          clear fa fa0 hed hfit
          cases ht : f.tx with
          | true =>
            rw [ht] at f0
            have HT := Lib.hid ht
            clear ht
            rw [HED.out] at hR
            have hgb : b < g := by omega
            have FR := Lib.hid (f_rtext (w := wr.drew) f HT.out HFT.out (hR.out.kept fun _ _ => rfl) (by rw [← HED.out]; exact hlen j))
            go_wp2_with fail
            have hj0 : (0 : Int) ≤ (j : Int) := by omega
            have hj1 : (j : Int) < (fs.length : Int) := by omega
            have hbeq : (f.s.toList == f.s.toList) = true := beq_self_eq_true _
            refine wp_region_held_drew (S := TxS b off j f) (by kernel_rfl) ⟨f0, f3⟩ (fun hS => ?_)
            refine takeH (i := 0) (d := 77) (v := ?v0) rfl (by kernel_rfl) (by kernel_rfl) (by kernel_rfl) (fun _ _ _ h => h) rfl (by rfl) ?y0 hS ?r0
            case y0 => (intro wz hz; obtain ⟨hz0, hz1⟩ := hz; go_simp <;> with_reducible rfl)
            simp only [List.setIfInBounds_toArray, List.set_cons_zero, List.set_cons_succ]
            refine takeH (i := 1) (d := 78) (v := ?v1) rfl (by kernel_rfl) (by kernel_rfl) (by kernel_rfl) (fun _ _ _ h => h) rfl (by rfl) ?y1 hS ?r1
            case y1 => (intro wz hz; obtain ⟨hz0, hz1⟩ := hz; go_simp <;> with_reducible rfl)
            simp only [List.setIfInBounds_toArray, List.set_cons_zero, List.set_cons_succ]
            refine takeH (i := 2) (d := 79) (v := ?v2) rfl (by kernel_rfl) (by kernel_rfl) (by kernel_rfl) (fun _ _ _ h => h) rfl (by rfl) ?y2 hS ?r2
            case y2 => (intro wz hz; obtain ⟨hz0, hz1⟩ := hz; go_simp <;> with_reducible rfl)
            simp only [List.setIfInBounds_toArray, List.set_cons_zero, List.set_cons_succ]
            refine takeH (i := 3) (d := 80) (v := ?v3) rfl (by kernel_rfl) (by kernel_rfl) (by kernel_rfl) (fun _ _ _ h => h) rfl (by rfl) ?y3 hS ?r3
            case y3 => (intro wz hz; obtain ⟨hz0, hz1⟩ := hz; go_simp <;> with_reducible rfl)
            simp only [List.setIfInBounds_toArray, List.set_cons_zero, List.set_cons_succ]
            refine takeH (i := 4) (d := 81) (v := ?v4) rfl (by kernel_rfl) (by kernel_rfl) (by kernel_rfl) (fun _ _ _ h => h) rfl (by rfl) ?y4 hS ?r4
            case y4 => (intro wz hz; obtain ⟨hz0, hz1⟩ := hz; go_simp <;> with_reducible rfl)
            simp only [List.setIfInBounds_toArray, List.set_cons_zero, List.set_cons_succ]
            refine takeH (i := 5) (d := 82) (v := ?v5) rfl (by kernel_rfl) (by kernel_rfl) (by kernel_rfl) (fun _ _ _ h => h) rfl (by rfl) ?y5 hS ?r5
            case y5 => (intro wz hz; obtain ⟨hz0, hz1⟩ := hz; go_simp <;> with_reducible rfl)
            simp only [List.setIfInBounds_toArray, List.set_cons_zero, List.set_cons_succ]
            refine takeH (i := 6) (d := 83) (v := ?v6) rfl (by kernel_rfl) (by kernel_rfl) (by kernel_rfl) (fun _ _ _ h => h) rfl (by rfl) ?y6 hS ?r6
            case y6 => (intro wz hz; obtain ⟨hz0, hz1⟩ := hz; go_simp <;> with_reducible rfl)
            simp only [List.setIfInBounds_toArray, List.set_cons_zero, List.set_cons_succ]
            refine takeH (i := 7) (d := 84) (v := ?v7) rfl (by kernel_rfl) (by kernel_rfl) (by kernel_rfl) (fun _ _ _ h => h) rfl (by rfl) ?y7 hS ?r7
            case y7 => (intro wz hz; obtain ⟨hz0, hz1⟩ := hz; go_simp <;> with_reducible rfl)
            simp only [List.setIfInBounds_toArray, List.set_cons_zero, List.set_cons_succ]
            refine takeH (i := 9) (d := 86) (v := ?v9) rfl (by kernel_rfl) (by kernel_rfl) (by kernel_rfl) (fun _ _ _ h => h) rfl (by rfl) ?y9 hS ?r9
            case y9 => (intro wz hz; obtain ⟨hz0, hz1⟩ := hz; go_simp <;> with_reducible rfl)
            simp only [List.setIfInBounds_toArray, List.set_cons_zero, List.set_cons_succ]
            refine takeH (i := 10) (d := 87) (v := ?v10) rfl (by kernel_rfl) (by kernel_rfl) (by kernel_rfl) (fun _ _ _ h => h) rfl (by rfl) ?y10 hS ?r10
            case y10 => (intro wz hz; obtain ⟨hz0, hz1⟩ := hz; go_simp <;> with_reducible rfl)
            simp only [List.setIfInBounds_toArray, List.set_cons_zero, List.set_cons_succ]
            refine takeH (i := 11) (d := 88) (v := ?v11) rfl (by kernel_rfl) (by kernel_rfl) (by kernel_rfl) (fun _ _ _ h => h) rfl (by rfl) ?y11 hS ?r11
            case y11 => (intro wz hz; obtain ⟨hz0, hz1⟩ := hz; go_simp <;> with_reducible rfl)
            simp only [List.setIfInBounds_toArray, List.set_cons_zero, List.set_cons_succ]
            refine takeH (i := 12) (d := 89) (v := ?v12) rfl (by kernel_rfl) (by kernel_rfl) (by kernel_rfl) (fun _ _ _ h => h) rfl (by rfl) ?y12 hS ?r12
            case y12 => (intro wz hz; obtain ⟨hz0, hz1⟩ := hz; go_simp <;> with_reducible rfl)
            simp only [List.setIfInBounds_toArray, List.set_cons_zero, List.set_cons_succ]
            refine takeH (i := 13) (d := 90) (v := ?v13) rfl (by kernel_rfl) (by kernel_rfl) (by kernel_rfl) (fun _ _ _ h => h) rfl (by rfl) ?y13 hS ?r13
            case y13 => (intro wz hz; obtain ⟨hz0, hz1⟩ := hz; go_simp <;> with_reducible rfl)
            simp only [List.setIfInBounds_toArray, List.set_cons_zero, List.set_cons_succ]
            refine wpAnyH_ready (rs := [8]) (by kernel_rfl) (by simp) ?_
            refine AllReadyH.cons rfl (fun K hK => ?_) AllReadyH.nil
            go_simp
            refine FR.out.mono ?_
            rintro e wx ⟨rfl, hrx, hgx⟩
            have hbw : b < wr.heap.size := by omega
            have fx0 := (World.cell?_of_block (w := wr.drew) (hgx.block b hbw (by simp; omega))).trans f0
            have fx3 := (World.cell?_of_block (w := wr.drew) (hgx.block b hbw (by simp; omega))).trans f3
            have RX := Lib.hid hrx
            clear hrx
            refine hK.out _ _ ⟨fx0, fx3⟩ (fun hT => ?_)
            clear hK
            refine takeH (i := 14) (d := 91) (v := ?v14) rfl (by kernel_rfl) (by kernel_rfl) (by kernel_rfl) (fun _ _ _ h => h) rfl (by rfl) ?y14 hT ?r14
            case y14 => (intro wz hz; obtain ⟨hz0, hz1⟩ := hz; go_simp <;> with_reducible rfl)
            simp only [List.setIfInBounds_toArray, List.set_cons_zero, List.set_cons_succ]
            refine takeH (i := 15) (d := 92) (v := ?v15) rfl (by kernel_rfl) (by kernel_rfl) (by kernel_rfl) (fun _ _ _ h => h) rfl (by rfl) ?y15 hT ?r15
            case y15 => (intro wz hz; obtain ⟨hz0, hz1⟩ := hz; go_simp <;> with_reducible rfl)
            simp only [List.setIfInBounds_toArray, List.set_cons_zero, List.set_cons_succ]
            refine takeH (i := 16) (d := 93) (v := ?v16) rfl (by kernel_rfl) (by kernel_rfl) (by kernel_rfl) (fun _ _ _ h => h) rfl (by rfl) ?y16 hT ?r16
            case y16 => (intro wz hz; obtain ⟨hz0, hz1⟩ := hz; go_simp <;> with_reducible rfl)
            simp only [List.setIfInBounds_toArray, List.set_cons_zero, List.set_cons_succ]
            refine takeH (i := 17) (d := 94) (v := ?v17) rfl (by kernel_rfl) (by kernel_rfl) (by kernel_rfl) (fun _ _ _ h => h) rfl (by rfl) ?y17 hT ?r17
            case y17 => (intro wz hz; obtain ⟨hz0, hz1⟩ := hz; go_simp <;> with_reducible rfl)
            simp only [List.setIfInBounds_toArray, List.set_cons_zero, List.set_cons_succ]
            refine takeH (i := 18) (d := 95) (v := ?v18) rfl (by kernel_rfl) (by kernel_rfl) (by kernel_rfl) (fun _ _ _ h => h) rfl (by rfl) ?y18 hT ?r18
            case y18 => (intro wz hz; obtain ⟨hz0, hz1⟩ := hz; go_simp <;> with_reducible rfl)
            simp only [List.setIfInBounds_toArray, List.set_cons_zero, List.set_cons_succ]
            refine takeH (i := 19) (d := 96) (v := ?v19) rfl (by kernel_rfl) (by kernel_rfl) (by kernel_rfl) (fun _ _ _ h => h) rfl (by rfl) ?y19 hT ?r19
            case y19 => (intro wz hz; obtain ⟨hz0, hz1⟩ := hz; go_simp <;> with_reducible rfl)
            simp only [List.setIfInBounds_toArray, List.set_cons_zero, List.set_cons_succ]
            refine takeH (i := 20) (d := 97) (v := ?v20) rfl (by kernel_rfl) (by kernel_rfl) (by kernel_rfl) (fun _ _ _ h => h) rfl (by rfl) ?y20 hT ?r20
            case y20 => (intro wz hz; obtain ⟨hz0, hz1⟩ := hz; go_simp <;> with_reducible rfl)
            simp only [List.setIfInBounds_toArray, List.set_cons_zero, List.set_cons_succ]
            refine takeH (i := 21) (d := 98) (v := ?v21) rfl (by kernel_rfl) (by kernel_rfl) (by kernel_rfl) (fun _ _ _ h => h) rfl (by rfl) ?y21 hT ?r21
            case y21 => (intro wz hz; obtain ⟨hz0, hz1⟩ := hz; go_simp <;> with_reducible rfl)
            simp only [List.setIfInBounds_toArray, List.set_cons_zero, List.set_cons_succ]
            refine takeH (i := 22) (d := 99) (v := ?v22) rfl (by kernel_rfl) (by kernel_rfl) (by kernel_rfl) (fun _ _ _ h => h) rfl (by rfl) ?y22 hT ?r22
            case y22 => (intro wz hz; obtain ⟨hz0, hz1⟩ := hz; go_simp <;> with_reducible rfl)
            simp only [List.setIfInBounds_toArray, List.set_cons_zero, List.set_cons_succ]
            refine takeH (i := 23) (d := 100) (v := ?v23) rfl (by kernel_rfl) (by kernel_rfl) (by kernel_rfl) (fun _ _ _ h => h) rfl (by rfl) ?y23 hT ?r23
            case y23 => (intro wz hz; obtain ⟨hz0, hz1⟩ := hz; go_simp <;> with_reducible rfl)
            simp only [List.setIfInBounds_toArray, List.set_cons_zero, List.set_cons_succ]
            refine skipH (i := 24) (d := 101) rfl (by kernel_rfl) (by kernel_rfl) (by kernel_rfl) (fun _ _ _ h => h) rfl (by rfl) hT ?_
            simp only [List.setIfInBounds_toArray, List.set_cons_zero, List.set_cons_succ]
            refine skipH (i := 25) (d := 102) rfl (by kernel_rfl) (by kernel_rfl) (by kernel_rfl) (fun _ _ _ h => h) rfl (by rfl) hT ?_
            simp only [List.setIfInBounds_toArray, List.set_cons_zero, List.set_cons_succ]
            refine skipH (i := 26) (d := 103) rfl (by kernel_rfl) (by kernel_rfl) (by kernel_rfl) (fun _ _ _ h => h) rfl (by rfl) hT ?_
            simp only [List.setIfInBounds_toArray, List.set_cons_zero, List.set_cons_succ]
            refine skipH (i := 27) (d := 104) rfl (by kernel_rfl) (by kernel_rfl) (by kernel_rfl) (fun _ _ _ h => h) rfl (by rfl) hT ?_
            simp only [List.setIfInBounds_toArray, List.set_cons_zero, List.set_cons_succ]
            refine skipH (i := 28) (d := 105) rfl (by kernel_rfl) (by kernel_rfl) (by kernel_rfl) (fun _ _ _ h => h) rfl (by rfl) hT ?_
            simp only [List.setIfInBounds_toArray, List.set_cons_zero, List.set_cons_succ]
            refine skipH (i := 29) (d := 106) rfl (by kernel_rfl) (by kernel_rfl) (by kernel_rfl) (fun _ _ _ h => h) rfl (by rfl) hT ?_
            simp only [List.setIfInBounds_toArray, List.set_cons_zero, List.set_cons_succ]
            refine skipH (i := 30) (d := 107) rfl (by kernel_rfl) (by kernel_rfl) (by kernel_rfl) (fun _ _ _ h => h) rfl (by rfl) hT ?_
            simp only [List.setIfInBounds_toArray, List.set_cons_zero, List.set_cons_succ]
            refine skipH (i := 31) (d := 108) rfl (by kernel_rfl) (by kernel_rfl) (by kernel_rfl) (fun _ _ _ h => h) rfl (by rfl) hT ?_
            simp only [List.setIfInBounds_toArray, List.set_cons_zero, List.set_cons_succ]
            refine skipH (i := 32) (d := 109) rfl (by kernel_rfl) (by kernel_rfl) (by kernel_rfl) (fun _ _ _ h => h) rfl (by rfl) hT ?_
            simp only [List.setIfInBounds_toArray, List.set_cons_zero, List.set_cons_succ]
            refine skipH (i := 33) (d := 110) rfl (by kernel_rfl) (by kernel_rfl) (by kernel_rfl) (fun _ _ _ h => h) rfl (by rfl) hT ?_
            simp only [List.setIfInBounds_toArray, List.set_cons_zero, List.set_cons_succ]
            refine skipH (i := 34) (d := 111) rfl (by kernel_rfl) (by kernel_rfl) (by kernel_rfl) (fun _ _ _ h => h) rfl (by rfl) hT ?_
            simp only [List.setIfInBounds_toArray, List.set_cons_zero, List.set_cons_succ]
            refine skipH (i := 35) (d := 112) rfl (by kernel_rfl) (by kernel_rfl) (by kernel_rfl) (fun _ _ _ h => h) rfl (by rfl) hT ?_
            simp only [List.setIfInBounds_toArray, List.set_cons_zero, List.set_cons_succ]
            refine takeH (i := 36) (d := 113) (v := ?v36) rfl (by kernel_rfl) (by kernel_rfl) (by kernel_rfl) (fun _ _ _ h => h) rfl (by rfl) ?y36 hT ?r36
            case y36 => (intro wz hz; obtain ⟨hz0, hz1⟩ := hz; go_simp <;> with_reducible rfl)
            simp only [List.setIfInBounds_toArray, List.set_cons_zero, List.set_cons_succ]
            refine takeH (i := 37) (d := 114) (v := ?v37) rfl (by kernel_rfl) (by kernel_rfl) (by kernel_rfl) (fun _ _ _ h => h) rfl (by rfl) ?y37 hT ?r37
            case y37 => (intro wz hz; obtain ⟨hz0, hz1⟩ := hz; go_simp <;> with_reducible rfl)
            simp only [List.setIfInBounds_toArray, List.set_cons_zero, List.set_cons_succ]
            refine wpAnyH_done (by kernel_rfl) ?_ _
            clear FR hR hS hT fx0 fx3 f0 f1 f2 f3
            go_wp2_with fail
            have sx := hgx.size
            exact ⟨⟨j + 1, by go_num, by omega, RX, Lib.hid (below_grown hBq.out.drew hgx (by show g ≤ wr.heap.size; omega) (Nat.le_refl _)), Nat.le_trans hsz sx⟩, by simp [intOf]; omega⟩
          | false =>
            rw [ht] at f0
            have HT := Lib.hid ht
            clear ht
            rw [HED.out] at hR
            have hgb : b < g := by omega
            have FR := Lib.hid (f_rnum (w := wr.drew) f HT.out (hR.out.kept fun _ _ => rfl) (by rw [← HED.out]; exact hlen j))
            have FP := Lib.hid (fun W => f_refPut (w := W) f HT.out h64)
            go_wp2_with fail
            have hj0 : (0 : Int) ≤ (j : Int) := by omega
            have hj1 : (j : Int) < (fs.length : Int) := by omega
            refine wp_region_held_drew (S := NxS b off j f) (by kernel_rfl) ⟨f0, f2⟩ (fun hS => ?_)
            refine takeH (i := 0) (d := 77) (v := ?vf0) rfl (by kernel_rfl) (by kernel_rfl) (by kernel_rfl) (fun _ _ _ h => h) rfl (by rfl) ?yf0 hS ?rf0
            case yf0 => (intro wz hz; obtain ⟨hz0, hz1⟩ := hz; go_simp <;> with_reducible rfl)
            simp only [List.setIfInBounds_toArray, List.set_cons_zero, List.set_cons_succ]
            refine takeH (i := 1) (d := 78) (v := ?vf1) rfl (by kernel_rfl) (by kernel_rfl) (by kernel_rfl) (fun _ _ _ h => h) rfl (by rfl) ?yf1 hS ?rf1
            case yf1 => (intro wz hz; obtain ⟨hz0, hz1⟩ := hz; go_simp <;> with_reducible rfl)
            simp only [List.setIfInBounds_toArray, List.set_cons_zero, List.set_cons_succ]
            refine takeH (i := 2) (d := 79) (v := ?vf2) rfl (by kernel_rfl) (by kernel_rfl) (by kernel_rfl) (fun _ _ _ h => h) rfl (by rfl) ?yf2 hS ?rf2
            case yf2 => (intro wz hz; obtain ⟨hz0, hz1⟩ := hz; go_simp <;> with_reducible rfl)
            simp only [List.setIfInBounds_toArray, List.set_cons_zero, List.set_cons_succ]
            refine takeH (i := 3) (d := 80) (v := ?vf3) rfl (by kernel_rfl) (by kernel_rfl) (by kernel_rfl) (fun _ _ _ h => h) rfl (by rfl) ?yf3 hS ?rf3
            case yf3 => (intro wz hz; obtain ⟨hz0, hz1⟩ := hz; go_simp <;> with_reducible rfl)
            simp only [List.setIfInBounds_toArray, List.set_cons_zero, List.set_cons_succ]
            refine takeH (i := 4) (d := 81) (v := ?vf4) rfl (by kernel_rfl) (by kernel_rfl) (by kernel_rfl) (fun _ _ _ h => h) rfl (by rfl) ?yf4 hS ?rf4
            case yf4 => (intro wz hz; obtain ⟨hz0, hz1⟩ := hz; go_simp <;> with_reducible rfl)
            simp only [List.setIfInBounds_toArray, List.set_cons_zero, List.set_cons_succ]
            refine takeH (i := 5) (d := 82) (v := ?vf5) rfl (by kernel_rfl) (by kernel_rfl) (by kernel_rfl) (fun _ _ _ h => h) rfl (by rfl) ?yf5 hS ?rf5
            case yf5 => (intro wz hz; obtain ⟨hz0, hz1⟩ := hz; go_simp <;> with_reducible rfl)
            simp only [List.setIfInBounds_toArray, List.set_cons_zero, List.set_cons_succ]
            refine skipH (i := 6) (d := 83) rfl (by kernel_rfl) (by kernel_rfl) (by kernel_rfl) (fun _ _ _ h => h) rfl (by rfl) hS ?_
            simp only [List.setIfInBounds_toArray, List.set_cons_zero, List.set_cons_succ]
            refine skipH (i := 7) (d := 84) rfl (by kernel_rfl) (by kernel_rfl) (by kernel_rfl) (fun _ _ _ h => h) rfl (by rfl) hS ?_
            simp only [List.setIfInBounds_toArray, List.set_cons_zero, List.set_cons_succ]
            refine skipH (i := 8) (d := 85) rfl (by kernel_rfl) (by kernel_rfl) (by kernel_rfl) (fun _ _ _ h => h) rfl (by rfl) hS ?_
            simp only [List.setIfInBounds_toArray, List.set_cons_zero, List.set_cons_succ]
            refine skipH (i := 9) (d := 86) rfl (by kernel_rfl) (by kernel_rfl) (by kernel_rfl) (fun _ _ _ h => h) rfl (by rfl) hS ?_
            simp only [List.setIfInBounds_toArray, List.set_cons_zero, List.set_cons_succ]
            refine skipH (i := 10) (d := 87) rfl (by kernel_rfl) (by kernel_rfl) (by kernel_rfl) (fun _ _ _ h => h) rfl (by rfl) hS ?_
            simp only [List.setIfInBounds_toArray, List.set_cons_zero, List.set_cons_succ]
            refine skipH (i := 11) (d := 88) rfl (by kernel_rfl) (by kernel_rfl) (by kernel_rfl) (fun _ _ _ h => h) rfl (by rfl) hS ?_
            simp only [List.setIfInBounds_toArray, List.set_cons_zero, List.set_cons_succ]
            refine skipH (i := 12) (d := 89) rfl (by kernel_rfl) (by kernel_rfl) (by kernel_rfl) (fun _ _ _ h => h) rfl (by rfl) hS ?_
            simp only [List.setIfInBounds_toArray, List.set_cons_zero, List.set_cons_succ]
            refine skipH (i := 13) (d := 90) rfl (by kernel_rfl) (by kernel_rfl) (by kernel_rfl) (fun _ _ _ h => h) rfl (by rfl) hS ?_
            simp only [List.setIfInBounds_toArray, List.set_cons_zero, List.set_cons_succ]
            refine skipH (i := 14) (d := 91) rfl (by kernel_rfl) (by kernel_rfl) (by kernel_rfl) (fun _ _ _ h => h) rfl (by rfl) hS ?_
            simp only [List.setIfInBounds_toArray, List.set_cons_zero, List.set_cons_succ]
            refine takeH (i := 15) (d := 92) (v := ?vf15) rfl (by kernel_rfl) (by kernel_rfl) (by kernel_rfl) (fun _ _ _ h => h) rfl (by rfl) ?yf15 hS ?rf15
            case yf15 => (intro wz hz; obtain ⟨hz0, hz1⟩ := hz; go_simp <;> with_reducible rfl)
            simp only [List.setIfInBounds_toArray, List.set_cons_zero, List.set_cons_succ]
            refine takeH (i := 16) (d := 93) (v := ?vf16) rfl (by kernel_rfl) (by kernel_rfl) (by kernel_rfl) (fun _ _ _ h => h) rfl (by rfl) ?yf16 hS ?rf16
            case yf16 => (intro wz hz; obtain ⟨hz0, hz1⟩ := hz; go_simp <;> with_reducible rfl)
            simp only [List.setIfInBounds_toArray, List.set_cons_zero, List.set_cons_succ]
            refine takeH (i := 17) (d := 94) (v := ?vf17) rfl (by kernel_rfl) (by kernel_rfl) (by kernel_rfl) (fun _ _ _ h => h) rfl (by rfl) ?yf17 hS ?rf17
            case yf17 => (intro wz hz; obtain ⟨hz0, hz1⟩ := hz; go_simp <;> with_reducible rfl)
            simp only [List.setIfInBounds_toArray, List.set_cons_zero, List.set_cons_succ]
            refine takeH (i := 18) (d := 95) (v := ?vf18) rfl (by kernel_rfl) (by kernel_rfl) (by kernel_rfl) (fun _ _ _ h => h) rfl (by rfl) ?yf18 hS ?rf18
            case yf18 => (intro wz hz; obtain ⟨hz0, hz1⟩ := hz; go_simp <;> with_reducible rfl)
            simp only [List.setIfInBounds_toArray, List.set_cons_zero, List.set_cons_succ]
            refine takeH (i := 19) (d := 96) (v := ?vf19) rfl (by kernel_rfl) (by kernel_rfl) (by kernel_rfl) (fun _ _ _ h => h) rfl (by rfl) ?yf19 hS ?rf19
            case yf19 => (intro wz hz; obtain ⟨hz0, hz1⟩ := hz; go_simp <;> with_reducible rfl)
            simp only [List.setIfInBounds_toArray, List.set_cons_zero, List.set_cons_succ]
            refine takeH (i := 20) (d := 97) (v := ?vf20) rfl (by kernel_rfl) (by kernel_rfl) (by kernel_rfl) (fun _ _ _ h => h) rfl (by rfl) ?yf20 hS ?rf20
            case yf20 => (intro wz hz; obtain ⟨hz0, hz1⟩ := hz; go_simp <;> with_reducible rfl)
            simp only [List.setIfInBounds_toArray, List.set_cons_zero, List.set_cons_succ]
            refine takeH (i := 21) (d := 98) (v := ?vf21) rfl (by kernel_rfl) (by kernel_rfl) (by kernel_rfl) (fun _ _ _ h => h) rfl (by rfl) ?yf21 hS ?rf21
            case yf21 => (intro wz hz; obtain ⟨hz0, hz1⟩ := hz; go_simp <;> with_reducible rfl)
            simp only [List.setIfInBounds_toArray, List.set_cons_zero, List.set_cons_succ]
            refine takeH (i := 22) (d := 99) (v := ?vf22) rfl (by kernel_rfl) (by kernel_rfl) (by kernel_rfl) (fun _ _ _ h => h) rfl (by rfl) ?yf22 hS ?rf22
            case yf22 => (intro wz hz; obtain ⟨hz0, hz1⟩ := hz; go_simp <;> with_reducible rfl)
            simp only [List.setIfInBounds_toArray, List.set_cons_zero, List.set_cons_succ]
            refine takeH (i := 23) (d := 100) (v := ?vf23) rfl (by kernel_rfl) (by kernel_rfl) (by kernel_rfl) (fun _ _ _ h => h) rfl (by rfl) ?yf23 hS ?rf23
            case yf23 => (intro wz hz; obtain ⟨hz0, hz1⟩ := hz; go_simp <;> with_reducible rfl)
            simp only [List.setIfInBounds_toArray, List.set_cons_zero, List.set_cons_succ]
            refine takeH (i := 24) (d := 101) (v := ?vf24) rfl (by kernel_rfl) (by kernel_rfl) (by kernel_rfl) (fun _ _ _ h => h) rfl (by rfl) ?yf24 hS ?rf24
            case yf24 => (intro wz hz; obtain ⟨hz0, hz1⟩ := hz; go_simp <;> with_reducible rfl)
            simp only [List.setIfInBounds_toArray, List.set_cons_zero, List.set_cons_succ]
            refine takeH (i := 25) (d := 102) (v := ?vf25) rfl (by kernel_rfl) (by kernel_rfl) (by kernel_rfl) (fun _ _ _ h => h) rfl (by rfl) ?yf25 hS ?rf25
            case yf25 => (intro wz hz; obtain ⟨hz0, hz1⟩ := hz; go_simp <;> with_reducible rfl)
            simp only [List.setIfInBounds_toArray, List.set_cons_zero, List.set_cons_succ]
            refine takeH (i := 27) (d := 104) (v := ?vf27) rfl (by kernel_rfl) (by kernel_rfl) (by kernel_rfl) (fun _ _ _ h => h) rfl (by rfl) ?yf27 hS ?rf27
            case yf27 => (intro wz hz; obtain ⟨hz0, hz1⟩ := hz; go_simp <;> with_reducible rfl)
            simp only [List.setIfInBounds_toArray, List.set_cons_zero, List.set_cons_succ]
            refine takeH (i := 28) (d := 105) (v := ?vf28) rfl (by kernel_rfl) (by kernel_rfl) (by kernel_rfl) (fun _ _ _ h => h) rfl (by rfl) ?yf28 hS ?rf28
            case yf28 => (intro wz hz; obtain ⟨hz0, hz1⟩ := hz; go_simp <;> with_reducible rfl)
            simp only [List.setIfInBounds_toArray, List.set_cons_zero, List.set_cons_succ]
            refine takeH (i := 29) (d := 106) (v := ?vf29) rfl (by kernel_rfl) (by kernel_rfl) (by kernel_rfl) (fun _ _ _ h => h) rfl (by rfl) ?yf29 hS ?rf29
            case yf29 => (intro wz hz; obtain ⟨hz0, hz1⟩ := hz; go_simp <;> with_reducible rfl)
            simp only [List.setIfInBounds_toArray, List.set_cons_zero, List.set_cons_succ]
            refine takeH (i := 30) (d := 107) (v := ?vf30) rfl (by kernel_rfl) (by kernel_rfl) (by kernel_rfl) (fun _ _ _ h => h) rfl (by rfl) ?yf30 hS ?rf30
            case yf30 => (intro wz hz; obtain ⟨hz0, hz1⟩ := hz; go_simp <;> with_reducible rfl)
            simp only [List.setIfInBounds_toArray, List.set_cons_zero, List.set_cons_succ]
            refine takeH (i := 31) (d := 108) (v := ?vf31) rfl (by kernel_rfl) (by kernel_rfl) (by kernel_rfl) (fun _ _ _ h => h) rfl (by rfl) ?yf31 hS ?rf31
            case yf31 => (intro wz hz; obtain ⟨hz0, hz1⟩ := hz; go_simp <;> with_reducible rfl)
            simp only [List.setIfInBounds_toArray, List.set_cons_zero, List.set_cons_succ]
            refine takeH (i := 32) (d := 109) (v := ?vf32) rfl (by kernel_rfl) (by kernel_rfl) (by kernel_rfl) (fun _ _ _ h => h) rfl (by rfl) ?yf32 hS ?rf32
            case yf32 => (intro wz hz; obtain ⟨hz0, hz1⟩ := hz; go_simp <;> with_reducible rfl)
            simp only [List.setIfInBounds_toArray, List.set_cons_zero, List.set_cons_succ]
            refine wpAnyH_ready (rs := [26]) (by kernel_rfl) (by simp) ?_
            refine AllReadyH.cons rfl (fun K hK => ?_) AllReadyH.nil
            go_simp
            refine FR.out.mono ?_
            rintro e wx ⟨rfl, hrx, hgx⟩
            have hbw : b < wr.heap.size := by omega
            have fx0 := (World.cell?_of_block (w := wr.drew) (hgx.block b hbw (by simp; omega))).trans f0
            have fx2 := (World.cell?_of_block (w := wr.drew) (hgx.block b hbw (by simp; omega))).trans f2
            have RX := Lib.hid hrx
            have sx := hgx.size
            clear hrx
            refine hK.out _ _ ⟨fx0, fx2⟩ (fun hT => ?_)
            clear hK hS
            refine wpAnyH_ready (rs := [33]) (by kernel_rfl) (by simp) ?_
            refine AllReadyH.cons rfl (fun K hK => ?_) AllReadyH.nil
            go_simp
            refine (FP.out wx).mono ?_
            rintro e wy ⟨Ay, cy, rfl, hly, hby⟩
            have hbx : b < wx.heap.size := Nat.lt_of_lt_of_le hbw sx
            have fy0 := (hby.cell (p := ⟨b, off + j * 4, none⟩) hbx).trans fx0
            have fy2 := (hby.cell (p := ⟨b, off + j * 4 + 2, none⟩) hbx).trans fx2
            have LY := Lib.hid hly
            have RY := Lib.hid (RX.out.below hby)
            have BY := Lib.hid hby
            have sy := hby.size
            clear hly hby
            refine hK.out _ _ ⟨fy0, fy2⟩ (fun hU => ?_)
            clear hK hT
            refine wpAnyH_ready (rs := [34]) (by kernel_rfl) (by simp) ?_
            refine AllReadyH.cons rfl (fun K hK => ?_) AllReadyH.nil
            go_simp
            refine (refGet_any _ _ cy Ay f.enc wy LY.out (by have := f.k_hi; omega)).mono ?_
            rintro e w9 ⟨rfl, rfl⟩
            refine hK.out _ _ ⟨fy0, fy2⟩ (fun hV => ?_)
            clear hK hU
            refine takeH (i := 35) (d := 112) (v := ?vf35) rfl (by kernel_rfl) (by kernel_rfl) (by kernel_rfl) (fun _ _ _ h => h) rfl (by rfl) ?yf35 hV ?rf35
            case yf35 => (intro wz hz; obtain ⟨hz0, hz1⟩ := hz; go_simp <;> with_reducible rfl)
            simp only [List.setIfInBounds_toArray, List.set_cons_zero, List.set_cons_succ]
            refine takeH (i := 36) (d := 113) (v := ?vf36) rfl (by kernel_rfl) (by kernel_rfl) (by kernel_rfl) (fun _ _ _ h => h) rfl (by rfl) ?yf36 hV ?rf36
            case yf36 => (intro wz hz; obtain ⟨hz0, hz1⟩ := hz; go_simp <;> with_reducible rfl)
            simp only [List.setIfInBounds_toArray, List.set_cons_zero, List.set_cons_succ]
            refine takeH (i := 37) (d := 114) (v := ?vf37) rfl (by kernel_rfl) (by kernel_rfl) (by kernel_rfl) (fun _ _ _ h => h) rfl (by rfl) ?yf37 hV ?rf37
            case yf37 => (intro wz hz; obtain ⟨hz0, hz1⟩ := hz; go_simp <;> with_reducible rfl)
            simp only [List.setIfInBounds_toArray, List.set_cons_zero, List.set_cons_succ]
            refine wpAnyH_done (by kernel_rfl) ?_ _
            clear FR hR hV fx0 fx2 fy0 fy2 f0 f1 f2 f3
            go_wp2_with fail
            exact ⟨⟨j + 1, by go_num, by omega, RY, Lib.hid ((below_grown hBq.out.drew hgx (by show g ≤ wr.heap.size; omega) (Nat.le_refl _)).trans (BY.out.mono (Nat.le_of_lt RX.out.lt))), Nat.le_trans hsz (Nat.le_trans sx sy)⟩, by simp [intOf]; omega⟩
        · obtain rfl : j = fs.length := by omega
          rw [List.drop_of_length_le (Nat.le_refl _), show encs [] = [] from rfl] at hR
          have bwq := Lib.hid (B1.out.trans (hBq.out.mono gw))
          have sq := bwq.out.size
          have LQ := Lib.hid (L1.out.under (hBq.out.mono hg))
          go_wp2_with fail
          refine (right_any g [] false wr hR.out).mono ?_
          rintro e wz ⟨rfl, rfl⟩
          go_wp2_with fail
          refine (left_any g [] false wr hR.out).mono ?_
          rintro e wz ⟨rfl, rfl⟩
          go_wp2_with fail
          refine (noughts_any g [] false wr hR.out (by decide)).mono ?_
          rintro e wz ⟨rfl, rfl⟩
          rw [show (!false && zeroB []) = true from by decide]
          by_cases hn : n = 0
          · subst hn
            go_wp2_with (go_at_call 7; refine (works_any wr).mono ?_; rintro e w' ⟨rfl, hb7⟩)
            go_ret
            exact ⟨rfl, bwq.out.trans (hb7.mono sq)⟩
          · have hne : ((n : Int) == 0) = false := by rw [beq_eq_false_iff_ne]; omega
            have hn1 : (1 : Int) ≤ n := by omega
            have hnN : 1 ≤ n := by omega
            obtain ⟨a, rfl, _, _⟩ := LQ.out.spot (by omega)
            have hlt1 : ((encs fs).drop 1).length = n - 1 := by
              have := LQ.out.len
              rw [BC_length] at this
              rw [List.length_drop]
              omega
            have HLT := Lib.hid hlt1
            clear hlt1
            have RD : Hid (∀ (A' : Option Addr) (cc : Nat), (1 < n → A' = some ⟨a.block, a.off + 1, none⟩) → Calls Try.prog 15 #[.slice A' (n - 1) cc] wr fun e w' =>
                ∃ g', e = .returned (.pointer (some ⟨g', 0, none⟩)) ∧ wr.heap.size ≤ g' ∧ Rdr w' g' ((encs fs).drop 1) false ∧ Below wr.heap.size wr w') := by
              intro A' cc hA
              have h1 := LQ.out.tail (k := 1) (by omega) A' (by intro hq; rw [hA hq]; rfl)
              rw [BC_drop] at h1
              exact read_any _ (n - 1) cc A' _ wr (h1.up (by omega)) (Nat.le_refl _) (by omega)
            unfold maxLen at hm2
            go_wp2_with (go_at_call 15; refine (RD.out _ _ (by intro hq; first | (split <;> first | omega | rfl) | rfl | omega)).mono ?_; rintro e w2 ⟨g2, rfl, hg2, hr2, hb2⟩; have R2 := Lib.hid hr2; have B2 := Lib.hid hb2; have s2 := hb2.size; clear hr2 hb2)
            all_goals
              refine (take_fail g2 _ false (n : Int) w2 R2.out (by rw [HLT.out]; omega) (.inr (.inr (by rw [HLT.out]; omega)))).mono ?_
              rintro e w3 ⟨rfl, hr3, hg3⟩
              have R3 := Lib.hid hr3
              have B3 := Lib.hid (below_grown (bwq.out.trans (B2.out.mono sq)) hg3 (by omega) (by omega))
              have s3 := B3.out.size
              clear hr3 hg3
              go_wp2_with fail
              refine (right_any g2 _ true w3 R3.out).mono ?_
              rintro e wz ⟨rfl, rfl⟩
              go_wp2_with fail
              refine (noughts_any g2 _ true w3 R3.out (by rw [HLT.out]; omega)).mono ?_
              rintro e wz ⟨rfl, rfl⟩
              rw [Bool.not_true, Bool.false_and]
              go_wp2_with (go_at_call 7; refine (works_any w3).mono ?_; rintro e w' ⟨rfl, hb7⟩)
              go_ret
              exact ⟨rfl, B3.out.trans (hb7.mono s3)⟩
end Go.Proofs.Ytblamegncbkjmaa
