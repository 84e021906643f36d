/-
  The reference: how wide an entry is, and lists of entries one by one.
  Conditions: lists of at most 1000 entries of at most 1000 pages and numbers.
-/
import Derived.Test.YthicidpdgggbjaaDoorK14Q
import Derived.Test.YthicidpdgggbjaaDoorS3Q
namespace Go.Proofs.YthicidpdgggbjaaDoor
open Go.RowKit
set_option maxRecDepth 8000

set_option maxHeartbeats 800000 in
theorem width_any (X : Nat → Prop) (r : Er) (w : World) (h : ELz X w r) (hg : Gd r.e) : Calls Tryd.prog 38 #[.agg (erA r)] w fun e w' => e = .returned (.int .i64 ((wid r.e : Nat) : Int)) ∧ Below w.heap.size w w' := by
  have B1 := Lib.hid ((Below.refl w.heap.size w).alloc (Nat.le_refl _) (.cells (erA r) 42))
  have A1 := Lib.hid (At.new w 42 (erA r))
  have EL1 := Lib.hid (h.below B1.out).el
  have HG := Lib.hid hg
  have HL := Lib.hid (enc_len hg)
  obtain ⟨N, hN⟩ : ∃ N, N = wid r.e := ⟨_, rfl⟩
  rw [← hN]
  have HN := Lib.hid hN
  clear h hg hN
  go_enter Tryd.func38, Tryd.ntmps38
  go_wp2_with (first
    | refine wpList_load_at 42 6 (.tmp 1) rfl rfl rfl w.heap.size rfl (erA r) 13 strE rfl A1.out ?_
    | (go_at_call 22
       refine (refPut_good r.e r.PA r.QA r.np r.pc r.na r.qc _ EL1.out HG.out.ok HG.out.chk).mono ?_
       rintro e w3 ⟨A3, n3, c3, rfl, ho3, hb3⟩
       have hn3 : (enc r.e).length = n3 := own_n ho3
       have B3 := Lib.hid (B1.out.trans (hb3.mono B1.out.size))
       have e1 : ((n3 : Int) + 53) / 54 = (N : Int) := by rw [HN.out, wid, numSec, hn3]; omega
       have e2 : n3 ≤ 6016 := by rw [← hn3]; exact HL.out.2
       clear hn3 hb3 ho3))
  go_ret
  refine ⟨?_, B3.out⟩
  show Ending.returned (.int .i64 (((n3 : Int) + 53) / 54)) = _
  rw [e1]

/-- How far Same has come. -/
def SaR (w : World) (rs ts : List Er) (n : Nat) (i : Value) (z : World) : Prop :=
  ∃ k : Nat, k ≤ n ∧ i = .int .i64 (k : Int) ∧ Hid ((rs.take k).map (·.e) = (ts.take k).map (·.e)) ∧ Hid (Below w.heap.size w z)
def RetP (w : World) (p : Prop) (e : Ending) (w' : World) : Prop := ∃ b : Bool, e = .returned (.bool b) ∧ (b = true ↔ p) ∧ Below w.heap.size w w'
set_option maxHeartbeats 1600000 in
theorem rsame_any (X Y : Nat → Prop) (A C : Option Addr) (n c m d : Nat) (rs ts : List Er) (w : World) (h : LEz X w A n rs) (k : LEz Y w C m ts) (hn : n ≤ 1000) (hm : m ≤ 1000) (hp : ∀ r ∈ rs, r.np ≤ 1000 ∧ r.na ≤ 1000) (hq : ∀ r ∈ ts, r.np ≤ 1000 ∧ r.na ≤ 1000) :
    Calls Tryd.prog 24 #[.slice A n c, .slice C m d] w (RetP w (rs.map (·.e) = ts.map (·.e))) := by
  have hl := h.len
  have kl := k.len
  by_cases hnm : n = m
  · subst hnm
    have HH := Lib.hid h
    have HK := Lib.hid k
    have HL := Lib.hid hl
    have KL := Lib.hid kl
    have HP := Lib.hid hp
    have HQ := Lib.hid hq
    have d0 : ((n : Int) == (n : Int)) = true := by simp
    clear h k hl kl hp hq hm
    go_enter Tryd.func24, Tryd.ntmps24
    go_wp2_with fail
    go_loopw [5] (fun i z => SaR w rs ts n i z) (fun i _ => n - (intOf i).toNat)
    case atStart => exact ⟨0, Nat.zero_le _, rfl, rfl, Below.refl _ _⟩
    case round =>
      obtain ⟨k, hk0, rfl, HE, HB⟩ := hrel
      by_cases hlt : k < n
      · obtain ⟨b, o, hl, rfl, _, hbl, hR, hel⟩ := (HH.out.below HB.out).at hlt
        obtain ⟨b2, o2, hl2, rfl, _, hbl2, hR2, hel2⟩ := (HK.out.below HB.out).at hlt
        have R1 := Lib.hid hR
        have R2 := Lib.hid hR2
        have E1 := Lib.hid hel
        have E2 := Lib.hid hel2
        obtain ⟨r, hr⟩ : ∃ r, rs[k] = r := ⟨_, rfl⟩
        obtain ⟨t, ht⟩ : ∃ t, ts[k] = t := ⟨_, rfl⟩
        have HT := Lib.hid (show (rs.take (k + 1)).map (·.e) = (rs.take k).map (·.e) ++ [r.e] ∧ (ts.take (k + 1)).map (·.e) = (ts.take k).map (·.e) ++ [t.e] by rw [List.take_succ_eq_append_getElem hl, List.take_succ_eq_append_getElem hl2, List.map_append, List.map_append, hr, ht]; exact ⟨rfl, rfl⟩)
        obtain ⟨p1, p2⟩ := HP.out _ (List.getElem_mem hl)
        obtain ⟨q1, q2⟩ := HQ.out _ (List.getElem_mem hl2)
        rw [hr] at R1 E1 p1 p2
        rw [ht] at R2 E2 q1 q2
        have HRK := Lib.hid hr
        have HTK := Lib.hid ht
        clear hR hel hR2 hel2 hr ht
        go_wp2_with fail
        refine wp_region_held_drew (S := fun z => Below wr.heap.size wr z) (by kernel_rfl) (below_n (Below.refl _ wr) 1) (fun hS => ?_)
        refine takeH (i := 0) (d := 17) (v := ?vs0) rfl (by kernel_rfl) (by kernel_rfl) (by kernel_rfl) (fun _ _ _ h => h) rfl (by rfl) ?ys0 hS ?rs0
        case ys0 => (intro wz hz; go_simp <;> with_reducible rfl)
        simp only [List.setIfInBounds_toArray, List.set_cons_zero, List.set_cons_succ]
        refine takeH (i := 1) (d := 18) (v := ?vs1) rfl (by kernel_rfl) (by kernel_rfl) (by kernel_rfl) (fun _ _ _ h => h) rfl (by rfl) ?ys1 hS ?rs1
        case ys1 => (intro wz hz; go_simp <;> with_reducible rfl)
        simp only [List.setIfInBounds_toArray, List.set_cons_zero, List.set_cons_succ]
        refine takeH (i := 2) (d := 19) (v := ?vs2) rfl (by kernel_rfl) (by kernel_rfl) (by kernel_rfl) (fun _ _ _ h => h) rfl (by rfl) ?ys2 hS ?rs2
        case ys2 => (intro wz hz; go_simp <;> with_reducible rfl)
        simp only [List.setIfInBounds_toArray, List.set_cons_zero, List.set_cons_succ]
        refine takeH (i := 3) (d := 20) (v := .agg (erA r)) rfl (by kernel_rfl) (by kernel_rfl) (by kernel_rfl) (fun _ _ _ h => h) rfl (by rfl) ?ys3 hS ?rs3
        case ys3 => (intro wz hz; exact exec_load_er (.tmp 19) rfl b (o + k * 13) rfl r (pl_rangeAt_block R1.out (hz.block b hbl)))
        simp only [List.setIfInBounds_toArray, List.set_cons_zero, List.set_cons_succ]
        refine takeH (i := 4) (d := 21) (v := ?vs4) rfl (by kernel_rfl) (by kernel_rfl) (by kernel_rfl) (fun _ _ _ h => h) rfl (by rfl) ?ys4 hS ?rs4
        case ys4 => (intro wz hz; go_simp <;> with_reducible rfl)
        simp only [List.setIfInBounds_toArray, List.set_cons_zero, List.set_cons_succ]
        refine takeH (i := 5) (d := 22) (v := ?vs5) rfl (by kernel_rfl) (by kernel_rfl) (by kernel_rfl) (fun _ _ _ h => h) rfl (by rfl) ?ys5 hS ?rs5
        case ys5 => (intro wz hz; go_simp <;> with_reducible rfl)
        simp only [List.setIfInBounds_toArray, List.set_cons_zero, List.set_cons_succ]
        refine takeH (i := 6) (d := 23) (v := ?vs6) rfl (by kernel_rfl) (by kernel_rfl) (by kernel_rfl) (fun _ _ _ h => h) rfl (by rfl) ?ys6 hS ?rs6
        case ys6 => (intro wz hz; go_simp <;> with_reducible rfl)
        simp only [List.setIfInBounds_toArray, List.set_cons_zero, List.set_cons_succ]
        refine takeH (i := 7) (d := 24) (v := .agg (erA t)) rfl (by kernel_rfl) (by kernel_rfl) (by kernel_rfl) (fun _ _ _ h => h) rfl (by rfl) ?ys7 hS ?rs7
        case ys7 => (intro wz hz; exact exec_load_er (.tmp 23) rfl b2 (o2 + k * 13) rfl t (pl_rangeAt_block R2.out (hz.block b2 hbl2)))
        simp only [List.setIfInBounds_toArray, List.set_cons_zero, List.set_cons_succ]
        refine wpAnyH_ready (rs := [8]) (by kernel_rfl) (by simp) ?_
        refine AllReadyH.cons rfl (fun K hK => ?_) AllReadyH.nil
        go_simp
        refine (refSame_any r.e t.e r.PA r.QA t.PA t.QA r.np r.pc r.na r.qc t.np t.pc t.na t.qc wr.drew (E1.out.below (below_n (Below.refl _ wr) 1)).el (E2.out.below (below_n (Below.refl _ wr) 1)).el p1 p2 q1 q2).mono ?_
        rintro e z2 ⟨rfl, hb2⟩
        have B2 : Below wr.heap.size wr z2 := (below_n (Below.refl _ wr) 1).trans hb2
        have HB2 := Lib.hid (HB.out.trans (B2.mono HB.out.size))
        have hb : True := trivial
        clear hb2
        refine hK.out _ _ (B2) (fun hT => ?_)
        clear hK hb hS
        have hS := hT
        clear hT
        refine takeH (i := 9) (d := 26) (v := ?vs9) rfl (by kernel_rfl) (by kernel_rfl) (by kernel_rfl) (fun _ _ _ h => h) rfl (by rfl) ?ys9 hS ?rs9
        case ys9 => (intro wz hz; go_simp <;> with_reducible rfl)
        simp only [List.setIfInBounds_toArray, List.set_cons_zero, List.set_cons_succ]
        refine wpAnyH_done (by kernel_rfl) ?_ _
        clear hS
        cases hse : sameE r.e t.e with
        | true =>
          have hrt := (sameE_iff _ _).1 hse
          have HE2 := Lib.hid (show (rs.take (k + 1)).map (·.e) = (ts.take (k + 1)).map (·.e) by rw [HT.out.1, HT.out.2, HE.out, hrt])
          clear hse hrt
          go_wp2_with fail
          exact ⟨⟨k + 1, by omega, by go_num, HE2, HB2⟩, by simp [intOf]; omega⟩
        | false =>
          have hrt : r.e ≠ t.e := fun e => by rw [(sameE_iff _ _).2 e] at hse; cases hse
          have hne := Lib.hid (show ¬ (rs.map (·.e) = ts.map (·.e)) from fun e => hrt (by
            have h1 : (rs.map (·.e))[k]? = (ts.map (·.e))[k]? := by rw [e]
            rw [List.getElem?_map, List.getElem?_map, List.getElem?_eq_getElem (by rw [HL.out]; exact hlt), List.getElem?_eq_getElem (by rw [KL.out]; exact hlt), HRK.out, HTK.out] at h1
            simpa using h1))
          clear hse hrt
          go_wp2_with fail
          go_ret
          exact ⟨false, rfl, ⟨(fun h => by cases h), fun h => absurd h hne.out⟩, HB2.out⟩
      · obtain rfl : k = n := by omega
        go_wp2_with fail
        go_ret
        have he := HE.out
        rw [List.take_of_length_le (by rw [HL.out]; exact Nat.le_refl _), List.take_of_length_le (by rw [KL.out]; exact Nat.le_refl _)] at he
        exact ⟨true, rfl, ⟨fun _ => he, fun _ => rfl⟩, HB.out⟩
  · have d0 : ((n : Int) == (m : Int)) = false := beq_eq_false_iff_ne.2 (by omega)
    have hne : Hid (¬ (rs.map (·.e) = ts.map (·.e))) := fun e => by
      have := congrArg List.length e
      rw [List.length_map, List.length_map, hl, kl] at this
      omega
    clear h k hl kl hp hq
    go_enter Tryd.func24, Tryd.ntmps24
    go_wp2_with fail
    go_ret
    exact ⟨false, rfl, ⟨(fun h => by cases h), fun h => absurd h hne.out⟩, Below.refl _ _⟩
end Go.Proofs.YthicidpdgggbjaaDoor
