/-
  The walk of the reference's Write where it writes.
  Conditions: disks of at most 100000 sectors.
-/
import Derived.Test.YtggcfbglfmcdmaaC2
namespace Go.Proofs.Ytggcfbglfmcdmaa
open Go.RowKit

/-- Old memory is as it was, and the disk's box lies behind it. -/
structure SB (w : World) (R : Array Value) (z : World) : Prop where
  below : Below w.heap.size w z
  box : z.heap[w.heap.size]? = some (.cells R 32 (0, 0))
section
variable {w wq z : World} {R Z : Array Value} {out : Value} {nw fu : Int} {K : Option Addr} {kn kc : Nat} {dn : Bool} {T : List Int} {k : Nat}
theorem SB.of (h : WL w wq R Z out nw fu K kn kc dn T k) : SB w R wq := ⟨h.below, h.box3⟩
theorem SB.alloc (h : SB w R z) (o : Obj) : SB w R (z.alloc o) := by
  have hl := (Array.getElem?_eq_some_iff.1 h.box).1
  exact ⟨h.below.alloc (by omega) o, by rw [Below.heap_alloc _ _ _ hl]; exact h.box⟩
theorem SB.app (h : WL w wq R Z out nw fu K kn kc dn T k) {o : Obj} {w2 : World} (hg : (wq.alloc o).grownBy w2 out.ownBlock) : SB w R w2 := by
  have hlt := h.lt
  have hz : (wq.alloc o).heap.size = wq.heap.size + 1 := by simp
  refine ⟨(h.below.alloc (by omega) o).grown hg (by omega) (fun q hq => by have := (h.own.lt q hq).1; omega), ?_⟩
  rw [hg.block _ (by omega) (h.ownNe _ (by omega)), Below.heap_alloc _ _ _ (by omega)]
  exact h.box3
theorem SB.cell0 (h : SB w R z) {v : Value} (hR : R[0]? = some v) : z.cell? ⟨w.heap.size, 0, none⟩ = some v := by
  rw [cell_of_row z _ 0 _ _ _ h.box, hR]
theorem SB.range (h : SB w R z) {b o : Nat} {cs : List Value} (hb : b < w.heap.size) (hr : w.rangeAt b o cs) : z.rangeAt b o cs := rangeAt_block hr (h.below.block b hb)
end

theorem WL.start (w : World) (R Z : Array Value) (o : Obj) (nw fu : Int) (K : Option Addr) (kn kc : Nat) (dn : Bool) (T : List Int) :
    WL w ((((w.alloc (.cells R 32)).alloc (.cells Z 32)).alloc o).alloc (.cells #[.slice none 0 0, .int .i64 nw, .int .i64 fu, .slice K kn kc, .bool dn] 32)) R Z (.slice none 0 0) nw fu K kn kc dn T 0 := by
  refine ⟨((((Below.refl _ _).alloc (Nat.le_refl _) _).alloc (by simp) _).alloc (by simp; omega) _).alloc (by simp; omega) _, ?_, ?_, ?_, ?_⟩
  · rw [Below.heap_alloc _ _ _ (by simp; omega), Below.heap_alloc _ _ _ (by simp; omega)]
    exact heap_alloc2_old w _ _
  · rw [Below.heap_alloc _ _ _ (by simp), Below.heap_alloc _ _ _ (by simp)]
    exact heap_alloc2_new w _ _
  · have := heap_alloc_new (((w.alloc (.cells R 32)).alloc (.cells Z 32)).alloc o) (.cells #[.slice none 0 0, .int .i64 nw, .int .i64 fu, .slice K kn kc, .bool dn] 32)
    simpa using this
  · exact World.ownsRow_nil _ _ _ _

theorem upd_snoc {S T : List Int} {p : Nat} {l : List Int} {kf : Nat → Bool} {k : Nat} {x : Int} (hT : T = upd S p l kf) (hk : k < S.length) (hx : (if p ≤ k ∧ k - p < l.length ∧ kf (k - p) = true then l.getD (k - p) 0 else S.getD k 0) = x) :
    T.take (k + 1) = T.take k ++ [x] := by
  have hl : k < T.length := by rw [hT, upd_length]; exact hk
  rw [take_snoc T k hl]
  congr 2
  have h1 := upd_get S p l kf k hk
  rw [← hT, hx, List.getElem?_eq_getElem hl] at h1
  injection h1

def WriteR (w : World) (R Z : Array Value) (nw fu : Int) (K : Option Addr) (kn kc : Nat) (T : List Int) (i : Value) (wx : World) : Prop :=
  ∃ (k : Nat) (out : Value), i = .int .i64 k ∧ k ≤ T.length ∧ Hid (WL w wx R Z out nw fu K kn kc false T k)

/-- What the reference's Write returns. -/
def RefWrote (w : World) (T : List Int) (nw fu : Int) (K : Option Addr) (kn kc : Nat) (dn : Bool) (code : Int) (e : Ending) (w' : World) : Prop :=
  ∃ A c, e = .returned (.tuple #[.agg #[.slice A T.length c, .int .i64 nw, .int .i64 fu, .slice K kn kc, .bool dn], .int .i64 code]) ∧ w'.ownsRow (w.heap.size + 4) 48 64 (.slice A T.length c) T.length (flat T) ∧ Below w.heap.size w w'

set_option maxHeartbeats 4000000 in
set_option maxRecDepth 100000 in
theorem refWrite_core (A : Option Addr) (c : Nat) (nw fu : Int) (K : Option Addr) (kc : Nat) (w : World) (X Y : Nat → Prop) (S : List Int) (kl : List Bool) (p n c2 : Nat) (L : Option Addr) (l : List Int) (R Z : Array Value) (T : List Int)
    (hR : R = #[.slice A S.length c, .int .i64 nw, .int .i64 fu, .slice K kl.length kc, .bool false]) (hZ : Z = #[.slice none 0 0, .int .i64 0, .int .i64 0, .slice none 0 0, .bool false]) (hT : T = upd S p l (keptB fu kl))
    (hA : Lz X w 64 A S.length (flat S)) (hk : Lz X w 1 K kl.length (BL kl)) (hL : Lz Y w 64 L n (flat l)) (hln : l.length = n) (hs : S.length ≤ 100000) (hp : p < S.length) (hi : p + n ≤ S.length)
    (hf1 : -9223372036854775808 ≤ fu) (hf2 : fu ≤ 9223372036854775807) (hw0 : 0 ≤ nw) (hw1 : nw ≤ 1000000) :
    Calls Try.prog 25 #[.agg #[.slice A S.length c, .int .i64 nw, .int .i64 fu, .slice K kl.length kc, .bool false], .int .i64 p, .slice L n c2] w
      (if fu = 0 then RefWrote w T nw fu K kl.length kc true 4 else RefWrote w T (nw + 1) (if 0 < fu then fu - 1 else fu) K kl.length kc false 0) := by
  have IN := Lib.hid (fun W => inside_yesW A S.length c nw fu K kl.length kc false W p n hs (by unfold Inside; omega))
  have hTl : T.length = S.length := by rw [hT, upd_length]
  obtain ⟨bS, oS, rfl, _, HbS, hrS⟩ := hA.spot (by omega)
  have HRS := Lib.hid hrS
  have HK := Lib.hid hk
  have HL := Lib.hid hL
  have HT := Lib.hid hT
  have HLN := Lib.hid hln
  have ST := Lib.hid (WL.start w R Z (.cells R 32) nw fu K kl.length kc false T)
  rw [hR, hZ] at ST
  have HR0 : Hid (R[0]? = some (.slice (some ⟨bS, oS, none⟩) S.length c)) := by rw [hR]; rfl
  have HRR := Lib.hid hR
  have HTL := Lib.hid hTl
  have HZZ := Lib.hid hZ
  clear hA hrS hk hL hT hln hR hTl hZ
  generalize hRes : (if fu = 0 then _ else _ : Ending → World → Prop) = Res
  have HRes := Lib.hid hRes
  clear hRes
  go_enter Try.func25, Try.ntmps25
  go_wp2_with (go_at_call 31; refine (IN.out _).mono ?_; rintro e w1 ⟨rfl, rfl⟩)
  go_loopw [9] (fun i wx => WriteR w R Z nw fu K kl.length kc T i wx) (fun i _ => S.length - (intOf i).toNat)
  case atStart => exact ⟨0, _, rfl, Nat.zero_le _, by rw [HRR.out, HZZ.out]; exact ST⟩
  case round =>
    clear ST
    obtain ⟨k, out, rfl, hkT, WQ⟩ := hrel
    have hkS : k ≤ S.length := by have := HTL.out; omega
    have hlt3 := WQ.out.lt
    have b0 : wr.cell? ⟨w.heap.size, 0, none⟩ = some (.slice (some ⟨bS, oS, none⟩) S.length c) := by rw [cell_of_row wr _ 0 _ _ _ WQ.out.box3, HRR.out]; rfl
    have b1 : wr.cell? ⟨w.heap.size, 1, none⟩ = some (.int .i64 nw) := by rw [cell_of_row wr _ 1 _ _ _ WQ.out.box3, HRR.out]; rfl
    have b2 : wr.cell? ⟨w.heap.size, 2, none⟩ = some (.int .i64 fu) := by rw [cell_of_row wr _ 2 _ _ _ WQ.out.box3, HRR.out]; rfl
    have b3 : wr.cell? ⟨w.heap.size, 3, none⟩ = some (.slice K kl.length kc) := by rw [cell_of_row wr _ 3 _ _ _ WQ.out.box3, HRR.out]; rfl
    have b4 : wr.cell? ⟨w.heap.size, 4, none⟩ = some (.bool false) := by rw [cell_of_row wr _ 4 _ _ _ WQ.out.box3, HRR.out]; rfl
    by_cases hlt : k < S.length
    · by_cases hc1 : p ≤ k ∧ k - p < n
      · obtain ⟨q, hq⟩ : ∃ q, q = k - p := ⟨_, rfl⟩
        have hqn : q < n := by omega
        have hsub : (k : Int) - (p : Int) = (q : Int) := by omega
        have hpk : p ≤ k := hc1.1
        have HQ := Lib.hid hq
        have KE := Lib.hid (kept_any (some ⟨bS, oS, none⟩) S.length c nw fu K kc false wr X kl q (HK.out.below (WQ.out.below)))
        cases hkb : keptB fu kl q with
        | true =>
          have hql : q < l.length := by rw [HLN.out]; exact hqn
          obtain ⟨bL, oL, rfl, _, HbL, hrL⟩ := HL.out.spot (by omega)
          have RX := Lib.hid (flat_range hrL hql)
          have HX : Hid (T.take (k + 1) = T.take k ++ [l[q]]) := upd_snoc HT.out hlt (by rw [if_pos ⟨hpk, by omega, by rw [← hq]; exact hkb⟩, ← hq]; simp [List.getD, hql])
          rw [hkb] at KE
          generalize l[q] = x at *
          clear hrL hkb hq hc1
          go_wp2_with (go_at_call 32; refine KE.out.mono ?_; rintro e w1 ⟨rfl, hb⟩; have WQ1 := Lib.hid (WQ.out.under hb); clear hb WQ hlt3 b0 b1 b2 b3 b4 KE; have WQ := WQ1; clear WQ1)
          have WZ := Lib.hid WQ.out.drew
          refine wp_region_held_drew (S := SB w R) (by kernel_rfl) (SB.of WZ.out) (fun hS => ?_)
          generalize w1.drew = z at *
          have c8 := WZ.out.cell8
          have zlt := WZ.out.lt
          refine takeH (i := 0) (d := 47) (v := ?vbh0) rfl (by kernel_rfl) (by kernel_rfl) (by kernel_rfl) (fun _ _ _ h => h) rfl (by rfl) ?ybh0 hS ?rbh0
          case ybh0 => (intro wz hz; have hc0 := hz.cell0 HR0.out; go_simp <;> with_reducible rfl)
          simp only [List.setIfInBounds_toArray, List.set_cons_zero, List.set_cons_succ]
          refine takeH (i := 2) (d := 49) (v := ?vbh2) rfl (by kernel_rfl) (by kernel_rfl) (by kernel_rfl) (fun _ _ _ h => h) rfl (by rfl) ?ybh2 hS ?rbh2
          case ybh2 => (intro wz hz; have hc0 := hz.cell0 HR0.out; go_simp <;> with_reducible rfl)
          simp only [List.setIfInBounds_toArray, List.set_cons_zero, List.set_cons_succ]
          refine takeH (i := 3) (d := 50) (v := ?vbh3) rfl (by kernel_rfl) (by kernel_rfl) (by kernel_rfl) (fun _ _ _ h => h) rfl (by rfl) ?ybh3 hS ?rbh3
          case ybh3 => (intro wz hz; have hc0 := hz.cell0 HR0.out; go_simp <;> with_reducible rfl)
          simp only [List.setIfInBounds_toArray, List.set_cons_zero, List.set_cons_succ]
          refine takeH (i := 4) (d := 51) (v := ?vbh4) rfl (by kernel_rfl) (by kernel_rfl) (by kernel_rfl) (fun _ _ _ h => h) rfl (by rfl) ?ybh4 hS ?rbh4
          case ybh4 => (intro wz hz; have hc0 := hz.cell0 HR0.out; go_simp <;> with_reducible rfl)
          simp only [List.setIfInBounds_toArray, List.set_cons_zero, List.set_cons_succ]
          refine takeH (i := 5) (d := 52) (v := .int .i64 (q : Int)) rfl (by kernel_rfl) (by kernel_rfl) (by kernel_rfl) (fun _ _ _ h => h) rfl (by rfl) ?ybh5 hS ?rbh5
          case ybh5 => (intro wz hz; have hc0 := hz.cell0 HR0.out; go_simp <;> (first | done | (rw [IntKind.wrap_i64]; omega)))
          simp only [List.setIfInBounds_toArray, List.set_cons_zero, List.set_cons_succ]
          refine takeH (i := 6) (d := 53) (v := ?vbh6) rfl (by kernel_rfl) (by kernel_rfl) (by kernel_rfl) (fun _ _ _ h => h) rfl (by rfl) ?ybh6 hS ?rbh6
          case ybh6 => (intro wz hz; have hc0 := hz.cell0 HR0.out; go_simp <;> with_reducible rfl)
          simp only [List.setIfInBounds_toArray, List.set_cons_zero, List.set_cons_succ]
          refine takeH (i := 7) (d := 54) (v := .agg (secA x)) rfl (by kernel_rfl) (by kernel_rfl) (by kernel_rfl) (fun _ _ _ h => h) rfl (by rfl) ?ybh7 hS ?rbh7
          case ybh7 => (intro wz hz; have hc0 := hz.cell0 HR0.out; exact exec_load 48 (.tmp 53) rfl bL (oL + q * 64) rfl (sec x) _ (hz.range HbL RX.out) Try.underlying48 rfl (by rw [sec_length]; exact arr_size))
          simp only [List.setIfInBounds_toArray, List.set_cons_zero, List.set_cons_succ]
          refine wpAnyH_ready (rs := [1, 8]) (by kernel_rfl) (by simp) ?_
          refine AllReadyH.cons rfl (fun K0 hK => ?_) (AllReadyH.cons rfl (fun K0 hK => ?_) AllReadyH.nil)
          · go_simp
            refine hK.out _ _ hS (fun hT => ?_)
            clear hK hT
            refine wpAnyH_ready (rs := [8]) (by kernel_rfl) (by simp) ?_
            refine AllReadyH.cons rfl (fun K0 hK => ?_) AllReadyH.nil
            rw [if_pos (by rfl)]
            refine wp_lit 55 (.tmp 54) rfl rfl x rfl ?_
            simp only [List.setIfInBounds_toArray, List.set_cons_zero, List.set_cons_succ]
            refine hK.out _ _ (hS.alloc _) (fun hT => ?_)
            clear hK hS
            have hS := hT
            clear hT
            have c9 : (z.alloc (.cells (secA x) 48)).cell? ⟨w.heap.size + 3, 0, none⟩ = some out := (World.cell?_alloc_lt _ _ _ (by exact zlt)).trans c8
            refine wpAnyH_ready (rs := [9]) (by kernel_rfl) (by simp) ?_
            refine AllReadyH.cons rfl (fun K0 hK => ?_) AllReadyH.nil
            rw [if_pos (by rfl)]
            refine wp_append 56 (.tmp 48) (.tmp 55) rfl rfl (w.heap.size + 4) out k (flat (T.take k)) rfl (WZ.out.own.alloc _) z.heap.size x rfl (row_range _ _ _ _ (heap_alloc_new z _)) (by omega) (by simp; omega) ?_
            intro v2 w2 hown hg
            simp only [List.setIfInBounds_toArray, List.set_cons_zero, List.set_cons_succ]
            obtain ⟨A2, cz, rfl, _, _⟩ := own_slice hown
            have HO := Lib.hid hown
            have HG := Lib.hid hg
            obtain ⟨d8, f8⟩ := WZ.out.kept8 hg
            refine hK.out _ _ (SB.app WZ.out hg) (fun hT => ?_)
            clear hK hS hown hg
            have hS := hT
            clear hT
            refine takeH (i := 10) (d := 57) (v := ?vbk10) rfl (by kernel_rfl) (by kernel_rfl) (by kernel_rfl) (fun _ _ _ h => h) rfl (by rfl) ?ybk10 hS ?rbk10
            case ybk10 => (intro wz hz; go_simp <;> with_reducible rfl)
            simp only [List.setIfInBounds_toArray, List.set_cons_zero, List.set_cons_succ]
            refine wpAnyH_ready (rs := [11]) (by kernel_rfl) (by simp) ?_
            refine AllReadyH.cons rfl (fun K0 hK => ?_) AllReadyH.nil
            go_simp
            have WN := Lib.hid (WZ.out.next HX.out HO.out HG.out)
            refine hK.out _ _ (SB.of WN.out) (fun hT => ?_)
            clear hK hS hT
            refine wpAnyH_done (by kernel_rfl) ?_ _
            clear c8 d8 f8
            go_wp2_with fail
            exact ⟨⟨k + 1, _, by go_num, by have := HTL.out; omega, WN⟩, by simp [intOf]; omega⟩
          · rw [if_pos (by rfl)]
            refine wp_lit 55 (.tmp 54) rfl rfl x rfl ?_
            simp only [List.setIfInBounds_toArray, List.set_cons_zero, List.set_cons_succ]
            refine hK.out _ _ (hS.alloc _) (fun hT => ?_)
            clear hK hS
            have hS := hT
            clear hT
            have c9 : (z.alloc (.cells (secA x) 48)).cell? ⟨w.heap.size + 3, 0, none⟩ = some out := (World.cell?_alloc_lt _ _ _ (by exact zlt)).trans c8
            refine wpAnyH_ready (rs := [1]) (by kernel_rfl) (by simp) ?_
            refine AllReadyH.cons rfl (fun K0 hK => ?_) AllReadyH.nil
            go_simp
            refine hK.out _ _ hS (fun hT => ?_)
            clear hK hT
            refine wpAnyH_ready (rs := [9]) (by kernel_rfl) (by simp) ?_
            refine AllReadyH.cons rfl (fun K0 hK => ?_) AllReadyH.nil
            rw [if_pos (by rfl)]
            refine wp_append 56 (.tmp 48) (.tmp 55) rfl rfl (w.heap.size + 4) out k (flat (T.take k)) rfl (WZ.out.own.alloc _) z.heap.size x rfl (row_range _ _ _ _ (heap_alloc_new z _)) (by omega) (by simp; omega) ?_
            intro v2 w2 hown hg
            simp only [List.setIfInBounds_toArray, List.set_cons_zero, List.set_cons_succ]
            obtain ⟨A2, cz, rfl, _, _⟩ := own_slice hown
            have HO := Lib.hid hown
            have HG := Lib.hid hg
            obtain ⟨d8, f8⟩ := WZ.out.kept8 hg
            refine hK.out _ _ (SB.app WZ.out hg) (fun hT => ?_)
            clear hK hS hown hg
            have hS := hT
            clear hT
            refine takeH (i := 10) (d := 57) (v := ?vbl10) rfl (by kernel_rfl) (by kernel_rfl) (by kernel_rfl) (fun _ _ _ h => h) rfl (by rfl) ?ybl10 hS ?rbl10
            case ybl10 => (intro wz hz; go_simp <;> with_reducible rfl)
            simp only [List.setIfInBounds_toArray, List.set_cons_zero, List.set_cons_succ]
            refine wpAnyH_ready (rs := [11]) (by kernel_rfl) (by simp) ?_
            refine AllReadyH.cons rfl (fun K0 hK => ?_) AllReadyH.nil
            go_simp
            have WN := Lib.hid (WZ.out.next HX.out HO.out HG.out)
            refine hK.out _ _ (SB.of WN.out) (fun hT => ?_)
            clear hK hS hT
            refine wpAnyH_done (by kernel_rfl) ?_ _
            clear c8 d8 f8
            go_wp2_with fail
            exact ⟨⟨k + 1, _, by go_num, by have := HTL.out; omega, WN⟩, by simp [intOf]; omega⟩
        | false =>
          have RX := Lib.hid (flat_range HRS.out hlt)
          have HX : Hid (T.take (k + 1) = T.take k ++ [S[k]]) := upd_snoc HT.out hlt (by rw [if_neg (fun h => by rw [← hq, hkb] at h; exact absurd h.2.2 (by decide))]; simp [List.getD, hlt])
          rw [hkb] at KE
          generalize S[k] = x at *
          clear hkb hq hc1
          go_wp2_with (go_at_call 32; refine KE.out.mono ?_; rintro e w1 ⟨rfl, hb⟩; have WQ1 := Lib.hid (WQ.out.under hb); clear hb WQ hlt3 b0 b1 b2 b3 b4 KE; have WQ := WQ1; clear WQ1)
          have WZ := Lib.hid WQ.out.drew
          refine wp_region_held_drew (S := SB w R) (by kernel_rfl) (SB.of WZ.out) (fun hS => ?_)
          generalize w1.drew = z at *
          have c8 := WZ.out.cell8
          have zlt := WZ.out.lt
          refine takeH (i := 0) (d := 58) (v := ?vch0) rfl (by kernel_rfl) (by kernel_rfl) (by kernel_rfl) (fun _ _ _ h => h) rfl (by rfl) ?ych0 hS ?rch0
          case ych0 => (intro wz hz; have hc0 := hz.cell0 HR0.out; go_simp <;> with_reducible rfl)
          simp only [List.setIfInBounds_toArray, List.set_cons_zero, List.set_cons_succ]
          refine takeH (i := 2) (d := 60) (v := ?vch2) rfl (by kernel_rfl) (by kernel_rfl) (by kernel_rfl) (fun _ _ _ h => h) rfl (by rfl) ?ych2 hS ?rch2
          case ych2 => (intro wz hz; have hc0 := hz.cell0 HR0.out; go_simp <;> with_reducible rfl)
          simp only [List.setIfInBounds_toArray, List.set_cons_zero, List.set_cons_succ]
          refine takeH (i := 3) (d := 61) (v := ?vch3) rfl (by kernel_rfl) (by kernel_rfl) (by kernel_rfl) (fun _ _ _ h => h) rfl (by rfl) ?ych3 hS ?rch3
          case ych3 => (intro wz hz; have hc0 := hz.cell0 HR0.out; go_simp <;> with_reducible rfl)
          simp only [List.setIfInBounds_toArray, List.set_cons_zero, List.set_cons_succ]
          refine takeH (i := 4) (d := 62) (v := ?vch4) rfl (by kernel_rfl) (by kernel_rfl) (by kernel_rfl) (fun _ _ _ h => h) rfl (by rfl) ?ych4 hS ?rch4
          case ych4 => (intro wz hz; have hc0 := hz.cell0 HR0.out; go_simp <;> with_reducible rfl)
          simp only [List.setIfInBounds_toArray, List.set_cons_zero, List.set_cons_succ]
          refine takeH (i := 5) (d := 63) (v := ?vch5) rfl (by kernel_rfl) (by kernel_rfl) (by kernel_rfl) (fun _ _ _ h => h) rfl (by rfl) ?ych5 hS ?rch5
          case ych5 => (intro wz hz; have hc0 := hz.cell0 HR0.out; go_simp <;> with_reducible rfl)
          simp only [List.setIfInBounds_toArray, List.set_cons_zero, List.set_cons_succ]
          refine takeH (i := 6) (d := 64) (v := .agg (secA x)) rfl (by kernel_rfl) (by kernel_rfl) (by kernel_rfl) (fun _ _ _ h => h) rfl (by rfl) ?ych6 hS ?rch6
          case ych6 => (intro wz hz; have hc0 := hz.cell0 HR0.out; exact exec_load 48 (.tmp 63) rfl bS (oS + k * 64) rfl (sec x) _ (hz.range HbS RX.out) Try.underlying48 rfl (by rw [sec_length]; exact arr_size))
          simp only [List.setIfInBounds_toArray, List.set_cons_zero, List.set_cons_succ]
          refine wpAnyH_ready (rs := [1, 7]) (by kernel_rfl) (by simp) ?_
          refine AllReadyH.cons rfl (fun K0 hK => ?_) (AllReadyH.cons rfl (fun K0 hK => ?_) AllReadyH.nil)
          · go_simp
            refine hK.out _ _ hS (fun hT => ?_)
            clear hK hT
            refine wpAnyH_ready (rs := [7]) (by kernel_rfl) (by simp) ?_
            refine AllReadyH.cons rfl (fun K0 hK => ?_) AllReadyH.nil
            rw [if_pos (by rfl)]
            refine wp_lit 65 (.tmp 64) rfl rfl x rfl ?_
            simp only [List.setIfInBounds_toArray, List.set_cons_zero, List.set_cons_succ]
            refine hK.out _ _ (hS.alloc _) (fun hT => ?_)
            clear hK hS
            have hS := hT
            clear hT
            have c9 : (z.alloc (.cells (secA x) 48)).cell? ⟨w.heap.size + 3, 0, none⟩ = some out := (World.cell?_alloc_lt _ _ _ (by exact zlt)).trans c8
            refine wpAnyH_ready (rs := [8]) (by kernel_rfl) (by simp) ?_
            refine AllReadyH.cons rfl (fun K0 hK => ?_) AllReadyH.nil
            rw [if_pos (by rfl)]
            refine wp_append 66 (.tmp 59) (.tmp 65) rfl rfl (w.heap.size + 4) out k (flat (T.take k)) rfl (WZ.out.own.alloc _) z.heap.size x rfl (row_range _ _ _ _ (heap_alloc_new z _)) (by omega) (by simp; omega) ?_
            intro v2 w2 hown hg
            simp only [List.setIfInBounds_toArray, List.set_cons_zero, List.set_cons_succ]
            obtain ⟨A2, cz, rfl, _, _⟩ := own_slice hown
            have HO := Lib.hid hown
            have HG := Lib.hid hg
            obtain ⟨d8, f8⟩ := WZ.out.kept8 hg
            refine hK.out _ _ (SB.app WZ.out hg) (fun hT => ?_)
            clear hK hS hown hg
            have hS := hT
            clear hT
            refine takeH (i := 9) (d := 67) (v := ?vck9) rfl (by kernel_rfl) (by kernel_rfl) (by kernel_rfl) (fun _ _ _ h => h) rfl (by rfl) ?yck9 hS ?rck9
            case yck9 => (intro wz hz; go_simp <;> with_reducible rfl)
            simp only [List.setIfInBounds_toArray, List.set_cons_zero, List.set_cons_succ]
            refine wpAnyH_ready (rs := [10]) (by kernel_rfl) (by simp) ?_
            refine AllReadyH.cons rfl (fun K0 hK => ?_) AllReadyH.nil
            go_simp
            have WN := Lib.hid (WZ.out.next HX.out HO.out HG.out)
            refine hK.out _ _ (SB.of WN.out) (fun hT => ?_)
            clear hK hS hT
            refine wpAnyH_done (by kernel_rfl) ?_ _
            clear c8 d8 f8
            go_wp2_with fail
            exact ⟨⟨k + 1, _, by go_num, by have := HTL.out; omega, WN⟩, by simp [intOf]; omega⟩
          · rw [if_pos (by rfl)]
            refine wp_lit 65 (.tmp 64) rfl rfl x rfl ?_
            simp only [List.setIfInBounds_toArray, List.set_cons_zero, List.set_cons_succ]
            refine hK.out _ _ (hS.alloc _) (fun hT => ?_)
            clear hK hS
            have hS := hT
            clear hT
            have c9 : (z.alloc (.cells (secA x) 48)).cell? ⟨w.heap.size + 3, 0, none⟩ = some out := (World.cell?_alloc_lt _ _ _ (by exact zlt)).trans c8
            refine wpAnyH_ready (rs := [1]) (by kernel_rfl) (by simp) ?_
            refine AllReadyH.cons rfl (fun K0 hK => ?_) AllReadyH.nil
            go_simp
            refine hK.out _ _ hS (fun hT => ?_)
            clear hK hT
            refine wpAnyH_ready (rs := [8]) (by kernel_rfl) (by simp) ?_
            refine AllReadyH.cons rfl (fun K0 hK => ?_) AllReadyH.nil
            rw [if_pos (by rfl)]
            refine wp_append 66 (.tmp 59) (.tmp 65) rfl rfl (w.heap.size + 4) out k (flat (T.take k)) rfl (WZ.out.own.alloc _) z.heap.size x rfl (row_range _ _ _ _ (heap_alloc_new z _)) (by omega) (by simp; omega) ?_
            intro v2 w2 hown hg
            simp only [List.setIfInBounds_toArray, List.set_cons_zero, List.set_cons_succ]
            obtain ⟨A2, cz, rfl, _, _⟩ := own_slice hown
            have HO := Lib.hid hown
            have HG := Lib.hid hg
            obtain ⟨d8, f8⟩ := WZ.out.kept8 hg
            refine hK.out _ _ (SB.app WZ.out hg) (fun hT => ?_)
            clear hK hS hown hg
            have hS := hT
            clear hT
            refine takeH (i := 9) (d := 67) (v := ?vcl9) rfl (by kernel_rfl) (by kernel_rfl) (by kernel_rfl) (fun _ _ _ h => h) rfl (by rfl) ?ycl9 hS ?rcl9
            case ycl9 => (intro wz hz; go_simp <;> with_reducible rfl)
            simp only [List.setIfInBounds_toArray, List.set_cons_zero, List.set_cons_succ]
            refine wpAnyH_ready (rs := [10]) (by kernel_rfl) (by simp) ?_
            refine AllReadyH.cons rfl (fun K0 hK => ?_) AllReadyH.nil
            go_simp
            have WN := Lib.hid (WZ.out.next HX.out HO.out HG.out)
            refine hK.out _ _ (SB.of WN.out) (fun hT => ?_)
            clear hK hS hT
            refine wpAnyH_done (by kernel_rfl) ?_ _
            clear c8 d8 f8
            go_wp2_with fail
            exact ⟨⟨k + 1, _, by go_num, by have := HTL.out; omega, WN⟩, by simp [intOf]; omega⟩
      · have RX := Lib.hid (flat_range HRS.out hlt)
        have HX : Hid (T.take (k + 1) = T.take k ++ [S[k]]) := upd_snoc HT.out hlt (by rw [if_neg (fun h => hc1 ⟨h.1, by have := HLN.out; omega⟩)]; simp [List.getD, hlt])
        generalize S[k] = x at *
        by_cases hpk : p ≤ k
        · have hnq : ¬ (k : Int) - (p : Int) < (n : Int) := by omega
          have dq : decide ((k : Int) - (p : Int) < (n : Int)) = false := by simpa using hnq
          clear hc1 b1 b2 b3 b4
          go_wp2_with fail
          have WZ := Lib.hid WQ.out.drew
          refine wp_region_held_drew (S := SB w R) (by kernel_rfl) (SB.of WZ.out) (fun hS => ?_)
          generalize wr.drew = z at *
          have c8 := WZ.out.cell8
          have zlt := WZ.out.lt
          refine takeH (i := 0) (d := 58) (v := ?vdh0) rfl (by kernel_rfl) (by kernel_rfl) (by kernel_rfl) (fun _ _ _ h => h) rfl (by rfl) ?ydh0 hS ?rdh0
          case ydh0 => (intro wz hz; have hc0 := hz.cell0 HR0.out; go_simp <;> with_reducible rfl)
          simp only [List.setIfInBounds_toArray, List.set_cons_zero, List.set_cons_succ]
          refine takeH (i := 2) (d := 60) (v := ?vdh2) rfl (by kernel_rfl) (by kernel_rfl) (by kernel_rfl) (fun _ _ _ h => h) rfl (by rfl) ?ydh2 hS ?rdh2
          case ydh2 => (intro wz hz; have hc0 := hz.cell0 HR0.out; go_simp <;> with_reducible rfl)
          simp only [List.setIfInBounds_toArray, List.set_cons_zero, List.set_cons_succ]
          refine takeH (i := 3) (d := 61) (v := ?vdh3) rfl (by kernel_rfl) (by kernel_rfl) (by kernel_rfl) (fun _ _ _ h => h) rfl (by rfl) ?ydh3 hS ?rdh3
          case ydh3 => (intro wz hz; have hc0 := hz.cell0 HR0.out; go_simp <;> with_reducible rfl)
          simp only [List.setIfInBounds_toArray, List.set_cons_zero, List.set_cons_succ]
          refine takeH (i := 4) (d := 62) (v := ?vdh4) rfl (by kernel_rfl) (by kernel_rfl) (by kernel_rfl) (fun _ _ _ h => h) rfl (by rfl) ?ydh4 hS ?rdh4
          case ydh4 => (intro wz hz; have hc0 := hz.cell0 HR0.out; go_simp <;> with_reducible rfl)
          simp only [List.setIfInBounds_toArray, List.set_cons_zero, List.set_cons_succ]
          refine takeH (i := 5) (d := 63) (v := ?vdh5) rfl (by kernel_rfl) (by kernel_rfl) (by kernel_rfl) (fun _ _ _ h => h) rfl (by rfl) ?ydh5 hS ?rdh5
          case ydh5 => (intro wz hz; have hc0 := hz.cell0 HR0.out; go_simp <;> with_reducible rfl)
          simp only [List.setIfInBounds_toArray, List.set_cons_zero, List.set_cons_succ]
          refine takeH (i := 6) (d := 64) (v := .agg (secA x)) rfl (by kernel_rfl) (by kernel_rfl) (by kernel_rfl) (fun _ _ _ h => h) rfl (by rfl) ?ydh6 hS ?rdh6
          case ydh6 => (intro wz hz; have hc0 := hz.cell0 HR0.out; exact exec_load 48 (.tmp 63) rfl bS (oS + k * 64) rfl (sec x) _ (hz.range HbS RX.out) Try.underlying48 rfl (by rw [sec_length]; exact arr_size))
          simp only [List.setIfInBounds_toArray, List.set_cons_zero, List.set_cons_succ]
          refine wpAnyH_ready (rs := [1, 7]) (by kernel_rfl) (by simp) ?_
          refine AllReadyH.cons rfl (fun K0 hK => ?_) (AllReadyH.cons rfl (fun K0 hK => ?_) AllReadyH.nil)
          · go_simp
            refine hK.out _ _ hS (fun hT => ?_)
            clear hK hT
            refine wpAnyH_ready (rs := [7]) (by kernel_rfl) (by simp) ?_
            refine AllReadyH.cons rfl (fun K0 hK => ?_) AllReadyH.nil
            rw [if_pos (by rfl)]
            refine wp_lit 65 (.tmp 64) rfl rfl x rfl ?_
            simp only [List.setIfInBounds_toArray, List.set_cons_zero, List.set_cons_succ]
            refine hK.out _ _ (hS.alloc _) (fun hT => ?_)
            clear hK hS
            have hS := hT
            clear hT
            have c9 : (z.alloc (.cells (secA x) 48)).cell? ⟨w.heap.size + 3, 0, none⟩ = some out := (World.cell?_alloc_lt _ _ _ (by exact zlt)).trans c8
            refine wpAnyH_ready (rs := [8]) (by kernel_rfl) (by simp) ?_
            refine AllReadyH.cons rfl (fun K0 hK => ?_) AllReadyH.nil
            rw [if_pos (by rfl)]
            refine wp_append 66 (.tmp 59) (.tmp 65) rfl rfl (w.heap.size + 4) out k (flat (T.take k)) rfl (WZ.out.own.alloc _) z.heap.size x rfl (row_range _ _ _ _ (heap_alloc_new z _)) (by omega) (by simp; omega) ?_
            intro v2 w2 hown hg
            simp only [List.setIfInBounds_toArray, List.set_cons_zero, List.set_cons_succ]
            obtain ⟨A2, cz, rfl, _, _⟩ := own_slice hown
            have HO := Lib.hid hown
            have HG := Lib.hid hg
            obtain ⟨d8, f8⟩ := WZ.out.kept8 hg
            refine hK.out _ _ (SB.app WZ.out hg) (fun hT => ?_)
            clear hK hS hown hg
            have hS := hT
            clear hT
            refine takeH (i := 9) (d := 67) (v := ?vdk9) rfl (by kernel_rfl) (by kernel_rfl) (by kernel_rfl) (fun _ _ _ h => h) rfl (by rfl) ?ydk9 hS ?rdk9
            case ydk9 => (intro wz hz; go_simp <;> with_reducible rfl)
            simp only [List.setIfInBounds_toArray, List.set_cons_zero, List.set_cons_succ]
            refine wpAnyH_ready (rs := [10]) (by kernel_rfl) (by simp) ?_
            refine AllReadyH.cons rfl (fun K0 hK => ?_) AllReadyH.nil
            go_simp
            have WN := Lib.hid (WZ.out.next HX.out HO.out HG.out)
            refine hK.out _ _ (SB.of WN.out) (fun hT => ?_)
            clear hK hS hT
            refine wpAnyH_done (by kernel_rfl) ?_ _
            clear c8 d8 f8
            go_wp2_with fail
            exact ⟨⟨k + 1, _, by go_num, by have := HTL.out; omega, WN⟩, by simp [intOf]; omega⟩
          · rw [if_pos (by rfl)]
            refine wp_lit 65 (.tmp 64) rfl rfl x rfl ?_
            simp only [List.setIfInBounds_toArray, List.set_cons_zero, List.set_cons_succ]
            refine hK.out _ _ (hS.alloc _) (fun hT => ?_)
            clear hK hS
            have hS := hT
            clear hT
            have c9 : (z.alloc (.cells (secA x) 48)).cell? ⟨w.heap.size + 3, 0, none⟩ = some out := (World.cell?_alloc_lt _ _ _ (by exact zlt)).trans c8
            refine wpAnyH_ready (rs := [1]) (by kernel_rfl) (by simp) ?_
            refine AllReadyH.cons rfl (fun K0 hK => ?_) AllReadyH.nil
            go_simp
            refine hK.out _ _ hS (fun hT => ?_)
            clear hK hT
            refine wpAnyH_ready (rs := [8]) (by kernel_rfl) (by simp) ?_
            refine AllReadyH.cons rfl (fun K0 hK => ?_) AllReadyH.nil
            rw [if_pos (by rfl)]
            refine wp_append 66 (.tmp 59) (.tmp 65) rfl rfl (w.heap.size + 4) out k (flat (T.take k)) rfl (WZ.out.own.alloc _) z.heap.size x rfl (row_range _ _ _ _ (heap_alloc_new z _)) (by omega) (by simp; omega) ?_
            intro v2 w2 hown hg
            simp only [List.setIfInBounds_toArray, List.set_cons_zero, List.set_cons_succ]
            obtain ⟨A2, cz, rfl, _, _⟩ := own_slice hown
            have HO := Lib.hid hown
            have HG := Lib.hid hg
            obtain ⟨d8, f8⟩ := WZ.out.kept8 hg
            refine hK.out _ _ (SB.app WZ.out hg) (fun hT => ?_)
            clear hK hS hown hg
            have hS := hT
            clear hT
            refine takeH (i := 9) (d := 67) (v := ?vdl9) rfl (by kernel_rfl) (by kernel_rfl) (by kernel_rfl) (fun _ _ _ h => h) rfl (by rfl) ?ydl9 hS ?rdl9
            case ydl9 => (intro wz hz; go_simp <;> with_reducible rfl)
            simp only [List.setIfInBounds_toArray, List.set_cons_zero, List.set_cons_succ]
            refine wpAnyH_ready (rs := [10]) (by kernel_rfl) (by simp) ?_
            refine AllReadyH.cons rfl (fun K0 hK => ?_) AllReadyH.nil
            go_simp
            have WN := Lib.hid (WZ.out.next HX.out HO.out HG.out)
            refine hK.out _ _ (SB.of WN.out) (fun hT => ?_)
            clear hK hS hT
            refine wpAnyH_done (by kernel_rfl) ?_ _
            clear c8 d8 f8
            go_wp2_with fail
            exact ⟨⟨k + 1, _, by go_num, by have := HTL.out; omega, WN⟩, by simp [intOf]; omega⟩
        · clear hc1 b1 b2 b3 b4
          go_wp2_with fail
          have WZ := Lib.hid WQ.out.drew
          refine wp_region_held_drew (S := SB w R) (by kernel_rfl) (SB.of WZ.out) (fun hS => ?_)
          generalize wr.drew = z at *
          have c8 := WZ.out.cell8
          have zlt := WZ.out.lt
          refine takeH (i := 0) (d := 58) (v := ?veh0) rfl (by kernel_rfl) (by kernel_rfl) (by kernel_rfl) (fun _ _ _ h => h) rfl (by rfl) ?yeh0 hS ?reh0
          case yeh0 => (intro wz hz; have hc0 := hz.cell0 HR0.out; go_simp <;> with_reducible rfl)
          simp only [List.setIfInBounds_toArray, List.set_cons_zero, List.set_cons_succ]
          refine takeH (i := 2) (d := 60) (v := ?veh2) rfl (by kernel_rfl) (by kernel_rfl) (by kernel_rfl) (fun _ _ _ h => h) rfl (by rfl) ?yeh2 hS ?reh2
          case yeh2 => (intro wz hz; have hc0 := hz.cell0 HR0.out; go_simp <;> with_reducible rfl)
          simp only [List.setIfInBounds_toArray, List.set_cons_zero, List.set_cons_succ]
          refine takeH (i := 3) (d := 61) (v := ?veh3) rfl (by kernel_rfl) (by kernel_rfl) (by kernel_rfl) (fun _ _ _ h => h) rfl (by rfl) ?yeh3 hS ?reh3
          case yeh3 => (intro wz hz; have hc0 := hz.cell0 HR0.out; go_simp <;> with_reducible rfl)
          simp only [List.setIfInBounds_toArray, List.set_cons_zero, List.set_cons_succ]
          refine takeH (i := 4) (d := 62) (v := ?veh4) rfl (by kernel_rfl) (by kernel_rfl) (by kernel_rfl) (fun _ _ _ h => h) rfl (by rfl) ?yeh4 hS ?reh4
          case yeh4 => (intro wz hz; have hc0 := hz.cell0 HR0.out; go_simp <;> with_reducible rfl)
          simp only [List.setIfInBounds_toArray, List.set_cons_zero, List.set_cons_succ]
          refine takeH (i := 5) (d := 63) (v := ?veh5) rfl (by kernel_rfl) (by kernel_rfl) (by kernel_rfl) (fun _ _ _ h => h) rfl (by rfl) ?yeh5 hS ?reh5
          case yeh5 => (intro wz hz; have hc0 := hz.cell0 HR0.out; go_simp <;> with_reducible rfl)
          simp only [List.setIfInBounds_toArray, List.set_cons_zero, List.set_cons_succ]
          refine takeH (i := 6) (d := 64) (v := .agg (secA x)) rfl (by kernel_rfl) (by kernel_rfl) (by kernel_rfl) (fun _ _ _ h => h) rfl (by rfl) ?yeh6 hS ?reh6
          case yeh6 => (intro wz hz; have hc0 := hz.cell0 HR0.out; exact exec_load 48 (.tmp 63) rfl bS (oS + k * 64) rfl (sec x) _ (hz.range HbS RX.out) Try.underlying48 rfl (by rw [sec_length]; exact arr_size))
          simp only [List.setIfInBounds_toArray, List.set_cons_zero, List.set_cons_succ]
          refine wpAnyH_ready (rs := [1, 7]) (by kernel_rfl) (by simp) ?_
          refine AllReadyH.cons rfl (fun K0 hK => ?_) (AllReadyH.cons rfl (fun K0 hK => ?_) AllReadyH.nil)
          · go_simp
            refine hK.out _ _ hS (fun hT => ?_)
            clear hK hT
            refine wpAnyH_ready (rs := [7]) (by kernel_rfl) (by simp) ?_
            refine AllReadyH.cons rfl (fun K0 hK => ?_) AllReadyH.nil
            rw [if_pos (by rfl)]
            refine wp_lit 65 (.tmp 64) rfl rfl x rfl ?_
            simp only [List.setIfInBounds_toArray, List.set_cons_zero, List.set_cons_succ]
            refine hK.out _ _ (hS.alloc _) (fun hT => ?_)
            clear hK hS
            have hS := hT
            clear hT
            have c9 : (z.alloc (.cells (secA x) 48)).cell? ⟨w.heap.size + 3, 0, none⟩ = some out := (World.cell?_alloc_lt _ _ _ (by exact zlt)).trans c8
            refine wpAnyH_ready (rs := [8]) (by kernel_rfl) (by simp) ?_
            refine AllReadyH.cons rfl (fun K0 hK => ?_) AllReadyH.nil
            rw [if_pos (by rfl)]
            refine wp_append 66 (.tmp 59) (.tmp 65) rfl rfl (w.heap.size + 4) out k (flat (T.take k)) rfl (WZ.out.own.alloc _) z.heap.size x rfl (row_range _ _ _ _ (heap_alloc_new z _)) (by omega) (by simp; omega) ?_
            intro v2 w2 hown hg
            simp only [List.setIfInBounds_toArray, List.set_cons_zero, List.set_cons_succ]
            obtain ⟨A2, cz, rfl, _, _⟩ := own_slice hown
            have HO := Lib.hid hown
            have HG := Lib.hid hg
            obtain ⟨d8, f8⟩ := WZ.out.kept8 hg
            refine hK.out _ _ (SB.app WZ.out hg) (fun hT => ?_)
            clear hK hS hown hg
            have hS := hT
            clear hT
            refine takeH (i := 9) (d := 67) (v := ?vek9) rfl (by kernel_rfl) (by kernel_rfl) (by kernel_rfl) (fun _ _ _ h => h) rfl (by rfl) ?yek9 hS ?rek9
            case yek9 => (intro wz hz; go_simp <;> with_reducible rfl)
            simp only [List.setIfInBounds_toArray, List.set_cons_zero, List.set_cons_succ]
            refine wpAnyH_ready (rs := [10]) (by kernel_rfl) (by simp) ?_
            refine AllReadyH.cons rfl (fun K0 hK => ?_) AllReadyH.nil
            go_simp
            have WN := Lib.hid (WZ.out.next HX.out HO.out HG.out)
            refine hK.out _ _ (SB.of WN.out) (fun hT => ?_)
            clear hK hS hT
            refine wpAnyH_done (by kernel_rfl) ?_ _
            clear c8 d8 f8
            go_wp2_with fail
            exact ⟨⟨k + 1, _, by go_num, by have := HTL.out; omega, WN⟩, by simp [intOf]; omega⟩
          · rw [if_pos (by rfl)]
            refine wp_lit 65 (.tmp 64) rfl rfl x rfl ?_
            simp only [List.setIfInBounds_toArray, List.set_cons_zero, List.set_cons_succ]
            refine hK.out _ _ (hS.alloc _) (fun hT => ?_)
            clear hK hS
            have hS := hT
            clear hT
            have c9 : (z.alloc (.cells (secA x) 48)).cell? ⟨w.heap.size + 3, 0, none⟩ = some out := (World.cell?_alloc_lt _ _ _ (by exact zlt)).trans c8
            refine wpAnyH_ready (rs := [1]) (by kernel_rfl) (by simp) ?_
            refine AllReadyH.cons rfl (fun K0 hK => ?_) AllReadyH.nil
            go_simp
            refine hK.out _ _ hS (fun hT => ?_)
            clear hK hT
            refine wpAnyH_ready (rs := [8]) (by kernel_rfl) (by simp) ?_
            refine AllReadyH.cons rfl (fun K0 hK => ?_) AllReadyH.nil
            rw [if_pos (by rfl)]
            refine wp_append 66 (.tmp 59) (.tmp 65) rfl rfl (w.heap.size + 4) out k (flat (T.take k)) rfl (WZ.out.own.alloc _) z.heap.size x rfl (row_range _ _ _ _ (heap_alloc_new z _)) (by omega) (by simp; omega) ?_
            intro v2 w2 hown hg
            simp only [List.setIfInBounds_toArray, List.set_cons_zero, List.set_cons_succ]
            obtain ⟨A2, cz, rfl, _, _⟩ := own_slice hown
            have HO := Lib.hid hown
            have HG := Lib.hid hg
            obtain ⟨d8, f8⟩ := WZ.out.kept8 hg
            refine hK.out _ _ (SB.app WZ.out hg) (fun hT => ?_)
            clear hK hS hown hg
            have hS := hT
            clear hT
            refine takeH (i := 9) (d := 67) (v := ?vel9) rfl (by kernel_rfl) (by kernel_rfl) (by kernel_rfl) (fun _ _ _ h => h) rfl (by rfl) ?yel9 hS ?rel9
            case yel9 => (intro wz hz; go_simp <;> with_reducible rfl)
            simp only [List.setIfInBounds_toArray, List.set_cons_zero, List.set_cons_succ]
            refine wpAnyH_ready (rs := [10]) (by kernel_rfl) (by simp) ?_
            refine AllReadyH.cons rfl (fun K0 hK => ?_) AllReadyH.nil
            go_simp
            have WN := Lib.hid (WZ.out.next HX.out HO.out HG.out)
            refine hK.out _ _ (SB.of WN.out) (fun hT => ?_)
            clear hK hS hT
            refine wpAnyH_done (by kernel_rfl) ?_ _
            clear c8 d8 f8
            go_wp2_with fail
            exact ⟨⟨k + 1, _, by go_num, by have := HTL.out; omega, WN⟩, by simp [intOf]; omega⟩
    · have KT : Hid (k = T.length) := by
        show k = T.length
        have := HTL.out
        omega
      obtain ⟨A2, cz, rfl, _, _⟩ := own_slice WQ.out.own
      have ZZ := HZZ.out
      have c80 := cell_of_row wr _ 0 _ _ _ WQ.out.box8
      have c81 := cell_of_row wr _ 1 _ _ _ WQ.out.box8
      have c82 := cell_of_row wr _ 2 _ _ _ WQ.out.box8
      have c83 := cell_of_row wr _ 3 _ _ _ WQ.out.box8
      have c84 := cell_of_row wr _ 4 _ _ _ WQ.out.box8
      have f8 := fun i => frozen_of_row wr _ i _ _ WQ.out.box8
      have c60 : wr.cell? ⟨w.heap.size + 1, 0, none⟩ = some (.slice none 0 0) := by rw [cell_of_row wr _ 0 _ _ _ WQ.out.box6, ZZ]; rfl
      have c61 : wr.cell? ⟨w.heap.size + 1, 1, none⟩ = some (.int .i64 0) := by rw [cell_of_row wr _ 1 _ _ _ WQ.out.box6, ZZ]; rfl
      have c62 : wr.cell? ⟨w.heap.size + 1, 2, none⟩ = some (.int .i64 0) := by rw [cell_of_row wr _ 2 _ _ _ WQ.out.box6, ZZ]; rfl
      have c63 : wr.cell? ⟨w.heap.size + 1, 3, none⟩ = some (.slice none 0 0) := by rw [cell_of_row wr _ 3 _ _ _ WQ.out.box6, ZZ]; rfl
      have c64 : wr.cell? ⟨w.heap.size + 1, 4, none⟩ = some (.bool false) := by rw [cell_of_row wr _ 4 _ _ _ WQ.out.box6, ZZ]; rfl
      have f6 := fun i => frozen_of_row wr _ i _ _ WQ.out.box6
      simp at c80 c81 c82 c83 c84
      clear ZZ b3 b4
      by_cases h0 : fu = 0
      · subst h0
        have HR4 := HRes.out
        rw [if_pos rfl] at HR4
        subst HR4
        clear HRes
        go_wp2_with fail
        refine bodyPost_ret (v := .tuple #[.agg #[.slice A2 k cz, .int .i64 nw, .int .i64 0, .slice K kl.length kc, .bool true], .int .i64 4]) (by simp [results, Try.results25, go_sem, c60, c61, c62, c63, c64]) rfl ⟨A2, cz, by rw [KT.out], ?_, ?_⟩
        · iterate 6 refine ownsRow_setCell_below ?_ (by show _ < w.heap.size + 4; simp only []; omega) _
          have ho := WQ.out.own
          rw [List.take_of_length_le (by rw [KT.out]; exact Nat.le_refl _), KT.out] at ho
          rw [← KT.out] at ho ⊢
          exact ho
        · iterate 6 refine Below.setCell ?_ (by show w.heap.size ≤ _; simp only []; omega) _
          exact WQ.out.below
      · have q0 : (fu == 0) = false := by simpa using h0
        have HR4 := HRes.out
        rw [if_neg h0] at HR4
        subst HR4
        clear HRes
        by_cases hpos : 0 < fu
        · have d1 : decide (0 < fu) = true := by simpa using hpos
          rw [if_pos hpos]
          go_wp2_with fail
          refine bodyPost_ret (v := .tuple #[.agg #[.slice A2 k cz, .int .i64 (nw + 1), .int .i64 (fu - 1), .slice K kl.length kc, .bool false], .int .i64 0]) (by simp [results, Try.results25, go_sem, c60, c61, c62, c63, c64]) rfl ⟨A2, cz, by rw [KT.out], ?_, ?_⟩
          · iterate 7 refine ownsRow_setCell_below ?_ (by show _ < w.heap.size + 4; simp only []; omega) _
            have ho := WQ.out.own
            rw [List.take_of_length_le (by rw [KT.out]; exact Nat.le_refl _), KT.out] at ho
            rw [← KT.out] at ho ⊢
            exact ho
          · iterate 7 refine Below.setCell ?_ (by show w.heap.size ≤ _; simp only []; omega) _
            exact WQ.out.below
        · have d1 : decide (0 < fu) = false := by simpa using hpos
          rw [if_neg hpos]
          go_wp2_with fail
          refine bodyPost_ret (v := .tuple #[.agg #[.slice A2 k cz, .int .i64 (nw + 1), .int .i64 fu, .slice K kl.length kc, .bool false], .int .i64 0]) (by simp [results, Try.results25, go_sem, c60, c61, c62, c63, c64]) rfl ⟨A2, cz, by rw [KT.out], ?_, ?_⟩
          · iterate 6 refine ownsRow_setCell_below ?_ (by show _ < w.heap.size + 4; simp only []; omega) _
            have ho := WQ.out.own
            rw [List.take_of_length_le (by rw [KT.out]; exact Nat.le_refl _), KT.out] at ho
            rw [← KT.out] at ho ⊢
            exact ho
          · iterate 6 refine Below.setCell ?_ (by show w.heap.size ≤ _; simp only []; omega) _
            exact WQ.out.below
end Go.Proofs.Ytggcfbglfmcdmaa
