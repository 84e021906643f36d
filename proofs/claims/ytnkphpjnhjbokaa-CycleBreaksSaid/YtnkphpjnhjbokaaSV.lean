/-
  The walks of slices.AppendSeq, slices.Collect and slices.Sorted over the keys of a map of numbers; Reach.
  Conditions: at most 1000 arcs; numbers below 2^64.
-/
import Derived.Test.YtnkphpjnhjbokaaSU
namespace Go.Proofs.Ytnkphpjnhjbokaa
open Go.RowKit Go.Shelf
attribute [local go_sem] Oper.semAt_some
set_option maxRecDepth 100000

/-- What AppendSeq returns. -/
def AppR (w : World) (f : Nat → Option Value) (e : Ending) (w' : World) : Prop := ∃ v ks, e = .returned v ∧ (ks.Nodup ∧ ∀ x, x ∈ ks ↔ (f x).isSome = true) ∧ w'.ownsRow w.heap.size 23 1 v ks.length (UC ks) ∧ Below w.heap.size w w'
theorem u_get (x : Nat) (w : World) : ∀ j u, (UC [x])[j]? = some u → (w.alloc (.cells #[.int .u64 (x : Int)] 23)).cell? ((⟨w.heap.size, 0, none⟩ : Addr).add j) = some u := fun j u hu => by
  obtain ⟨a, ha, _, h⟩ := (lies_new w (.int .u64 (x : Int)) 23).spot (by omega)
  injection ha with ha
  subst ha
  exact h j u hu
set_option maxHeartbeats 8000000 in
theorem AppendSeq_any (Bm b N : Nat) (f : Nat → Option Value) (w : World) (hm : w.cell? ⟨Bm, 0, none⟩ = some (.map (some b))) (hown : MapAt u64V U64 w b f) (hN : ∀ ks : List Nat, ks.Nodup → (∀ a ∈ ks, (f a).isSome = true) → ks.length ≤ N) (hNs : N ≤ 100000) :
    Calls Try.prog 45 #[.slice none 0 0, .func (.func 40) #[] #[.pointer (some ⟨Bm, 0, none⟩)]] w (AppR w f) := by
  refine (callsIn_wide (n := 3)).1 ?_
  have HM := Lib.hid hm
  have HO := Lib.hid hown
  have HN := Lib.hid hN
  clear hm hown hN
  refine callsIn_of_wp_marks Try.func45 rfl trivial ?_ rfl
  simp only [Try.ntmps45, List.size_toArray, List.length_cons, List.length_nil, Nat.reduceAdd, Nat.reduceSub, Array.replicate_succ, Array.replicate_zero, List.push_toArray, List.append_toArray, List.nil_append, List.cons_append]
  gi_wp2
  obtain ⟨W0, hW0⟩ : ∃ W0, w.alloc (.cells #[.slice none 0 0] 25) = W0 := ⟨_, rfl⟩
  have hs0 : W0.heap.size = w.heap.size + 1 := by rw [← hW0]; simp
  have bS : Boxed W0 w.heap.size 25 (.slice none 0 0) := by rw [← hW0]; exact Boxed.new w _ _
  have hB0 : Below w.heap.size w W0 := by rw [← hW0]; exact (Below.refl _ w).alloc (Nat.le_refl _) _
  have hm0 : W0.cell? ⟨Bm, 0, none⟩ = some (.map (some b)) := (hB0.cell (p := ⟨Bm, 0, none⟩) (World.block_lt_of_cell? w _ HM.out)).trans HM.out
  have hO0 : MapAt u64V U64 W0 b f := HO.out.move (hB0.block b HO.out.lt)
  rw [hW0]
  clear hW0
  refine wpIn_rangeFunc_ownF rfl (by omega) (gf := 40) (lb := #[.pointer (some ⟨Bm, 0, none⟩)]) rfl trivial (enters_of Try.func40 (by kernel_rfl) rfl)
    (keys_stops _ Bm b N f W0 hm0 hO0 HN.out) walksK_t walksK_b (Below.refl _ _) (fun _ => rfl)
    (fun pre W => (∃ v, Boxed W w.heap.size 25 v ∧ W.ownsRow w.heap.size 23 1 v pre.length (UC pre) ∧ True) ∧ Below w.heap.size w W)
    (fun _ _ _ => False)
    (OwnFrom.and (Own.from (holdsRow_own _ _ _ _ 1 (fun pre : List Nat => pre.length) UC (fun _ _ => True)) _) (ownFrom_below (Nat.le_refl _) (by omega)))
    (fun _ _ _ _ _ hs _ _ => hs)
    ⟨⟨_, bS, World.ownsRow_nil _ _ _ _, trivial⟩, hB0⟩
    (fun x => { tmps := #[.slice none 0 0, .func (.func 40) #[] #[.pointer (some ⟨Bm, 0, none⟩)], .pointer (some ⟨w.heap.size, 0, none⟩), undef, .slice none 0 0, .int .u64 (x : Int), .func (.func 40) #[] #[.pointer (some ⟨Bm, 0, none⟩)], .int .u64 (x : Int), undef, undef, undef, undef, undef], defers := [] })
    ?assign ?body ?done ?stop
  case assign =>
    intro l x W K hK
    unfold encK
    gi_wp2
    simpa using hK
  case body =>
    rintro l pre x W ⟨⟨v, hv, hrow, _⟩, hB⟩ hlt
    have q2 := hv.cell
    have q3 := hv.frozen
    have hle := hB.size
    obtain ⟨i0, hi, hz0, hz1, hz2⟩ := u_info
    gi_wp2_with (gi_at_builtin; refine wpListIn_append_own _ rfl _ _ 25 rfl w.heap.size 23 i0 (.int .u64 0) 1 8 Try.underlying25 hi hz0 hz1 hz2 rfl (by decide) _ _ _ rfl (hrow.alloc _) ⟨W.heap.size, 0, none⟩ 1 1 (UC [x]) rfl rfl (u_get x W) (fun u hu => by simp [UC] at hu; rw [hu]; rfl) (by simp only [maxLen]; omega) (by omega) (by simp; omega) ?_
                 intro v' w1 hown' hgrow _
                 obtain ⟨g', cap', rfl⟩ := ownsRow_succ hown'
                 obtain ⟨hv1, hv2, hr2, hk2, hb2⟩ := hv.appended (by decide) hrow hle (Nat.le_refl _) hown' hgrow
                 have hc1 := hv1.cell
                 have hf1 := hv1.frozen)
    have hr3 := hr2
    rw [← UC_append] at hr3
    have e : pre.length + 1 = (pre ++ [x]).length := by simp
    rw [e] at hr3 hv2 hk2 hb2 ⊢
    exact ⟨hk2, hk2.walks, ⟨⟨_, hv2, hr3, trivial⟩, hB.trans hb2⟩⟩
  case done =>
    rintro D xs W hD hxs ⟨⟨v, hv, hrow, _⟩, hB⟩ hK
    have HX := Lib.hid hxs
    have q2 := hv.cell
    clear hxs
    gi_wp2
    refine ⟨by simp, .inl ⟨_, _, rfl, run_takeDeferred hK, ?_⟩⟩
    exact ⟨_, results_tmp rfl _ _ _, v, xs, rfl, HX.out, ownsRow_putObj hrow _ hK rfl, hB.trans (belowK_b (w := w) (Nat.le_refl _) W D _ _ (by omega) hK rfl rfl)⟩
  case stop =>
    rintro D c pre W _ _ h _
    exact h.elim
theorem Collect_any (Bm b N : Nat) (f : Nat → Option Value) (w : World) (hm : w.cell? ⟨Bm, 0, none⟩ = some (.map (some b))) (hown : MapAt u64V U64 w b f) (hN : ∀ ks : List Nat, ks.Nodup → (∀ a ∈ ks, (f a).isSome = true) → ks.length ≤ N) (hNs : N ≤ 100000) :
    Calls Try.prog 38 #[.func (.func 40) #[] #[.pointer (some ⟨Bm, 0, none⟩)]] w (AppR w f) := by
  have HA := Lib.hid (AppendSeq_any Bm b N f w hm hown hN hNs)
  clear hm hown hN
  go_enter Try.func38, Try.ntmps38
  go_wp2_with fail
  refine HA.out.mono ?_
  rintro e w' ⟨v, ks, rfl, h1, h2, h3⟩
  have H1 := Lib.hid h1
  have H2 := Lib.hid h2
  have H3 := Lib.hid h3
  clear h1 h2 h3 HA
  go_wp2_with fail
  go_ret
  exact ⟨v, ks, rfl, H1.out, H2.out, H3.out⟩
set_option maxHeartbeats 800000 in
theorem ins_nil (A : Option Addr) (c : Nat) (w : World) : Calls Try.prog 58 #[.slice A 0 c, .int .i64 0, .int .i64 0] w fun e w' => e = .returned (.tuple #[]) ∧ w' = w := by
  go_enter Try.func58, Try.ntmps58
  go_wp2_with fail
  go_loop [6] (fun v => v = .int .i64 1) (fun _ => 0)
  case atStart => rfl
  case round =>
    subst hrel
    go_wp2_with fail
    go_end0
    exact ⟨rfl, rfl⟩
set_option maxHeartbeats 800000 in
theorem pdq_nil (A : Option Addr) (c : Nat) (w : World) : Calls Try.prog 46 #[.slice A 0 c, .int .i64 0, .int .i64 0, .int .i64 0] w fun e w' => e = .returned (.tuple #[]) ∧ w' = w := by
  have HI := Lib.hid (ins_nil A c w)
  go_enter Try.func46, Try.ntmps46
  go_wp2_with fail
  go_loop [1, 2, 3] (fun a b l => a = .int .i64 0 ∧ b = .int .i64 0 ∧ l = .int .i64 0) (fun _ _ _ => 0)
  case atStart => exact ⟨rfl, rfl, rfl⟩
  case round =>
    obtain ⟨rfl, rfl, rfl⟩ := hrel
    go_wp2_with fail
    refine HI.out.mono ?_
    rintro e w' ⟨rfl, rfl⟩
    go_wp2_with fail
    refine bodyPost_ret (v := .tuple #[]) (results_none rfl _ _ _) rfl ?_
    exact ⟨rfl, rfl⟩
set_option maxHeartbeats 800000 in
theorem sort_nil (A : Option Addr) (c : Nat) (w : World) : Calls Try.prog 39 #[.slice A 0 c] w fun e w' => e = .returned (.tuple #[]) ∧ w' = w := by
  have HP := Lib.hid (pdq_nil A c w)
  have HB := Lib.hid (blen_any 0 (by omega) w)
  go_enter Try.func39, Try.ntmps39
  go_wp2_with fail
  refine HB.out.mono ?_
  rintro e w' ⟨rfl, rfl⟩
  go_wp2_with fail
  refine HP.out.mono ?_
  rintro e y ⟨rfl, rfl⟩
  go_wp2_with fail
  go_end0
  exact ⟨rfl, rfl⟩
/-- The keys, rising. -/
def SrtR (w : World) (f : Nat → Option Value) (e : Ending) (w' : World) : Prop := ∃ A m c l, e = .returned (.slice A m c) ∧ l.length = m ∧ l.Pairwise (· < ·) ∧ (∀ x, x ∈ l ↔ (f x).isSome = true) ∧ RowS w l (.slice A m c) w'
theorem risingN {l ks : List Nat} (hp : l.Perm ks) (hn : ks.Nodup) (hs : l.Pairwise (· ≤ ·)) : l.Pairwise (· < ·) :=
  (hs.and (hp.nodup_iff.2 hn)).imp fun {_ _} h => Nat.lt_of_le_of_ne h.1 h.2
set_option maxHeartbeats 800000 in
theorem Sorted_any (Bm b N : Nat) (f : Nat → Option Value) (w : World) (hm : w.cell? ⟨Bm, 0, none⟩ = some (.map (some b))) (hown : MapAt u64V U64 w b f) (hN : ∀ ks : List Nat, ks.Nodup → (∀ a ∈ ks, (f a).isSome = true) → ks.length ≤ N) (hNs : N ≤ 100000) :
    Calls Try.prog 28 #[.func (.func 40) #[] #[.pointer (some ⟨Bm, 0, none⟩)]] w (SrtR w f) := by
  have HA := Lib.hid (Collect_any Bm b N f w hm hown hN hNs)
  have HN := Lib.hid hN
  clear hm hown hN
  go_enter Try.func28, Try.ntmps28
  go_wp2_with fail
  refine HA.out.mono ?_
  rintro e w1 ⟨v, ks, rfl, h1, h2, h3⟩
  have hlen : ks.length ≤ 100000 := Nat.le_trans (HN.out ks h1.1 (fun a ha => (h1.2 a).1 ha)) hNs
  obtain ⟨m, hm⟩ : ∃ m, ks.length = m := ⟨_, rfl⟩
  rw [hm] at h2 hlen
  obtain ⟨A, c, hv, _⟩ := own_slice h2
  subst hv
  have H1 := Lib.hid h1
  have H2 : Hid (RowS w ks (.slice A m c) w1) := ⟨h3, by rw [hm]; exact h2⟩
  have HM := Lib.hid hm
  clear h1 h2 h3 HA hm
  have HS : Hid (Calls Try.prog 39 #[.slice A m c] w1 (fun e w' => e = .returned (.tuple #[]) ∧ ∃ l, l.Perm ks ∧ l.Pairwise (· ≤ ·) ∧ RowS w l (.slice A m c) w')) := by
    by_cases h0 : 0 < m
    · exact sort_own h0 HM.out (by omega) H2.out
    · obtain rfl : m = 0 := by omega
      have hk0 : ks = [] := List.eq_nil_of_length_eq_zero HM.out
      refine (sort_nil A c w1).mono ?_
      rintro e w' ⟨rfl, rfl⟩
      exact ⟨rfl, ks, List.Perm.refl _, by rw [hk0]; exact List.Pairwise.nil, H2.out⟩
  go_wp2_with fail
  refine HS.out.mono ?_
  rintro e w2 ⟨rfl, l, hp, hs, hr⟩
  have HP := Lib.hid hp
  have HSS := Lib.hid hs
  have HR := Lib.hid hr
  clear hp hs hr HS
  go_wp2_with fail
  go_ret
  exact ⟨A, m, c, l, rfl, by rw [HP.out.length_eq]; exact HM.out, risingN HP.out H1.out.1 HSS.out, fun x => by rw [HP.out.mem_iff]; exact H1.out.2 x, HR.out⟩
set_option maxHeartbeats 400000 in
theorem Keys_ret (b : Nat) (w : World) : Calls Try.prog 29 #[.map (some b)] w fun e w' => e = .returned (.func (.func 40) #[] #[.pointer (some ⟨w.heap.size, 0, none⟩)]) ∧ w' = w.alloc (.cells #[.map (some b)] 41) := Keys_any (some b) w
/-- What Reach returns. -/
def RchR (w : World) (l : List Ar) (x : Nat) (e : Ending) (z : World) : Prop := ∃ A m c, e = .returned (.slice A m c) ∧ (reachU l x l.length).length = m ∧ RowS w (reachU l x l.length) (.slice A m c) z
set_option maxHeartbeats 800000 in
theorem Reach_any (A : Option Addr) (n c : Nat) (l : List Ar) (x : Nat) (w : World) (h : Lz (fun _ => False) w 2 A n (arL l)) (hn : n ≤ 1000) (hU : ∀ a ∈ l, U64 a.2) :
    Calls Try.prog 15 #[.slice A n c, .int .u64 (x : Int)] w (RchR w l x) := by
  have HG := Lib.hid (graphOf_any (fun _ => False) n c A l w h (by omega))
  have HU := Lib.hid hU
  clear h hU
  go_enter Try.func15, Try.ntmps15
  go_wp2_with fail
  refine HG.out.mono ?_
  rintro e z ⟨B, cB, g, rfl, hG⟩
  have HGS := Lib.hid hG
  clear hG HG
  go_wp2_with fail
  refine (dist_graph x HGS.out hn HU.out).mono ?_
  rintro e y ⟨b, d, q, rfl, hD⟩
  have HDS := Lib.hid hD
  clear hD
  go_wp2_with fail
  refine (Keys_any (some b) y).mono ?_
  rintro e y2 ⟨rfl, hy2⟩
  have hb2 : Below y.heap.size y y2 := hy2 ▸ (Below.refl _ y).alloc (Nat.le_refl _) _
  have hc2 : y2.cell? ⟨y.heap.size, 0, none⟩ = some (.map (some b)) := hy2 ▸ (At.new y 41 #[.map (some b)]).cell 0
  have HS := Lib.hid (Sorted_any y.heap.size b 1000 (fD d) y2 hc2 (HDS.out.mp.move (hb2.block b HDS.out.mp.lt)) (fun ks hnd ha => by
    have h1 := nodup_len (s := ks) (t := q) hnd (fun v hv => (HDS.out.mem v).2 (by
      have := ha v hv
      unfold fD at this
      intro e0
      rw [if_pos e0] at this
      cases this))
    have h2 := HDS.out.len
    rw [HGS.out.perm.length_eq, HGS.out.len] at h2
    omega) (by omega))
  have HB2 := Lib.hid hb2
  clear hy2 hc2 hb2
  go_wp2_with fail
  refine HS.out.mono ?_
  rintro e y3 ⟨A3, m3, c3, r, rfl, h1, h2, h3, h4⟩
  have hr : r = reachU l x l.length := reach_is (d := d) (fun v => (isD_congr (mem_perm HGS.out.perm)).1 (HDS.out.is v)) h2 (fun v => by
    rw [h3 v]
    unfold fD
    by_cases e0 : d v = 0
    · rw [if_pos e0]; simp [e0]
    · rw [if_neg e0]; simp [e0])
  have HR : Hid (RchR w l x (.returned (.slice A3 m3 c3)) y3) := by
    have hlow := HGS.out.below.trans (HDS.out.low.mono HGS.out.below.size)
    have hlow2 := hlow.trans (HB2.out.mono hlow.size)
    refine ⟨A3, m3, c3, rfl, by rw [← hr]; exact h1, hr ▸ ⟨hlow2.trans (h4.below.mono hlow2.size), own_base h4.own hlow2.size⟩⟩
  clear h1 h2 h3 h4 hr HS
  go_wp2_with fail
  go_ret
  exact HR.out
end Go.Proofs.Ytnkphpjnhjbokaa
