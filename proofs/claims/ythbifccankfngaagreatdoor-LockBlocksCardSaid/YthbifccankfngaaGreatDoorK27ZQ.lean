/-
  The walks of slices.AppendSeq, slices.Collect and slices.SortedFunc over the keys of a map of things, and of Things.
  Conditions: fewer than 100000 things.
-/
import Derived.Test.YthbifccankfngaaGreatDoorK26ZQ
namespace Go.Proofs.YthbifccankfngaaGreatDoor
open Go.RowKit Go.Shelf
attribute [local go_sem] Oper.semAt_some
set_option maxRecDepth 100000

section
variable {F : Fence} {n : Nat} (w : World) {ops : Array Oper} {rest : List Oper} {o : Oper} {a : Act} {Q : Exit → Act → World → Prop}
theorem wpListIn_one (hg : o.guard = none) (x : Operand) (ho : o.op = Op.buildSlice 40 1 #[(0, x)]) (r : Rs) (hx : a.eval x = .agg (rsA r))
    (hK : wpListIn F n Tryz.prog ops Q rest (a.put o.dst (.slice (some ⟨w.heap.size, 0, none⟩) 1 1)) (w.alloc (.cells (rsA r) 33))) : wpListIn F n Tryz.prog ops Q (o :: rest) a w := by
  refine wpListIn_plain hg fun K' hK' => ?_
  unfold Oper.wpIn
  refine ⟨by simp [Oper.about, ho], ?_⟩
  rw [Oper.semAt_plain F _ _ (by rw [ho]; intro c hc'; cases hc')]
  have h1 := one_R r w
  have e : (#[((0 : Nat), x)].map fun p => (p.1, a.eval p.2)) = #[((0 : Nat), Value.agg (rsA r))] := by simp [hx]
  unfold execOp
  rw [ho]
  simp only [e, h1, Result.andThen, Sem.run_bind]
  exact hK' _ _ hK
end
theorem at_own (g : Nat) (t : TypeId) (cs : Array Value) {X Y : World} {row : Option Nat} (h : At X g t cs) (hg : X.grownBy Y row) (hr : ∀ r, row = some r → ∃ o : Obj, X.heap[r]? = some o ∧ o.isCells = false) : At Y g t cs :=
  h.grown hg fun e => by
    obtain ⟨o, ho, hc⟩ := hr g e.symm
    rw [show X.heap[g]? = _ from h] at ho
    cases ho
    cases hc
/-- What AppendSeq returns. -/
def AppR (w : World) (f : Rs → Option Value) (e : Ending) (w' : World) : Prop := ∃ v ks, e = .returned v ∧ (ks.Nodup ∧ ∀ x, x ∈ ks ↔ (f x).isSome = true) ∧ w'.ownsRow w.heap.size 33 2 v ks.length (rsL ks) ∧ Below w.heap.size w w'
theorem rsA_get (x : Rs) (w : World) : ∀ j u, (rsL [x])[j]? = some u → (w.alloc (.cells (rsA x) 33)).cell? ((⟨w.heap.size, 0, none⟩ : Addr).add j) = some u := fun j u hu => by
  obtain ⟨a, ha, _, h⟩ := (lies_rs (At.new w 33 (rsA x))).spot (by omega)
  injection ha with ha
  subst ha
  exact h j u hu
set_option maxHeartbeats 8000000 in
theorem AppendSeq_any (Bm b N : Nat) (f : Rs → Option Value) (w : World) (hm : w.cell? ⟨Bm, 0, none⟩ = some (.map (some b))) (hown : MapAt rsV RsOk w b f) (hN : ∀ ks : List Rs, ks.Nodup → (∀ a ∈ ks, (f a).isSome = true) → ks.length ≤ N) (hNs : N ≤ 100000) :
    Calls Tryz.prog 78 #[.slice none 0 0, .func (.func 60) #[] #[.pointer (some ⟨Bm, 0, none⟩)]] w (AppR w f) := by
  refine (callsIn_wide (n := 3)).1 ?_
  have HM := Lib.hid hm
  have HO := Lib.hid hown
  have HN := Lib.hid hN
  clear hm hown hN
  refine callsIn_of_wp_marks Tryz.func78 rfl trivial ?_ rfl
  simp only [Tryz.ntmps78, List.size_toArray, List.length_cons, List.length_nil, Nat.reduceAdd, Nat.reduceSub, Array.replicate_succ, Array.replicate_zero, List.push_toArray, List.append_toArray, List.nil_append, List.cons_append]
  gi_wp2
  obtain ⟨W0, hW0⟩ : ∃ W0, w.alloc (.cells #[.slice none 0 0] 40) = W0 := ⟨_, rfl⟩
  have hs0 : W0.heap.size = w.heap.size + 1 := by rw [← hW0]; simp
  have bS : Boxed W0 w.heap.size 40 (.slice none 0 0) := by rw [← hW0]; exact Boxed.new w _ _
  have hB0 : Below w.heap.size w W0 := by rw [← hW0]; exact (Below.refl _ w).alloc (Nat.le_refl _) _
  have hm0 : W0.cell? ⟨Bm, 0, none⟩ = some (.map (some b)) := (hB0.cell (p := ⟨Bm, 0, none⟩) (World.block_lt_of_cell? w _ HM.out)).trans HM.out
  have hO0 : MapAt rsV RsOk W0 b f := HO.out.move (hB0.block b HO.out.lt)
  rw [hW0]
  clear hW0
  refine wpIn_rangeFunc_ownH rfl (by omega) (gf := 60) (lb := #[.pointer (some ⟨Bm, 0, none⟩)]) rfl trivial (enters_of Tryz.func60 (by kernel_rfl) rfl)
    (keys_stops _ Bm b N f W0 hm0 hO0 HN.out) walksK_t walksK_b (Below.refl _ _) (fun _ => rfl)
    (fun pre W => (∃ v, Boxed W w.heap.size 40 v ∧ W.ownsRow w.heap.size 33 2 v pre.length (rsL pre) ∧ True) ∧ Below w.heap.size w W)
    (fun _ _ _ => False)
    (OwnFrom.and (Own.from (holdsRow_own _ _ _ _ 2 (fun pre : List Rs => pre.length) rsL (fun _ _ => True)) _) (ownFrom_below (Nat.le_refl _) (by omega)))
    (fun _ _ _ _ _ hs _ _ => hs)
    ⟨⟨_, bS, World.ownsRow_nil _ _ _ _, trivial⟩, hB0⟩
    (fun x a' W => ∃ Bx, w.heap.size < Bx ∧ At W Bx 33 (rsA x) ∧ a' = { tmps := #[.slice none 0 0, .func (.func 60) #[] #[.pointer (some ⟨Bm, 0, none⟩)], .pointer (some ⟨w.heap.size, 0, none⟩), undef, .slice none 0 0, .pointer (some ⟨Bx, 0, none⟩), .func (.func 60) #[] #[.pointer (some ⟨Bm, 0, none⟩)], .agg (rsA x), undef, undef, undef, undef, undef], defers := [] })
    (fun x a' _ X Y row hs hg hr => by obtain ⟨Bx, h1, h2, h3⟩ := hs; exact ⟨Bx, h1, at_own Bx _ _ h2 hg (fun r e => (hr r e).2), h3⟩)
    ?assign ?body ?done ?stop
  case assign =>
    rintro l pre x W K ⟨⟨v, hv, hrow, _⟩, hB⟩ hK
    unfold encK
    gi_wp2
    exact hK _ _ ((KeepsOthers.alloc _ _).from _) (KeepsWalks.alloc _ _) ⟨⟨v, hv.alloc _, hrow.alloc _, trivial⟩, hB.alloc hB.size _⟩ ⟨W.heap.size, hv.lt, At.new W _ (rsA x), rfl⟩
  case body =>
    rintro l pre x a' W hl ⟨r, hr⟩ ⟨⟨v, hv, hrow, _⟩, hB⟩ ⟨Bx, hBx, hA, rfl⟩ hlt
    have q0 : W.cell? ⟨Bx, 0, none⟩ = some (.int .i64 x.1) := hA.cell 0
    have q1 : W.cell? ⟨Bx, 1, none⟩ = some (.int .u64 (x.2 : Int)) := hA.cell 1
    have q2 := hv.cell
    have q3 := hv.frozen
    have hle := hB.size
    obtain ⟨i0, hi, hz0, hz1, hz2⟩ := r_info
    gi_wp2_with (first
      | refine wpListIn_one _ rfl (.tmp 9) rfl x rfl ?_
      | (gi_at_builtin; refine wpListIn_append_own _ rfl _ _ 40 rfl w.heap.size 33 i0 (rsV (0, 0)) 2 16 Tryz.underlying40 hi hz0 hz1 hz2 rfl (by decide) _ _ _ rfl (hrow.alloc _) ⟨W.heap.size, 0, none⟩ 1 1 (rsL [x]) rfl rfl (rsA_get x W) (rs_one1 x) (by simp only [maxLen]; omega) (by omega) (by simp; omega) ?_
         intro v' w1 hown' hgrow _
         obtain ⟨g', cap', rfl⟩ := ownsRow_succ hown'
         obtain ⟨hv1, hv2, hr2, hk2, hb2⟩ := hv.appended (by decide) hrow hle (Nat.le_refl _) hown' hgrow
         have hc1 := hv1.cell
         have hf1 := hv1.frozen))
    have hr3 := hr2
    rw [← rsL_append] at hr3
    have e : pre.length + 1 = (pre ++ [x]).length := by simp
    rw [e] at hr3 hv2 hk2 hb2 ⊢
    exact ⟨hk2.from _, hk2.walks, ⟨⟨_, hv2, hr3⟩, hB.trans hb2⟩⟩
  case done =>
    rintro D xs W hD hxs ⟨⟨v, hv, hrow, _⟩, hB⟩ hK
    have HX := Lib.hid hxs
    have q2 := hv.cell
    clear hxs
    gi_wp2
    refine ⟨by simp, .inl ⟨_, _, rfl, run_takeDeferred hK, ?_⟩⟩
    exact ⟨_, results_tmp rfl _ _ _, v, xs, rfl, HX.out, ownsRow_putObj hrow _ hK rfl, hB.trans (belowK_b (w := w) (Nat.le_refl _) W D _ _ (by omega) hK rfl rfl)⟩
  case stop =>
    rintro D c pre W _ _ h _
    exact h.elim
theorem Collect_any (Bm b N : Nat) (f : Rs → Option Value) (w : World) (hm : w.cell? ⟨Bm, 0, none⟩ = some (.map (some b))) (hown : MapAt rsV RsOk w b f) (hN : ∀ ks : List Rs, ks.Nodup → (∀ a ∈ ks, (f a).isSome = true) → ks.length ≤ N) (hNs : N ≤ 100000) :
    Calls Tryz.prog 59 #[.func (.func 60) #[] #[.pointer (some ⟨Bm, 0, none⟩)]] w (AppR w f) := by
  have HA := Lib.hid (AppendSeq_any Bm b N f w hm hown hN hNs)
  clear hm hown hN
  go_enter Tryz.func59, Tryz.ntmps59
  go_wp2_with fail
  refine HA.out.mono ?_
  rintro e w' ⟨v, ks, rfl, h1, h2, h3⟩
  have H1 := Lib.hid h1
  have H2 := Lib.hid h2
  have H3 := Lib.hid h3
  clear h1 h2 h3 HA
  go_wp2_with fail
  go_ret
  exact ⟨v, ks, rfl, H1.out, H2.out, H3.out⟩
/-- The keys, rising. -/
def SrtR (w : World) (f : Rs → Option Value) (e : Ending) (w' : World) : Prop := ∃ v ks, e = .returned v ∧ ((ks.Pairwise fun a b => ltR a b = true) ∧ ∀ x, x ∈ ks ↔ (f x).isSome = true) ∧ w'.ownsRow w.heap.size 33 2 v ks.length (rsL ks) ∧ Below w.heap.size w w'
theorem rising {l ks : List Rs} (hp : l.Perm ks) (hn : ks.Nodup) (hs : l.Pairwise fun a b => ltR b a = false) : l.Pairwise fun a b => ltR a b = true := by
  have hn2 : l.Nodup := hp.nodup_iff.2 hn
  exact (hs.and hn2).imp fun {a b} h => by
    rcases ltR_total h.2 with h1 | h1
    · exact h1
    · rw [h.1] at h1; cases h1
theorem SortedFunc_any (Bm b N : Nat) (f : Rs → Option Value) (w : World) (hm : w.cell? ⟨Bm, 0, none⟩ = some (.map (some b))) (hown : MapAt rsV RsOk w b f) (hN : ∀ ks : List Rs, ks.Nodup → (∀ a ∈ ks, (f a).isSome = true) → ks.length ≤ N) (hNs : N ≤ 100000) :
    Calls Tryz.prog 32 #[.func (.func 60) #[] #[.pointer (some ⟨Bm, 0, none⟩)], .func (.func 23) #[] #[]] w (SrtR w f) := by
  have HA := Lib.hid (Collect_any Bm b N f w hm hown hN hNs)
  have HN := Lib.hid hN
  clear hm hown hN
  go_enter Tryz.func32, Tryz.ntmps32
  go_wp2_with fail
  refine HA.out.mono ?_
  rintro e w1 ⟨v, ks, rfl, h1, h2, h3⟩
  have hlen : ks.length ≤ 100000 := Nat.le_trans (HN.out ks h1.1 (fun a ha => (h1.2 a).1 ha)) hNs
  have HS := Lib.hid (sort_any w.heap.size v ks w1 h2 hlen)
  have H1 := Lib.hid h1
  have H2 := Lib.hid h2
  have H3 := Lib.hid h3
  obtain ⟨A, c, hv, _⟩ := pl_own_slice h2
  subst hv
  clear h1 h2 h3 HA
  go_wp2_with fail
  refine HS.out.mono ?_
  rintro e w2 ⟨rfl, l, hp, hs, ho, hg⟩
  have HP := Lib.hid hp
  have HSS := Lib.hid hs
  have HO := Lib.hid ho
  have HG := Lib.hid hg
  clear hp hs ho hg HS
  go_wp2_with fail
  go_ret
  refine ⟨_, l, rfl, ⟨rising HP.out H1.out.1 HSS.out, fun x => by rw [HP.out.mem_iff]; exact H1.out.2 x⟩, ?_, H3.out.grown HG.out H3.out.size (fun k hk => (H2.out.lt k hk).1)⟩
  have := HO.out
  rw [HP.out.length_eq]
  exact this
/-- What Things returns. -/
def ThingsR (w : World) (s : TS) (e : Ending) (w' : World) : Prop := ∃ v l, e = .returned v ∧ ((l.Pairwise fun a b => ltR a b = true) ∧ ∀ r, r ∈ l ↔ (s.th r).isSome = true) ∧ w'.ownsRow w.heap.size 33 2 v l.length (rsL l) ∧ Below w.heap.size w w'
theorem Things_any (X : Nat → Prop) (g : Nat) (s : TS) (w : World) (h : Tt w g s X) (N : Nat) (hN : ∀ ks : List Rs, ks.Nodup → (∀ a ∈ ks, (s.th a).isSome = true) → ks.length ≤ N) (hNs : N ≤ 100000) :
    Calls Tryz.prog 11 #[.pointer (some ⟨g, 0, none⟩)] w (ThingsR w s) := by
  obtain ⟨B, b1, b2, b3, V, hv, _⟩ := h.ex
  have p0 : w.cell? ⟨g, 0, none⟩ = some (.map (some b1)) := hv.cell1
  obtain ⟨z, hz⟩ : ∃ z, w.alloc (.cells #[.map (some b1)] 57) = z := ⟨_, rfl⟩
  have hbel : Below w.heap.size w z := hz ▸ (Below.refl _ w).alloc (Nat.le_refl _) _
  have HB := Lib.hid hbel
  have hc : z.cell? ⟨w.heap.size, 0, none⟩ = some (.map (some b1)) := hz ▸ (At.new w 57 #[.map (some b1)]).cell 0
  have HS := Lib.hid (SortedFunc_any w.heap.size b1 N (fun r => (s.th r).map fun _ => thV (V (.hold r)) (V (.queue r))) z hc (hv.below hbel).ms.m1 (fun ks hn ha => hN ks hn (fun a hm => by have := ha a hm; simpa using this)) hNs)
  have HK := Lib.hid (Keys_any (some b1) w)
  have HZ := Lib.hid hz
  clear h hv hN hbel hz hc
  go_enter Tryz.func11, Tryz.ntmps11
  go_wp2_with fail
  refine HK.out.mono ?_
  rintro e w1 ⟨rfl, hw1⟩
  rw [HZ.out] at hw1
  subst hw1
  clear HK
  go_wp2_with fail
  refine HS.out.mono ?_
  rintro e w2 ⟨v, l, rfl, h1, h2, h3⟩
  have H1 := Lib.hid h1
  have H2 := Lib.hid h2
  have H3 := Lib.hid h3
  clear h1 h2 h3 HS p0
  go_wp2_with fail
  go_ret
  exact ⟨v, l, rfl, ⟨H1.out.1, fun r => by rw [H1.out.2 r]; simp⟩, own_base H2.out HB.out.size, HB.out.trans (H3.out.mono HB.out.size)⟩
end Go.Proofs.YthbifccankfngaaGreatDoor
