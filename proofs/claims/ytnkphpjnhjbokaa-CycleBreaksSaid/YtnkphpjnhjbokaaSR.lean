/-
  Find.
  Conditions: at most 1000 arcs; numbers below 2^64.
-/
import Derived.Test.YtnkphpjnhjbokaaSQ
namespace Go.Proofs.Ytnkphpjnhjbokaa
open Go.RowKit Go.Shelf
open Go.Maps (Keyed)
attribute [local go_sem] Oper.semAt_some
set_option maxRecDepth 100000

/-- What the loops over functions leave for the function's end: marks with no call behind them. -/
def Marks (B : Nat) (ds : List Deferred) (W : World) : Prop := ∀ d ∈ ds, ∃ D, d = { target := .collected D, args := #[] } ∧ B ≤ D ∧ W.heap[D]? = some (.deferred (some []))
def MarkNe (ds : List Deferred) : Prop := ds.Pairwise fun a b => a ≠ b
theorem Marks.keep {B : Nat} {ds : List Deferred} {W W' : World} (h : Marks B ds W) (hk : ∀ k o, B ≤ k → W.heap[k]? = some o → o.isCells = false → W'.heap[k]? = some o) : Marks B ds W' := fun d hd => by
  obtain ⟨D, h1, h2, h3⟩ := h d hd
  exact ⟨D, h1, h2, hk D _ h2 h3 rfl⟩
theorem leaves_marks {F : Fence} {n B : Nat} {P : Program} {fn : Func} {tmps : Array Value} {R : Ending → World → Prop} (J : World → Prop) (v : Value) (hJ : ∀ W D, J W → B ≤ D → W.heap[D]? = some (.deferred (some [])) → J (W.putObj D (.deferred none)))
    (hv : ∀ W, (results fn tmps).run P W = .ok v W) (hR : ∀ W, J W → R (.returned v) W) : ∀ (ds : List Deferred) (W : World), Marks B ds W → MarkNe ds → J W → LeavesInM F n P fn tmps R ds .returning W
  | [], W, _, _, hj => ⟨v, hv W, hR W hj⟩
  | d :: ds, W, hm, hp, hj => by
    obtain ⟨D, h1, h2, h3⟩ := hm d List.mem_cons_self
    refine ⟨by simp, .inl ⟨D, _, by rw [h1], run_takeDeferred h3, leaves_marks J v hJ hv hR ds _ (fun d2 hd2 => ?_) (List.pairwise_cons.1 hp).2 (hJ W D hj h2 h3)⟩⟩
    obtain ⟨D2, k1, k2, k3⟩ := hm d2 (List.mem_cons_of_mem _ hd2)
    refine ⟨D2, k1, k2, ?_⟩
    have hne : D2 ≠ D := fun e => (List.pairwise_cons.1 hp).1 d2 hd2 (by rw [h1, k1, e])
    rw [World.putObj_heap_other hne]
    exact k3
/-- What Find hands back. -/
def RetP (w : World) (l : List Ar) (x : Nat) (e : Ending) (z : World) : Prop := ∃ (p : List Nat) (m : Nat) (B : Option Addr) (cB : Nat), e = .returned (.slice B m cB) ∧ p.length = m ∧ RowS w p (.slice B m cB) z ∧ FindR l x p ∧ p = roundU l x (farU l x x) x
theorem retP_of {w z : World} {l g : List Ar} {d : Nat → Nat} {x m : Nat} {B : Option Addr} {cB : Nat} (hg : g.Perm l) (hu : g.Pairwise arLe) (hd : ∀ y, IsD l y x (d y)) (hm : (findI g d x).length = m) (hr : RowS w (findI g d x) (.slice B m cB) z) : RetP w l x (.returned (.slice B m cB)) z :=
  ⟨_, m, B, cB, rfl, hm, hr, find_spec (mem_perm hg) hd, find_round (mem_perm hg) (suc_rise hu) hd⟩
theorem dist_back {l g0 : List Ar} {d : Nat → Nat} {x : Nat} (hg : g0.Perm (turn l)) (h : ∀ y, IsD g0 x y (d y)) : ∀ y, IsD l y x (d y) := fun y => isD_turn.1 ((isD_congr (mem_perm hg)).1 (h y))
/-- What Find keeps between two steps: the distances, the path so far, the graph, how many steps are left. -/
structure FnS (w0 : World) (B0 B bM bQ b b8 : Nat) (Z : Nat → Prop) (A : Option Addr) (n c B1 : Nat) (g : List Ar) (lf : Nat) (s : (Nat → Nat) × List Nat) (W : World) : Prop where
  di : DiS B bM bQ b Z s.1 s.2 W
  k8 : At W b8 3 #[.int .i64 (lf : Int)]
  gr : W.ownsRow B1 40 2 (.slice A n c) n (arL g)
  low : Below B0 w0 W
section
variable {w0 W W' : World} {B0 B bM bQ b b8 : Nat} {Z : Nat → Prop} {A : Option Addr} {n c B1 lf : Nat} {g : List Ar} {s : (Nat → Nat) × List Nat}
theorem FnS.grown {row : Option Nat} (h : FnS w0 B0 B bM bQ b b8 Z A n c B1 g lf s W) (hg : W.grownBy W' row)
    (hr : ∀ r, row = some r → B0 ≤ r ∧ r ≠ b ∧ ∃ o : Obj, W.heap[r]? = some o ∧ o.isCells = false) (hB0 : B0 ≤ W.heap.size) : FnS w0 B0 B bM bQ b b8 Z A n c B1 g lf s W' := by
  have hnc : ∀ {k t cs}, At W k t cs → some k ≠ row := fun {k t cs} ha e => by
    obtain ⟨_, _, o, ho, hc⟩ := hr k e.symm
    rw [show W.heap[k]? = _ from ha] at ho
    cases ho
    cases hc
  have hro : ∀ {B e sz v m xs}, W.ownsRow B e sz v m xs → W'.ownsRow B e sz v m xs := fun {B e sz v m xs} ho => by
    refine ho.kept hg ?_
    cases hv : v.ownBlock with
    | none => exact .inl rfl
    | some k =>
      refine .inr fun e1 => ?_
      obtain ⟨_, cur, hc⟩ := own_cells ho hv
      obtain ⟨_, _, o, h2, h3⟩ := hr k e1.symm
      rw [hc] at h2
      cases h2
      cases h3
  obtain ⟨A', nq, cq, h1, h2, h3, h4⟩ := h.di.ex
  refine ⟨⟨h.di.bm.grown hg (hnc h.di.bm), h.di.mp.kept hg (fun e => (hr b e.symm).2.1 rfl), A', nq, cq, h1.grown hg (hnc h1), h2, hro h3, h4⟩, h.k8.grown hg (hnc h.k8), hro h.gr, ?_⟩
  exact h.low.grown hg hB0 fun r e => (hr r e).1
theorem FnS.below (h : FnS w0 B0 B bM bQ b b8 Z A n c B1 g lf s W) (hb : Below W.heap.size W W') (hB0 : B0 ≤ w0.heap.size) : FnS w0 B0 B bM bQ b b8 Z A n c B1 g lf s W' :=
  h.grown (row := none) (below_grown hb) (fun r e => by cases e) (Nat.le_trans hB0 h.low.size)
/-- The same, the number of steps left in another block. -/
theorem FnS.left {b9 lf' : Nat} (h : FnS w0 B0 B bM bQ b b8 Z A n c B1 g lf s W) (h9 : At W b9 3 #[.int .i64 (lf' : Int)]) : FnS w0 B0 B bM bQ b b9 Z A n c B1 g lf' s W := ⟨h.di, h9, h.gr, h.low⟩
/-- The path's row lies in no block that is new. -/
theorem FnS.widen (h : FnS w0 B0 B bM bQ b b8 (fun _ => False) A n c B1 g lf s W) {B9 : Nat} (hB : W.heap.size ≤ B9) : FnS w0 B0 B bM bQ b b8 (fun k => B9 ≤ k) A n c B1 g lf s W := by
  obtain ⟨A', nq, cq, h3, h4, h5, _⟩ := h.di.ex
  exact ⟨⟨h.di.bm, h.di.mp, A', nq, cq, h3, h4, h5, fun k hk hz => by have := (h5.lt k hk).2; omega⟩, h.k8, h.gr, h.low⟩
theorem FnS.loosen (h : FnS w0 B0 B bM bQ b b8 Z A n c B1 g lf s W) : FnS w0 B0 B bM bQ b b8 (fun _ => False) A n c B1 g lf s W := by
  obtain ⟨A', nq, cq, h3, h4, h5, _⟩ := h.di.ex
  exact ⟨⟨h.di.bm, h.di.mp, A', nq, cq, h3, h4, h5, fun _ _ hf => hf⟩, h.k8, h.gr, h.low⟩
end
/-- None of those that have come is the next one of the path. -/
def FnI (d : Nat → Nat) (lf : Nat) (l : List Nat) : Prop := ∀ y ∈ l, (d y == lf + 1) = false
theorem FnI.add {d : Nat → Nat} {lf y : Nat} {l : List Nat} (h : FnI d lf l) (hy : d y ≠ lf + 1) : FnI d lf (l ++ [y]) := fun v hv => by
  rcases List.mem_append.1 hv with hv | hv
  · exact h v hv
  · have e : v = y := by simpa using hv
    subst e
    simpa using hy
/-- A round has found the next one of the path and left the loop. -/
def FnX (w0 : World) (B0 B bM bQ b b8 : Nat) (A : Option Addr) (n c B1 : Nat) (g : List Ar) (lf : Nat) (d : Nat → Nat) (p : List Nat) (x : Nat) (ds : List Deferred) (m : Nat) (cd : Code) (pr : List (Suc g x)) (W : World) : Prop :=
  cd = .exit 2 ∧ (∃ p1 y, pr = p1 ++ [y] ∧ FnI d lf (vals p1) ∧ d y.1 = lf + 1 ∧ FnS w0 B0 B bM bQ b b8 (fun _ => False) A n c B1 g (lf + 1) (d, p ++ [y.1]) W) ∧ Marks B0 ds W ∧ m ≤ W.heap.size
theorem row_ne {W : World} {B B' s s' m m' : Nat} {e e' : TypeId} {v v' : Value} {xs xs' : List Value} (h : W.ownsRow B e s v m xs) (h' : W.ownsRow B' e' s' v' m' xs') (hne : e ≠ e') {k : Nat} (hk : v.ownBlock = some k) : v'.ownBlock ≠ some k := fun hk' => by
  obtain ⟨_, cur, h1⟩ := own_cells h hk
  obtain ⟨_, cur', h2⟩ := own_cells h' hk'
  rw [h1] at h2
  injection h2 with h2
  injection h2 with _ h2
  exact hne h2
theorem path_step {g : List Ar} {d : Nat → Nat} {lf a y : Nat} (hf : ((sucI g a).find? fun y => d y == lf + 1) = some y) : pathI g d (lf + 1) a = y :: pathI g d lf y := by
  show (match (sucI g a).find? fun y => d y == lf + 1 with | some y => y :: pathI g d lf y | none => []) = _
  rw [hf]
theorem find_pre {l r : List Nat} {p : Nat → Bool} {y : Nat} (h : ∀ z ∈ l, p z = false) (hy : p y = true) : (l ++ y :: r).find? p = some y := by
  rw [List.find?_append, List.find?_eq_none.2 (fun z hz => by rw [h z hz]; decide)]
  simp [hy]
/-- How many steps are left: what lies where slot 8 points. -/
def leftOf (a : Act) (W : World) : Nat := match a.tmps.getD 8 undef with | .pointer (some p) => (match W.cell? p with | some (.int _ z) => z.toNat | _ => 0) | _ => 0
theorem leftOf_is {a : Act} {W : World} {p : Addr} {k : IntKind} {m : Nat} (h : a.tmps.getD 8 undef = .pointer (some p)) (hc : W.cell? p = some (.int k (m : Int))) : leftOf a W = m := by
  unfold leftOf
  simp only [h, hc, Int.toNat_natCast]
/-- What holds ahead of each round of Find's loop. -/
def FnL (w V : World) (x : Nat) (A B B2 : Option Addr) (n c cB c2 bD bC b bR k0 : Nat) (g : List Ar) (d : Nat → Nat) (a : Act) (W : World) : Prop :=
  ∃ (u9 u26 u27 u28 u29 u30 u31 u32 u33 u34 u35 u36 u37 u38 u39 u40 u41 u42 u43 u44 u45 u46 u47 u48 : Value) (b8 lf : Nat) (pre : List Nat) (at_ : Nat) (ds : List Deferred), FnS w w.heap.size w.heap.size bD bC b b8 (fun _ => False) B2 n c2 V.heap.size g lf (d, pre ++ [at_]) W ∧ (findI g d x = pre ++ at_ :: pathI g d lf at_ ∧ d at_ = lf + 1 ∧ U64 at_ ∧ lf ≤ 2000 ∧ pre.length + lf ≤ 2000) ∧ Marks w.heap.size ds W ∧ MarkNe ds ∧ w.heap.size ≤ b8 ∧
      a = { tmps := #[Value.slice A n c, .int .u64 (x : Int), undef, undef, .slice none 0 0, .pointer (some ⟨bD, 0, none⟩), .slice B2 n c2, .pointer (some ⟨bC, 0, none⟩), .pointer (some ⟨b8, 0, none⟩), u9, .slice A n c, .slice B n cB, .int .u64 (x : Int), .map (some b), .map (some b), .int .u64 (x : Int), .int .i64 ((k0 : Int) + 1), .bool false, .slice A n c, .slice B2 n c2, .int .u64 (x : Int), .slice (some ⟨bR, 0, none⟩) 1 1, .map (some b), .int .u64 (x : Int), .int .i64 ((k0 : Int) + 1), .int .i64 (k0 : Int), u26, u27, u28, u29, u30, u31, u32, u33, u34, u35, u36, u37, u38, u39, u40, u41, u42, u43, u44, u45, u46, u47, u48, undef], defers := ds }
set_option maxHeartbeats 4000000 in
theorem Find_any (A : Option Addr) (n c : Nat) (l : List Ar) (x : Nat) (w : World) (h : Lz (fun _ => False) w 2 A n (arL l)) (hn : n ≤ 1000) (hU : ∀ a ∈ l, U64 a.1 ∧ U64 a.2) (hx : U64 x) :
    Calls Try.prog 9 #[.slice A n c, .int .u64 (x : Int)] w (RetP w l x) := by
  refine (callsIn_wide (n := 3)).1 ?_
  refine callsIn_of_wp_marks Try.func9 rfl trivial ?_ rfl
  simp only [Try.ntmps9, List.size_toArray, List.length_cons, List.length_nil, Nat.reduceAdd, Nat.reduceSub, Array.replicate_succ, Array.replicate_zero, List.push_toArray, List.append_toArray, List.nil_append, List.cons_append]
  have HO := Lib.hid (opposite_any A n c l w h hn)
  have HL := Lib.hid h
  have HU := Lib.hid hU
  have HX := Lib.hid hx
  clear h hU hx
  gi_wp2_with fail
  refine wcall2 (HO.out.mono ?_)
  rintro e z ⟨B, cB, g0, rfl, hG⟩
  have HG0 := Lib.hid hG
  clear hG HO
  gi_wp2_with fail
  refine wcall2 ((dist_graph x HG0.out hn (fun a ha => (HU.out (a.2, a.1) (mem_turn.1 ha)).1)).mono ?_)
  rintro e y ⟨b, d, q, rfl, hD⟩
  have HD0 := Lib.hid hD
  have hlk := fun W hm => look_dist (W := W) (b := b) (d := d) hm HX.out
  obtain ⟨k, hk⟩ : ∃ k, d x = k := ⟨_, rfl⟩
  rw [hk] at hlk
  have HK := Lib.hid hk
  have hlk2 := hlk (y.alloc (.cells #[.map (some b)] 41)) (hD.mp.move (Below.heap_alloc y _ _ hD.mp.lt))
  clear hD hk
  by_cases h0 : k = 0
  · have e0 : ((k : Int) == 0) = true := by simp; omega
    gi_wp2_with fail
    refine ⟨.slice none 0 0, by simp [results, Try.f9, go_sem], ?_⟩
    have hb := HG0.out.below.trans (HD0.out.low.mono HG0.out.below.size)
    have hf : findI g0 d x = [] := by unfold findI; rw [if_pos (by rw [HK.out]; exact h0)]
    have hd := dist_back HG0.out.perm HD0.out.is
    have h2 : farU l x x = 0 := (farU_isD l x x).uniq (by rw [← h0, ← HK.out]; exact hd x)
    refine ⟨[], 0, none, 0, rfl, rfl, ⟨hb.alloc hb.size _, World.ownsRow_nil _ _ _ _⟩, ⟨h2.symm, fun i h => absurd h (Nat.not_lt_zero _), fun i k h => absurd h (Nat.not_lt_zero _), fun h => absurd h (Nat.lt_irrefl 0)⟩, by rw [h2]; rfl⟩
  · have e0 : ((k : Int) == 0) = false := by simp; omega
    have hb := HG0.out.below.trans (HD0.out.low.mono HG0.out.below.size)
    gi_wp2_with fail
    obtain ⟨V, hV⟩ : ∃ V, y.alloc (.cells #[.map (some b)] 41) = V := ⟨_, rfl⟩
    obtain ⟨bD, hbD⟩ : ∃ bD, y.heap.size = bD := ⟨_, rfl⟩
    have HbV : Hid (Below w.heap.size w V) := hV ▸ hb.alloc hb.size _
    have HDV : Hid (At V bD 41 #[.map (some b)]) := by rw [← hV, ← hbD]; exact At.new y _ _
    have HMV : Hid (MapAt u64V U64 V b (fD d)) := hV ▸ HD0.out.mp.move (Below.heap_alloc y _ _ HD0.out.mp.lt)
    have hbn : w.heap.size ≤ b := Nat.le_trans HG0.out.below.size HD0.out.new
    have hbD2 : w.heap.size ≤ bD := hbD ▸ hb.size
    rw [hV, hbD]
    clear hb hV hlk2
    refine wcall2 ((graphOf_any (fun _ => False) n c A l V (HL.out.below HbV.out) (by omega)).mono ?_)
    rintro e y2 ⟨B2, c2, g, rfl, hG⟩
    have HG := Lib.hid hG
    clear hG
    have hb2 := HG.out.below
    have HDY : Hid (At y2 bD 41 #[.map (some b)]) := HDV.out.under hb2 HDV.out.lt
    have HMY : Hid (MapAt u64V U64 y2 b (fD d)) := HMV.out.move (hb2.block _ HMV.out.lt)
    have hcA : ∀ o1 o2, ((y2.alloc o1).alloc o2).cell? ⟨bD, 0, none⟩ = some (.map (some b)) := fun o1 o2 => ((HDY.out.alloc o1).alloc o2).cell 0
    have hlA : ∀ o1 o2, (Instr.lookup 41 (.map (some b)) (.int .u64 (x : Int)) false).run Try.prog ((y2.alloc o1).alloc o2) = .ok (.int .i64 (k : Int)) ((y2.alloc o1).alloc o2) := fun o1 o2 => hlk _ ((HMY.out.move (Below.heap_alloc _ _ _ HMY.out.lt)).move (Below.heap_alloc _ _ _ (by have := HMY.out.lt; simp; omega)))
    clear hb2 hlk
    obtain ⟨k0, rfl⟩ : ∃ m, k = m + 1 := ⟨k - 1, by omega⟩
    have hk2 : k0 + 1 ≤ 1000 := by
      have h1 := isD_le (HD0.out.is x)
      rw [HK.out, HG0.out.perm.length_eq, turn_length, ← turn_length, HG0.out.len] at h1
      omega
    have hwr : wrap64 (k0 : Int) = (k0 : Int) := by
      unfold wrap64
      omega
    gi_wp2_with fail
    obtain ⟨bR, hbR⟩ : ∃ bR, y2.heap.size = bR := ⟨_, rfl⟩
    obtain ⟨bC, hbC⟩ : ∃ bC, bR + 1 = bC := ⟨_, rfl⟩
    obtain ⟨b80, hb80⟩ : ∃ b8, bC + 1 = b8 := ⟨_, rfl⟩
    obtain ⟨W0, hW0⟩ : ∃ W0, (((y2.alloc (.cells #[.int .u64 (x : Int)] 23)).alloc (.cells #[.slice (some ⟨bR, 0, none⟩) 1 1] 25)).alloc (.cells #[.int .i64 (k0 : Int)] 3)) = W0 := ⟨_, rfl⟩
    have HS0 : Hid (FnS w w.heap.size w.heap.size bD bC b b80 (fun _ => False) B2 n c2 V.heap.size g k0 (d, [x]) W0) := by
      have a1 := At.new y2 23 #[.int .u64 (x : Int)]
      have a2 := At.new (y2.alloc (.cells #[.int .u64 (x : Int)] 23)) 25 #[.slice (some ⟨bR, 0, none⟩) 1 1]
      have a3 := At.new ((y2.alloc (.cells #[.int .u64 (x : Int)] 23)).alloc (.cells #[.slice (some ⟨bR, 0, none⟩) 1 1] 25)) 3 #[.int .i64 (k0 : Int)]
      have b3 : Below y2.heap.size y2 W0 := hW0 ▸ ((((Below.refl _ y2).alloc (Nat.le_refl _) _).alloc (by simp) _).alloc (by simp; omega) _)
      simp only [World.size_alloc, hbR, hbC, hb80] at a1 a2 a3
      have a1' := ((a1.alloc (.cells #[.slice (some ⟨bR, 0, none⟩) 1 1] 25)).alloc (.cells #[.int .i64 (k0 : Int)] 3))
      have a2' := a2.alloc (.cells #[.int .i64 (k0 : Int)] 3)
      rw [hW0] at a1' a2' a3
      have hwR : w.heap.size ≤ bR := hbR ▸ Nat.le_trans HbV.out.size HG.out.below.size
      exact ⟨⟨HDY.out.under b3 HDY.out.lt, HMY.out.move (b3.block _ HMY.out.lt), some ⟨bR, 0, none⟩, 1, 1, a2', rfl, ⟨rfl, .inr ⟨bR, 1, _, rfl, hwR, a1', Nat.le_refl _, by simp [maxLen], rfl, rfl⟩⟩, fun _ _ hf => hf⟩, a3, own_under (own_under HG.out.own (Below.refl _ _) (Nat.le_refl _) ) b3 (Nat.le_refl _), (HbV.out.trans (HG.out.below.mono HbV.out.size)).trans (b3.mono (Nat.le_trans HbV.out.size HG.out.below.size))⟩
    have hwR : w.heap.size ≤ bR := hbR ▸ Nat.le_trans HbV.out.size HG.out.below.size
    have hdb := Lib.hid (dist_back HG0.out.perm HD0.out.is)
    rw [hbR, hbC, hb80, hW0]
    clear hW0 hwr hcA hlA HDY HMY HDV HMV e0 h0
    refine wpIn_loop (FnL w V x A B B2 n c cB c2 bD bC b bR k0 g d)
      leftOf ?_ ?_
    · exact ⟨undef, undef, undef, undef, undef, undef, undef, undef, undef, undef, undef, undef, undef, undef, undef, undef, undef, undef, undef, undef, undef, undef, undef, undef, b80, k0, [], x, [], HS0.out, ⟨by unfold findI; rw [if_neg (by rw [HK.out]; omega), HK.out]; rfl, HK.out, HX.out, by omega, by simp; omega⟩, fun d hd => by (cases hd), List.Pairwise.nil, by omega, rfl⟩
    clear HS0 hb80
    rintro a1 wr ⟨u9, u26, u27, u28, u29, u30, u31, u32, u33, u34, u35, u36, u37, u38, u39, u40, u41, u42, u43, u44, u45, u46, u47, u48, b8, lf, pre, at_, ds, hS, hM, hmk, hmn, hb8, rfl⟩
    dsimp only
    obtain ⟨A', m, cq, hbq, hql, hrow, -⟩ := hS.di.ex
    obtain ⟨hF, hda, hua, hlf, hpl⟩ := hM
    have cK : wr.cell? ⟨b8, 0, none⟩ = some (.int .i64 (lf : Int)) := hS.k8.cell 0
    have cC : wr.cell? ⟨bC, 0, none⟩ = some (.slice A' m cq) := hbq.cell 0
    have cD : wr.cell? ⟨bD, 0, none⟩ = some (.map (some b)) := hS.di.bm.cell 0
    have hm : m = pre.length + 1 := by rw [← hql]; simp
    have HS := Lib.hid hS
    have HF := Lib.hid hF
    have HDA := Lib.hid hda
    have HMK := Lib.hid hmk
    have HMN := Lib.hid hmn
    have HRW := Lib.hid hrow
    have HBQ := Lib.hid hbq
    have hsw := HS.out.low.size
    have HPL := Lib.hid hpl
    have HLF := Lib.hid hlf
    have HSW := Lib.hid hsw
    have HB8 := Lib.hid hb8
    have HM := Lib.hid hm
    have HUA := Lib.hid hua
    have HN2C : Hid (w.heap.size ≤ bC) := by show _ ≤ _; omega
    clear hS hF hda hmk hmn hrow hbq hql hbR hbC hbD hbn hbD2 hk2 hwR hpl hlf hsw hb8 hm hua
    by_cases h0 : lf = 0
    · subst h0
      have HFF : Hid (findI g d x = pre ++ [at_]) := HF.out
      gi_wp2_with fail
      refine leaves_marks (B := w.heap.size) (fun W => RowS w (findI g d x) (.slice A' m cq) W) (.slice A' m cq) (fun W D hj hD hk => ?_) (fun W => by simp [results, Try.f9, go_sem]) (fun W hj => retP_of (HG.out.perm) (HG.out.up) hdb.out (by rw [HFF.out, HM.out]; simp) hj) ds wr HMK.out HMN.out ⟨HS.out.low, by rw [HFF.out, List.length_append]; have h := HRW.out; rw [HM.out] at h ⊢; exact h⟩
      have hg := grownBy_putObj' W D (.deferred none)
      refine ⟨hj.below.grown hg hj.below.size (fun k e => by cases e; exact hD), hj.own.kept hg ?_⟩
      cases hv : (Value.slice A' m cq).ownBlock with
      | none => exact .inl rfl
      | some k =>
        refine .inr fun e1 => ?_
        obtain ⟨_, cur, hc⟩ := own_cells hj.own hv
        injection e1 with e1
        subst e1
        rw [hc] at hk
        cases hk
    · obtain ⟨lf, rfl⟩ : ∃ v, lf = v + 1 := ⟨lf - 1, by omega⟩
      have hm := HM.out
      have hpl := HPL.out
      subst hm
      obtain ⟨xb, xo, hkl, rfl, hb, hc⟩ := (Lz.of_own (X := fun _ => False) HRW.out (fun _ h => h.elim)).uc (k := pre.length) (by omega)
      have hat : (pre ++ [at_])[pre.length]'hkl = at_ := by simp
      rw [hat] at hc
      have hwm : wrap64 (pre.length : Int) = (pre.length : Int) := by unfold wrap64; omega
      have hk1 : (pre.length : Int) < ((pre.length : Int) + 1) := by omega
      have hk0 : (0 : Int) ≤ (pre.length : Int) := by omega
      have hlz := Lz.of_own (X := fun _ => False) HS.out.gr (fun _ h => h.elim)
      have HLZ := Lib.hid hlz
      clear hlz hat hkl hpl
      gi_wp2_with fail
      refine wcall2 ((successors_any B2 n c2 g at_ wr HLZ.out).mono ?_)
      rintro e W1 ⟨rfl, hG, hW⟩
      have HGB := Lib.hid hG
      have HWB : Hid (Below wr.heap.size wr W1) := hW ▸ ((Below.refl _ wr).alloc (Nat.le_refl _) _).alloc (by simp) _
      have HWS : Hid (W1.heap.size = wr.heap.size + 2) := by show _ = _; rw [hW]; simp
      clear hG hW
      gi_wp2_with fail
      have HSX : Hid (FnS w w.heap.size w.heap.size bD bC b b8 (fun k => wr.heap.size ≤ k) B2 n c2 V.heap.size g (lf + 1) (d, pre ++ [at_]) W1) := (HS.out.widen (Nat.le_refl _)).below HWB.out (Nat.le_refl _)
      have HMW : Hid (Marks w.heap.size ds W1) := HMK.out.keep fun k o _ h1 _ => (HWB.out.block k (Array.getElem?_eq_some_iff.1 h1).1).trans h1
      have HBl : Hid (∀ a, B2 = some a → a.block < wr.heap.size) := fun a ha => (HS.out.gr.lt a.block (by rw [ha]; rfl)).2
      refine wpIn_rangeFunc_ownG rfl (by omega) (gf := 36) (lb := #[.pointer (some ⟨wr.heap.size, 0, none⟩), .pointer (some ⟨wr.heap.size + 1, 0, none⟩)]) rfl trivial ent_succ1
        (succ_stops _ wr.heap.size (wr.heap.size + 1) B2 n c2 g at_ hn HG.out.up W1 HGB.out) kpG_t (kpG_b (by have := HWS.out; omega) (by have := HWS.out; omega) (fun a ha => by have := HBl.out a ha; have := HWS.out; omega)) (Below.refl _ _) (fun _ => rfl)
        (fun pr W' => FnI d lf (vals pr) ∧ FnS w w.heap.size w.heap.size bD bC b b8 (fun k => wr.heap.size ≤ k) B2 n c2 V.heap.size g (lf + 1) (d, pre ++ [at_]) W' ∧ Marks w.heap.size ds W' ∧ W1.heap.size ≤ W'.heap.size)
        (FnX w w.heap.size w.heap.size bD bC b b8 B2 n c2 V.heap.size g lf d (pre ++ [at_]) at_ ds W1.heap.size)
        ?own ?own2 ⟨fun y hy => by (cases hy), HSX.out, HMW.out, Nat.le_refl _⟩
        (fun y => { tmps := #[Value.slice A n c, .int .u64 (x : Int), undef, undef, .slice none 0 0, .pointer (some ⟨bD, 0, none⟩), .slice B2 n c2, .pointer (some ⟨bC, 0, none⟩), .pointer (some ⟨b8, 0, none⟩), .int .u64 (y.1 : Int), .slice A n c, .slice B n cB, .int .u64 (x : Int), .map (some b), .map (some b), .int .u64 (x : Int), .int .i64 ((k0 : Int) + 1), .bool false, .slice A n c, .slice B2 n c2, .int .u64 (x : Int), .slice (some ⟨bR, 0, none⟩) 1 1, .map (some b), .int .u64 (x : Int), .int .i64 ((k0 : Int) + 1), .int .i64 (k0 : Int), .int .i64 ((lf : Int) + 1), .bool true, u28, u29, .slice B2 n c2, .slice (some ⟨xb, xo, none⟩) (pre.length + 1) cq, .slice (some ⟨xb, xo, none⟩) (pre.length + 1) cq, .int .i64 ((pre.length : Int) + 1), .int .i64 (pre.length : Int), .pointer (some ⟨xb, xo + pre.length, none⟩), .int .u64 (at_ : Int), .func (.func 36) #[] #[.pointer (some ⟨wr.heap.size, 0, none⟩), .pointer (some ⟨wr.heap.size + 1, 0, none⟩)], .int .u64 (y.1 : Int), u39, u40, u41, u42, u43, u44, u45, u46, u47, u48, undef], defers := [] }) ?assign ?body ?done ?stop
      case own =>
        rintro pr U1 U2 row ⟨h1, hs, hm1, hz⟩ hg hr
        have hws := HWS.out
        have hsz := HSW.out
        refine ⟨h1, hs.grown hg (fun r e => ?_) (Nat.le_trans (Nat.le_refl _) hs.low.size), fun dd hd => ?_, Nat.le_trans hz hg.size⟩
        · obtain ⟨q1, q2⟩ := hr r e.symm.symm
          refine ⟨by omega, fun e2 => ?_, q2⟩
          have := HS.out.di.mp.lt
          omega
        · obtain ⟨D, k1, k2, k3⟩ := HMW.out dd hd
          obtain ⟨D2, k4, k5, k6⟩ := hm1 dd hd
          have e1 : D2 = D := by rw [k1] at k4; injection k4 with k4; injection k4 with k4; exact k4.symm
          subst e1
          exact ⟨D2, k4, k5, (hg.block D2 (Array.getElem?_eq_some_iff.1 k6).1 (fun e => by have := (hr D2 e.symm).1; have := (Array.getElem?_eq_some_iff.1 k3).1; omega)).trans k6⟩
      case own2 =>
        rintro c9 pr U1 U2 row ⟨h1, ⟨p1, y, h2, h3, h4, hs⟩, hm1, hz⟩ hg hr
        have hws := HWS.out
        have hsz := HSW.out
        refine ⟨h1, ⟨p1, y, h2, h3, h4, hs.grown hg (fun r e => ?_) (Nat.le_trans (Nat.le_refl _) hs.low.size)⟩, fun dd hd => ?_, Nat.le_trans hz hg.size⟩
        · obtain ⟨q1, q2⟩ := hr r e.symm.symm
          refine ⟨by omega, fun e2 => ?_, q2⟩
          have := HS.out.di.mp.lt
          omega
        · obtain ⟨D, k1, k2, k3⟩ := HMW.out dd hd
          obtain ⟨D2, k4, k5, k6⟩ := hm1 dd hd
          have e1 : D2 = D := by rw [k1] at k4; injection k4 with k4; injection k4 with k4; exact k4.symm
          subst e1
          exact ⟨D2, k4, k5, (hg.block D2 (Array.getElem?_eq_some_iff.1 k6).1 (fun e => by have := (hr D2 e.symm).1; have := (Array.getElem?_eq_some_iff.1 k3).1; omega)).trans k6⟩
      case assign =>
        intro l y W' K hK
        gi_wp2
        simpa using hK
      case body =>
        rintro l9 pr y W' ⟨hno, hs, hmk, hz⟩ hlt
        obtain ⟨y, hy⟩ := y
        have hUy : U64 y := (HU.out (at_, y) ((mem_perm HG.out.perm _).1 (mem_suc.1 hy))).2
        obtain ⟨A2, nq, cq2, hbq2, hql2, hrow2, hzr2⟩ := hs.di.ex
        obtain ⟨dy, hdy⟩ : ∃ dy, d y = dy := ⟨_, rfl⟩
        have hlk : (Instr.lookup 41 (.map (some b)) (.int .u64 (y : Int)) false).run Try.prog W' = .ok (.int .i64 (dy : Int)) W' := by
          have h1 := look_dist hs.di.mp hUy
          rw [show (d, pre ++ [at_]).1 y = dy from hdy] at h1
          exact h1
        have cK9 : W'.cell? ⟨b8, 0, none⟩ = some (.int .i64 ((lf : Int) + 1)) := hs.k8.cell 0
        have cD9 : W'.cell? ⟨bD, 0, none⟩ = some (.map (some b)) := hs.di.bm.cell 0
        have cC9 : W'.cell? ⟨bC, 0, none⟩ = some (.slice A2 nq cq2) := hbq2.cell 0
        have HS9 := Lib.hid hs
        have HM9 := Lib.hid hmk
        have HZ9 := Lib.hid hz
        have HNO := Lib.hid hno
        have HDY := Lib.hid hdy
        have HBQ2 := Lib.hid hbq2
        have HRW2 := Lib.hid hrow2
        have HQL2 := Lib.hid hql2
        have HZR2 := Lib.hid hzr2
        clear hs hmk hz hno hdy hbq2 hrow2 hql2 hzr2 cK cC cD hc hUy
        by_cases he : dy = lf + 1
        · have e : ((dy : Int) == (lf : Int) + 1) = true := by simp; omega
          obtain ⟨i0, hi0, hz0, hz1, hz2⟩ := u_info
          have OWN : Hid ((W'.alloc (.cells #[.int .u64 (y : Int)] 23)).ownsRow w.heap.size 23 1 (.slice A2 nq cq2) nq (UC (pre ++ [at_]))) := own_under HRW2.out ((Below.refl _ W').alloc (Nat.le_refl _) _) (Nat.le_refl _)
          have hnq : nq ≤ 3000 := by
            have h1 : (pre ++ [at_]).length = nq := HQL2.out
            have h2 := HPL.out
            simp at h1
            omega
          have hsz1 : w.heap.size ≤ W'.heap.size := HS9.out.low.size
          have HSZ1 := Lib.hid hsz1
          clear hsz1
          gi_wp2_with (gi_at_builtin; refine wpListIn_app2 _ rfl (.tmp 44) (.tmp 46) 25 rfl w.heap.size 23 i0 (.int .u64 0) 1 8 Try.underlying25 hi0 hz0 hz1 hz2 rfl (by omega) (.slice A2 nq cq2) nq (UC (pre ++ [at_])) rfl OWN.out (W'.heap.size + 1) (some ⟨W'.heap.size, 0, none⟩) 1 1 [.int .u64 (y : Int)] rfl (lies_new W' _ _) (fun u hu => by simp at hu; rw [hu]; rfl) (by omega) (by simp only [maxLen]; omega) (by omega) (by have := HSZ1.out; simp; omega) ?_; intro v5 w5 ho5 hg5 hb5
                       obtain ⟨A5, c5, rfl, _⟩ := own_slice ho5
                       have HQ5 : Hid (At w5 bC 25 #[.slice A2 nq cq2]) := (HBQ2.out.alloc _).grown hg5 (own_ne OWN.out (HBQ2.out.alloc _) (by decide))
                       have cq5 : w5.cell? ⟨bC, 0, none⟩ = some (.slice A2 nq cq2) := HQ5.out.cell 0
                       have fq5 : w5.frozen? ⟨bC, 0, none⟩ = false := HQ5.out.frozen 0
                       have HO5 := Lib.hid ho5
                       have HG5 := Lib.hid hg5
                       clear ho5 hg5 hb5)
          have hK : KeepsOthers W' (w5.setCell ⟨bC, 0, none⟩ (.slice A5 (nq + 1) c5)) := ((KeepsOthers.alloc W' _).trans (keeps_own OWN.out HG5.out)).trans (KeepsOthers.setCell _ _ _)
          have hbC : bC < wr.heap.size := HBQ.out.lt
          have hws := HWS.out
          have hz9 := HZ9.out
          have hsz5 : W'.heap.size ≤ w5.heap.size := by have := HG5.out.size; simp at this; omega
          have hkeep : ∀ k, k < W'.heap.size → k ≠ bC → some k ≠ (Value.slice A2 nq cq2).ownBlock → (w5.setCell ⟨bC, 0, none⟩ (.slice A5 (nq + 1) c5)).heap[k]? = W'.heap[k]? := fun k h1 h2 h3 =>
            (Below.heap_setCell _ _ _ _ h2).trans ((HG5.out.block k (by simp; omega) h3).trans (Below.heap_alloc W' _ k h1))
          have hne : ∀ {k t cs}, At W' k t cs → t ≠ 25 → t ≠ 23 → At (w5.setCell ⟨bC, 0, none⟩ (.slice A5 (nq + 1) c5)) k t cs := fun {k t cs} ha h1 h2 =>
            (hkeep k ha.lt (fun e => by
              subst e
              have h3 : W'.heap[k]? = _ := ha
              rw [show W'.heap[k]? = _ from HBQ2.out] at h3
              injection h3 with h3
              injection h3 with _ h3
              exact h1 h3.symm) (own_ne HRW2.out ha h2)).trans ha
          have hmb : b ≠ bC ∧ some b ≠ (Value.slice A2 nq cq2).ownBlock := by
            obtain ⟨es, clock, hm, _⟩ := HS9.out.di.mp
            refine ⟨fun e => ?_, fun e => own_map HRW2.out hm e⟩
            subst e
            rw [show W'.heap[b]? = _ from HBQ2.out] at hm
            cases hm
          have hgA : ∀ k, (Value.slice B2 n c2).ownBlock = some k → (w5.setCell ⟨bC, 0, none⟩ (.slice A5 (nq + 1) c5)).heap[k]? = W'.heap[k]? := fun k hk =>
            hkeep k (HS9.out.gr.lt k hk).2 (fun e => own_ne HS9.out.gr HBQ2.out (by decide) (by rw [hk, e])) (fun e => row_ne HS9.out.gr HRW2.out (by decide) hk e.symm)
          have hlow : Below w.heap.size w (w5.setCell ⟨bC, 0, none⟩ (.slice A5 (nq + 1) c5)) := by
            have hl := HS9.out.low
            have hl2 := (hl.alloc hl.size (.cells #[.int .u64 (y : Int)] 23)).grown HG5.out (by have := hl.size; simp; omega) (fun k hk => (HRW2.out.lt k hk).1)
            exact hl2.setCell (p := ⟨bC, 0, none⟩) HN2C.out _
          exact ⟨hK.from _, rfl,
            ⟨pr, ⟨y, hy⟩, rfl, HNO.out, by show d y = lf + 1; rw [HDY.out]; exact he,
              ⟨⟨hne HS9.out.di.bm (by decide) (by decide), HS9.out.di.mp.move (hkeep b HS9.out.di.mp.lt hmb.1 hmb.2), A5, nq + 1, c5, HQ5.out.set 0 _, by have h1 : (pre ++ [at_]).length = nq := HQL2.out; show ((pre ++ [at_]) ++ [y]).length = nq + 1; rw [List.length_append, h1]; rfl,
                  by have := ownsRow_setCell_other HO5.out (a := ⟨bC, 0, none⟩) (fun e => own_ne HO5.out HQ5.out (by decide) e.symm) (.slice A5 (nq + 1) c5); show World.ownsRow _ _ _ _ _ _ (UC ((pre ++ [at_]) ++ [y])); rw [UC_append]; exact this,
                  fun _ _ hf => hf⟩, hne HS9.out.k8 (by decide) (by decide), own_heap2 HS9.out.gr hgA, hlow⟩⟩,
            HM9.out.keep fun k o _ h1 h2 => hK.2 k o h1 h2, by simp; omega⟩
        · have e : ((dy : Int) == (lf : Int) + 1) = false := by simp; omega
          gi_wp2_with fail
          exact ⟨KeepsFrom.refl _ _, ⟨rfl, rfl, fun _ _ => rfl⟩, by rw [vals_add]; exact HNO.out.add (by rw [HDY.out]; exact he), HS9.out, HM9.out, HZ9.out⟩
      case done =>
        rintro D ys W' hD hys ⟨hno, hs, hmk, hz⟩ hK
        exfalso
        obtain ⟨v, hv1, hv2⟩ := next_ex hdb.out HDA.out
        have hv3 : v ∈ vals ys := by
          rw [show vals ys = sucI g at_ from hys]
          exact mem_suc.2 ((mem_perm HG.out.perm _).2 hv1)
        have := hno v hv3
        rw [hv2] at this
        simp at this
      case stop =>
        rintro D c9 pr W' hD hpre ⟨rfl, ⟨p1, y, rfl, hno, hdy, hs⟩, hmk, hz⟩ hK
        obtain ⟨y, hy⟩ := y
        obtain ⟨tl, htl⟩ := hpre
        have hfind : ((sucI g at_).find? fun y => d y == lf + 1) = some y := by
          rw [← htl, List.map_append, List.append_assoc]
          exact find_pre (l := vals p1) (p := fun y => d y == lf + 1) hno (by rw [show d y = lf + 1 from hdy]; simp)
        have cK9 : W'.cell? ⟨b8, 0, none⟩ = some (.int .i64 ((lf : Int) + 1)) := hs.k8.cell 0
        have hwl : wrap64 (lf : Int) = (lf : Int) := by have := HLF.out; unfold wrap64; omega
        have HS9 := Lib.hid hs
        have HK9 := Lib.hid hK
        have HM9 := Lib.hid hmk
        have HZ9 := Lib.hid hz
        have HD9 := Lib.hid hD
        have HF9 := Lib.hid hfind
        have HDY := Lib.hid hdy
        clear hs hK hmk hz hD hfind hdy hno htl cK cC cD hc
        gi_wp2_with fail
        have hDw : w.heap.size ≤ D := by have := HSW.out; have := HWS.out; have := HD9.out; omega
        refine ⟨⟨_, _, _, _, _, _, _, _, _, _, _, _, _, _, _, _, _, _, _, _, _, _, _, _, W'.heap.size, lf, pre ++ [at_], y, { target := .collected D, args := #[] } :: ds, (HS9.out.below ((Below.refl _ W').alloc (Nat.le_refl _) _) (Nat.le_refl _)).left (At.new W' _ _), ⟨?t1, HDY.out, ?t2, ?t3, ?t4⟩, ?t5, ?t6, ?t7, rfl⟩, ?t9⟩
        case t1 =>
          rw [HF.out, path_step HF9.out]
          simp
        case t2 => exact (HU.out (at_, y) ((mem_perm HG.out.perm _).1 (mem_suc.1 hy))).2
        case t3 =>
          have := HLF.out
          omega
        case t4 =>
          have := HPL.out
          simp
          omega
        case t5 =>
          intro dd hd
          rcases List.mem_cons.1 hd with rfl | hd
          · exact ⟨D, rfl, hDw, (Below.heap_alloc W' _ D (Array.getElem?_eq_some_iff.1 HK9.out).1).trans HK9.out⟩
          · obtain ⟨D2, k1, k2, k3⟩ := HM9.out dd hd
            exact ⟨D2, k1, k2, (Below.heap_alloc W' _ D2 (Array.getElem?_eq_some_iff.1 k3).1).trans k3⟩
        case t6 =>
          refine List.pairwise_cons.2 ⟨fun dd hd e => ?_, HMN.out⟩
          obtain ⟨D2, k1, k2, k3⟩ := HMW.out dd hd
          rw [← e] at k1
          injection k1 with k1
          injection k1 with k1
          have := (Array.getElem?_eq_some_iff.1 k3).1
          have := HD9.out
          omega
        case t7 => exact HS9.out.low.size
        case t9 =>
          rw [leftOf_is (p := ⟨W'.heap.size, 0, none⟩) (k := .i64) (m := lf) rfl ((At.new W' _ _).cell 0), leftOf_is (p := ⟨b8, 0, none⟩) (k := .i64) (m := lf + 1) rfl (HS.out.k8.cell 0)]
          omega
end Go.Proofs.Ytnkphpjnhjbokaa
