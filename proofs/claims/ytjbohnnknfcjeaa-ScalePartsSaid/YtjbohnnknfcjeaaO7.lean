/-
  slices.order2Ordered, medianOrdered, medianAdjacentOrdered, choosePivotOrdered of numbers.
  Conditions: fewer than 2^60 numbers; the pivot is chosen among more than twelve.
-/
import Derived.Test.YtjbohnnknfcjeaaO6
import Derived.Sort.LotD4
namespace Go.Proofs.Ytjbohnnknfcjeaa
open Go.RowKit Go.Shelf Go.Sort
attribute [local go_sem] Oper.semAt_some
set_option maxRecDepth 20000

/-- The row as it was, the counter's box; nothing else has turned since w0 but that box. -/
structure Sx (w0 : World) (g : Nat) (pad : List Value) (d : Array Nat) (sb s : Nat) (w : World) : Prop where
  nr : Nr w g pad d
  bx : At w sb 3 #[.int .i64 (s : Int)]
  gr : w0.grownBy w (some sb)
  ne : g ≠ sb
section
variable {w0 w w' : World} {g sb s s' : Nat} {pad : List Value} {d : Array Nat}
theorem Sx.then (h : Sx w0 g pad d sb s w) (h2 : Sx w g pad d sb s' w') : Sx w0 g pad d sb s' w' := ⟨h2.nr, h2.bx, h.gr.andThen h2.gr (fun _ hj => .inr hj), h.ne⟩
theorem Sx.drew (h : Sx w0 g pad d sb s w) : Sx w0 g pad d sb s w.drew := ⟨h.nr, h.bx, ⟨h.gr.os, h.gr.tape, h.gr.output, h.gr.size, h.gr.block⟩, h.ne⟩
theorem Sx.start (h : Sx w0 g pad d sb s w) : Sx w g pad d sb s w := ⟨h.nr, h.bx, ⟨rfl, rfl, rfl, Nat.le_refl _, fun _ _ _ => rfl⟩, h.ne⟩
theorem Sx.set (h : Sx w0 g pad d sb s w) (t : Nat) : Sx w0 g pad d sb t (w.setCell ⟨sb, 0, none⟩ (.int .i64 (t : Int))) := by
  refine ⟨At.other h.nr h.ne _, ?_, grown_set h.gr rfl _, h.ne⟩
  exact At.set h.bx 0 _
end
set_option maxHeartbeats 3200000 in
theorem ordO_any (w0 : World) (g n cap a b sb s : Nat) (pad : List Value) (d : Array Nat) (w : World) (h : Sx w0 g pad d sb s w) (hn : d.size = n) (ha : a < n) (hb : b < n) (hs : s ≤ 1000) :
    Calls Try.prog 51 #[.slice (some ⟨g, 0, none⟩) n cap, .int .i64 (a : Int), .int .i64 (b : Int), .pointer (some ⟨sb, 0, none⟩)] w (fun e w' => ∃ i j t, order2 ltN d a b s = (i, j, t) ∧ i < n ∧ j < n ∧ t ≤ s + 1 ∧ e = .returned (.tuple #[.int .i64 (i : Int), .int .i64 (j : Int)]) ∧ Sx w0 g pad d sb t w') := by
  have HX := Lib.hid h
  have HSK := Lib.hid hn
  clear h hn
  obtain ⟨s1, hs1⟩ : ∃ s1, s + 1 = s1 := ⟨_, rfl⟩
  have es1 : (s : Int) + 1 = (s1 : Int) := by omega
  have ws1 := wrapN (k := s1) (by omega)
  have xs1 : s < s1 ∧ s1 ≤ s + 1 := by omega
  have HEs1 := Lib.hid hs1
  clear hs1
  obtain ⟨z1, z2⟩ := xs1
  obtain ⟨x, hx⟩ : ∃ x, d[a]! = x := ⟨_, rfl⟩
  have PA : Hid (∀ wz, Nr wz g pad d → wz.cell? ⟨g, a, none⟩ = some (.int .u32 (x : Int))) := fun wz hz => by rw [← hx]; exact hz.cell (by rw [HSK.out]; omega)
  have HA := Lib.hid hx
  clear hx
  obtain ⟨y, hy⟩ : ∃ x, d[b]! = x := ⟨_, rfl⟩
  have PB : Hid (∀ wz, Nr wz g pad d → wz.cell? ⟨g, b, none⟩ = some (.int .u32 (y : Int))) := fun wz hz => by rw [← hy]; exact hz.cell (by rw [HSK.out]; omega)
  have HB := Lib.hid hy
  clear hy
  obtain ⟨bl, hbl⟩ : ∃ bl, ltN y x = bl := ⟨_, rfl⟩
  have HBL := Lib.hid hbl
  have HO : Hid (order2 ltN d a b s = if bl then (b, a, s + 1) else (a, b, s)) := by show order2 ltN d a b s = _; unfold order2; rw [HA.out, HB.out, hbl]
  clear hbl
  go_enter Try.func51, Try.ntmps51
  go_upto_region 1 with fail
  refine wp_region_held_drew (S := fun wz => Nr wz g pad d) (by kernel_rfl) HX.out.nr.drew (fun hS => ?_)
  refine tk 0 hS ?_
  refine tk 1 hS ?_
  refine tk 2 hS ?_
  refine tk 3 hS ?_ (hy := by intro wz hz; have qA := PA.out wz hz; have qB := PB.out wz hz; go_simp <;> with_reducible rfl)
  refine tk 4 hS ?_
  refine tk 5 hS ?_
  refine tk 6 hS ?_
  refine tk 7 hS ?_ (hy := by intro wz hz; have qA := PA.out wz hz; have qB := PB.out wz hz; go_simp <;> with_reducible rfl)
  refine wpAnyH_ready (rs := [8]) (by kernel_rfl) (by simp) ?_
  refine AllReadyH.cons rfl (fun K hK => ?_) AllReadyH.nil
  go_simp
  refine (less_any y x _).mono ?_
  rintro e y9 ⟨rfl, hy9⟩
  subst hy9
  have hb : True := trivial
  rw [HBL.out]
  refine hK.out _ _ (hS) (fun hT => ?_)
  clear hK hb hS
  have hS := hT
  clear hT
  refine wpAnyH_done (by kernel_rfl) ?_ _
  clear hS
  have c1 : w.cell? ⟨sb, 0, none⟩ = some (.int .i64 (s : Int)) := HX.out.bx.cell 0
  have f1 : w.frozen? ⟨sb, 0, none⟩ = false := HX.out.bx.frozen 0
  cases bl
  · go_wp2_with fail
    go_ret2
    exact ⟨a, b, s, HO.out, ha, hb, by omega, rfl, HX.out.drew⟩
  · have SS := Lib.hid (HX.out.drew.set s1)
    go_wp2_with fail
    go_ret2
    exact ⟨b, a, s1, by rw [HO.out, ← HEs1.out]; rfl, hb, ha, by omega, rfl, SS.out⟩
set_option maxHeartbeats 3200000 in
theorem medO_any (w0 : World) (g n cap a b c sb s : Nat) (pad : List Value) (d : Array Nat) (w : World) (h : Sx w0 g pad d sb s w) (hn : d.size = n) (ha : a < n) (hb : b < n) (hc : c < n) (hs : s ≤ 900) :
    Calls Try.prog 49 #[.slice (some ⟨g, 0, none⟩) n cap, .int .i64 (a : Int), .int .i64 (b : Int), .int .i64 (c : Int), .pointer (some ⟨sb, 0, none⟩)] w (fun e w' => ∃ i t, median ltN d a b c s = (i, t) ∧ i < n ∧ t ≤ s + 3 ∧ e = .returned (.int .i64 (i : Int)) ∧ Sx w0 g pad d sb t w') := by
  have HSK := Lib.hid hn
  have H1 := Lib.hid (ordO_any w0 g n cap a b sb s pad d w h hn ha hb (by omega))
  clear h hn
  go_enter Try.func49, Try.ntmps49
  go_wp2_with fail
  refine H1.out.mono ?_
  rintro e w1 ⟨i1, j1, t1, ho1, hi1, hj1, ht1, rfl, hx1⟩
  have O1 := Lib.hid ho1
  have H2 := Lib.hid (ordO_any w0 g n cap j1 c sb t1 pad d w1 hx1 HSK.out hj1 hc (by omega))
  clear ho1 hx1 H1
  go_wp2_with fail
  refine H2.out.mono ?_
  rintro e w2 ⟨i2, j2, t2, ho2, hi2, hj2, ht2, rfl, hx2⟩
  have O2 := Lib.hid ho2
  have H3 := Lib.hid (ordO_any w0 g n cap i1 i2 sb t2 pad d w2 hx2 HSK.out hi1 hi2 (by omega))
  clear ho2 hx2 H2
  go_wp2_with fail
  refine H3.out.mono ?_
  rintro e w3 ⟨i3, j3, t3, ho3, hi3, hj3, ht3, rfl, hx3⟩
  have O3 := Lib.hid ho3
  have X3 := Lib.hid hx3
  clear ho3 hx3 H3
  go_wp2_with fail
  go_ret
  refine ⟨j3, t3, ?_, hj3, by omega, rfl, X3.out⟩
  unfold median
  simp only [O1.out, O2.out, O3.out]
set_option maxHeartbeats 3200000 in
theorem medAO_any (w0 : World) (g n cap a sb s : Nat) (pad : List Value) (d : Array Nat) (w : World) (h : Sx w0 g pad d sb s w) (hn : d.size = n) (ha : 1 ≤ a) (hb : a + 1 < n) (hn2 : n < 1152921504606846976) (hs : s ≤ 900) :
    Calls Try.prog 48 #[.slice (some ⟨g, 0, none⟩) n cap, .int .i64 (a : Int), .pointer (some ⟨sb, 0, none⟩)] w (fun e w' => ∃ i t, medianAdjacent ltN d a s = (i, t) ∧ i < n ∧ t ≤ s + 3 ∧ e = .returned (.int .i64 (i : Int)) ∧ Sx w0 g pad d sb t w') := by
  obtain ⟨a1, ha1⟩ : ∃ a1, a - 1 = a1 := ⟨_, rfl⟩
  have ea1 : (a : Int) - 1 = (a1 : Int) := by omega
  have wa1 := wrapN (k := a1) (by omega)
  have xa1 : a1 < a ∧ a ≤ a1 + 1 := by omega
  have HEa1 := Lib.hid ha1
  clear ha1
  obtain ⟨a2, ha2⟩ : ∃ a2, a + 1 = a2 := ⟨_, rfl⟩
  have ea2 : (a : Int) + 1 = (a2 : Int) := by omega
  have wa2 := wrapN (k := a2) (by omega)
  have xa2 : a < a2 ∧ a2 ≤ a + 1 := by omega
  have HEa2 := Lib.hid ha2
  clear ha2
  obtain ⟨z1, z2⟩ := xa1
  obtain ⟨z3, z4⟩ := xa2
  have H1 := Lib.hid (medO_any w0 g n cap a1 a a2 sb s pad d w h hn (by omega) (by omega) (by omega) hs)
  clear h hn
  go_enter Try.func48, Try.ntmps48
  go_wp2_with fail
  refine H1.out.mono ?_
  rintro e w1 ⟨i1, t1, ho1, hi1, ht1, rfl, hx1⟩
  have O1 := Lib.hid ho1
  have X1 := Lib.hid hx1
  clear ho1 hx1 H1
  go_wp2_with fail
  go_ret
  exact ⟨i1, t1, by unfold medianAdjacent; rw [HEa1.out, HEa2.out, O1.out], hi1, ht1, rfl, X1.out⟩
set_option maxHeartbeats 12800000 in
theorem pivO_any (g n cap a b : Nat) (pad : List Value) (d : Array Nat) (w : World) (h : Nr w g pad d) (hn : d.size = n) (hab : a + 12 < b) (hb : b ≤ n) (hs : n < 1152921504606846976) :
    Calls Try.prog 37 #[.slice (some ⟨g, 0, none⟩) n cap, .int .i64 (a : Int), .int .i64 (b : Int)] w (fun e w' => e = .returned (.tuple #[.int .i64 ((choosePivot ltN d a b).1 : Int), .int .i64 (hintCode (choosePivot ltN d a b).2)]) ∧ Nq w g pad d w') := by
  have HSK := Lib.hid hn
  have hgl := h.lt
  have X0 : Hid (Sx (w.alloc (.cells #[.int .i64 0] 3)) g pad d w.heap.size 0 (w.alloc (.cells #[.int .i64 0] 3))) := ⟨At.alloc h _, At.new w _ _, ⟨rfl, rfl, rfl, Nat.le_refl _, fun _ _ _ => rfl⟩, by omega⟩
  have hlow : w.grownBy (w.alloc (.cells #[.int .i64 0] 3)) (some g) := World.grownBy_alloc w _ _
  clear h hn
  obtain ⟨L, hL⟩ : ∃ L, b - a = L := ⟨_, rfl⟩
  obtain ⟨q, hq⟩ : ∃ q, L / 4 = q := ⟨_, rfl⟩
  obtain ⟨q2, hq2⟩ : ∃ q2, q * 2 = q2 := ⟨_, rfl⟩
  obtain ⟨q3, hq3⟩ : ∃ q3, q * 3 = q3 := ⟨_, rfl⟩
  obtain ⟨i, hi⟩ : ∃ i, a + q = i := ⟨_, rfl⟩
  obtain ⟨j, hj⟩ : ∃ j, a + q2 = j := ⟨_, rfl⟩
  obtain ⟨k, hk⟩ : ∃ k, a + q3 = k := ⟨_, rfl⟩
  have eL : (b : Int) - (a : Int) = (L : Int) := by omega
  have eq1 : (L : Int) / 4 = (q : Int) := by omega
  have eq1' : (L : Int).tdiv 4 = (q : Int) := by rw [Int.tdiv_eq_ediv_of_nonneg (by omega)]; exact eq1
  have eq0 : (q : Int) * 1 = (q : Int) := by omega
  have eq2 : (q : Int) * 2 = (q2 : Int) := by omega
  have eq3 : (q : Int) * 3 = (q3 : Int) := by omega
  have ei : (a : Int) + (q : Int) = (i : Int) := by omega
  have ej : (a : Int) + (q2 : Int) = (j : Int) := by omega
  have ek : (a : Int) + (q3 : Int) = (k : Int) := by omega
  have wL := wrapN (k := L) (by omega)
  have wq := wrapN (k := q) (by omega)
  have wq2 := wrapN (k := q2) (by omega)
  have wq3 := wrapN (k := q3) (by omega)
  have wi := wrapN (k := i) (by omega)
  have wj := wrapN (k := j) (by omega)
  have wk := wrapN (k := k) (by omega)
  have hbd : i < n ∧ j < n ∧ k < n ∧ 12 < L ∧ (50 ≤ L → 1 ≤ i ∧ i + 1 < n ∧ 1 ≤ j ∧ j + 1 < n ∧ 1 ≤ k ∧ k + 1 < n) := by omega
  obtain ⟨bd1, bd2, bd3, bd4, bd5⟩ := hbd
  have HI : Hid (a + (b - a) / 4 * 1 = i) := by show _ = _; rw [hL, hq]; omega
  have HJ : Hid (a + (b - a) / 4 * 2 = j) := by show _ = _; rw [hL, hq]; omega
  have HK : Hid (a + (b - a) / 4 * 3 = k) := by show _ = _; rw [hL, hq]; omega
  have H8 : Hid (b - a ≥ 8) := by show b - a ≥ 8; omega
  have HLL := Lib.hid hL
  have d8 : decide ((8 : Int) ≤ (L : Int)) = true := by simp; omega
  clear hL hq hq2 hq3 hi hj hk
  go_enter Try.func37, Try.ntmps37
  go_upto_region 3 with fail
  generalize w.alloc (.cells #[.int .i64 0] 3) = z at X0 hlow ⊢
  have hsb : w.heap.size ≤ w.heap.size := Nat.le_refl _
  generalize hsbe : w.heap.size = sb at X0 ⊢
  have HSB : Hid (w.heap.size ≤ sb) := by show w.heap.size ≤ sb; omega
  by_cases h50 : 50 ≤ L
  · obtain ⟨b1, b2, b3, b4, b5, b6⟩ := bd5 h50
    have d50 : decide ((50 : Int) ≤ (L : Int)) = true := by simp; omega
    have H50 : Hid (b - a ≥ 50) := by show b - a ≥ 50; rw [HLL.out]; exact h50
    have M1 := Lib.hid (medAO_any z g n cap i sb 0 pad d z X0.out HSK.out b1 b2 hs (by omega))
    clear bd5 h50
    go_wp2_with fail
    refine M1.out.mono ?_
    rintro e z1 ⟨m1, t1, ho1, hm1, ht1, rfl, hx1⟩
    have O1 := Lib.hid ho1
    have M2 := Lib.hid (medAO_any z g n cap j sb t1 pad d z1 hx1 HSK.out b3 b4 hs (by omega))
    clear ho1 hx1 M1
    go_wp2_with fail
    refine M2.out.mono ?_
    rintro e z2 ⟨m2, t2, ho2, hm2, ht2, rfl, hx2⟩
    have O2 := Lib.hid ho2
    have M3 := Lib.hid (medAO_any z g n cap k sb t2 pad d z2 hx2 HSK.out b5 b6 hs (by omega))
    clear ho2 hx2 M2
    go_wp2_with fail
    refine M3.out.mono ?_
    rintro e z3 ⟨m3, t3, ho3, hm3, ht3, rfl, hx3⟩
    have O3 := Lib.hid ho3
    have M4 := Lib.hid (medO_any z g n cap m1 m2 m3 sb t3 pad d z3 hx3 HSK.out hm1 hm2 hm3 (by omega))
    clear ho3 hx3 M3
    go_wp2_with fail
    refine M4.out.mono ?_
    rintro e wZ ⟨mZ, tZ, ho4, hm4, ht4, rfl, hx4⟩
    have RZ : Hid (rawPivot ltN d a b = (mZ, tZ)) := by
      show rawPivot ltN d a b = (mZ, tZ)
      unfold rawPivot
      rw [if_pos H8.out, if_pos H50.out, HI.out, HJ.out, HK.out, O1.out, O2.out, O3.out, ho4]
    have XZ := Lib.hid hx4
    clear ho4 hx4 M4
    have c1 : wZ.cell? ⟨sb, 0, none⟩ = some (.int .i64 (tZ : Int)) := XZ.out.bx.cell 0
    have NQ := Lib.hid (show Nq w g pad d wZ from ⟨XZ.out.nr, hlow.andThen XZ.out.gr (fun k hk => by injection hk with hk; exact .inl (by omega))⟩)
    by_cases h0 : tZ = 0
    · subst h0
      go_wp2_with fail
      go_ret2
      exact ⟨by rw [choosePivot_eq, RZ.out]; rfl, NQ.out⟩
    · by_cases h12 : tZ = 12
      · subst h12
        go_wp2_with fail
        go_ret2
        exact ⟨by rw [choosePivot_eq, RZ.out]; rfl, NQ.out⟩
      · have e0 : ((tZ : Int) == 0) = false := by simp; omega
        have e12 : ((tZ : Int) == 12) = false := by simp; omega
        have HC : Hid (hintCode (hintOf tZ) = 0) := by show hintCode (hintOf tZ) = 0; unfold hintOf; rw [if_neg h0, if_neg h12]; rfl
        clear h0 h12
        go_wp2_with fail
        go_ret2
        refine ⟨?_, NQ.out⟩
        rw [choosePivot_eq, RZ.out, show hintCode ((mZ, hintOf tZ) : Nat × Hint).2 = 0 from HC.out]
        rfl
  · have d50 : decide ((50 : Int) ≤ (L : Int)) = false := by simp; omega
    have H50 : Hid (¬ b - a ≥ 50) := by show ¬ b - a ≥ 50; rw [HLL.out]; exact h50
    have M4 := Lib.hid (medO_any z g n cap i j k sb 0 pad d z X0.out HSK.out bd1 bd2 bd3 (by omega))
    clear bd5 h50
    go_wp2_with fail
    refine M4.out.mono ?_
    rintro e wZ ⟨mZ, tZ, ho4, hm4, ht4, rfl, hx4⟩
    have RZ : Hid (rawPivot ltN d a b = (mZ, tZ)) := by
      show rawPivot ltN d a b = (mZ, tZ)
      unfold rawPivot
      rw [if_pos H8.out, if_neg H50.out, HI.out, HJ.out, HK.out, ho4]
    have XZ := Lib.hid hx4
    clear ho4 hx4 M4
    have c1 : wZ.cell? ⟨sb, 0, none⟩ = some (.int .i64 (tZ : Int)) := XZ.out.bx.cell 0
    have NQ := Lib.hid (show Nq w g pad d wZ from ⟨XZ.out.nr, hlow.andThen XZ.out.gr (fun k hk => by injection hk with hk; exact .inl (by omega))⟩)
    by_cases h0 : tZ = 0
    · subst h0
      go_wp2_with fail
      go_ret2
      exact ⟨by rw [choosePivot_eq, RZ.out]; rfl, NQ.out⟩
    · by_cases h12 : tZ = 12
      · subst h12
        go_wp2_with fail
        go_ret2
        exact ⟨by rw [choosePivot_eq, RZ.out]; rfl, NQ.out⟩
      · have e0 : ((tZ : Int) == 0) = false := by simp; omega
        have e12 : ((tZ : Int) == 12) = false := by simp; omega
        have HC : Hid (hintCode (hintOf tZ) = 0) := by show hintCode (hintOf tZ) = 0; unfold hintOf; rw [if_neg h0, if_neg h12]; rfl
        clear h0 h12
        go_wp2_with fail
        go_ret2
        refine ⟨?_, NQ.out⟩
        rw [choosePivot_eq, RZ.out, show hintCode ((mZ, hintOf tZ) : Nat × Hint).2 = 0 from HC.out]
        rfl
end Go.Proofs.Ytjbohnnknfcjeaa
