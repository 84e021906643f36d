/-
  The walk of the law WalCuts.
  Conditions: byte slices of at most 2000 bytes and at most ten entries; else the law asks its example alone.
-/
import Derived.Test.YthicidpdgggbjaaDoorK27Q
import Derived.Test.YthicidpdgggbjaaDoorPA3Q
import Derived.Test.YthicidpdgggbjaaDoorK4Q
namespace Go.Proofs.YthicidpdgggbjaaDoor
open Go.RowKit
set_option maxRecDepth 20000

def zRL : Array Value := #[.int .i64 0, .slice none 0 0, .int .i64 0, .int .i64 0]
theorem built_rl : Tryd.prog.built 34 [(0, .int .i64 1000)] = some (rlA 1000 none 0 0 0 0) := by kernel_rfl
theorem range_below {w z : World} {b o : Nat} {cs : List Value} (h : w.rangeAt b o cs) (hb : Below w.heap.size w z) (hl : b < w.heap.size) : z.rangeAt b o cs := fun j v hv => (hb.cell (p := ⟨b, o + j, none⟩) hl).trans (h j v hv)
/-- What stands behind the reference's Append. -/
structure CuX (w0 : World) (us n : Nat) (bx0 : Array Value) (rs : List Er) (r : Er) (b14 : Nat) (bx : Array Value) (k : Nat) (z : Int) (w' : World) : Prop where
  box : At w' b14 34 bx
  size : bx.size = 4
  one : bx.all (·.oneCell') = true
  new : w0.heap.size ≤ b14
  low : Below w0.heap.size w0 w'
  how : (z = 0 ∧ k = us + 1 ∧ Gd (withN r.e (us + 1)) ∧ us + wid (withN r.e (us + 1)) ≤ 1000 ∧ ∃ A c, bx = rlA 1000 A (n + 1) c (us + wid (withN r.e (us + 1))) 0 ∧ Lz (fun k => k < w0.heap.size ∨ k = b14) w' 13 A (n + 1) (flatE (rs ++ [erN r (us + 1)]))) ∨
     ((z != 0) = true ∧ bx = bx0)
theorem CuX.first {w0 z1 z3 : World} {us n : Nat} {bx0 bx : Array Value} {rs : List Er} {r : Er} {k : Nat} {z : Int} (hb : Below w0.heap.size w0 z1) (h4 : bx.size = 4) (h1 : bx.all (·.oneCell') = true) (ha : At z3 z1.heap.size 34 bx) (hg : (z1.alloc (.cells zRL 34)).grownBy z3 (some z1.heap.size))
    (how : (z = 0 ∧ k = us + 1 ∧ Gd (withN r.e (us + 1)) ∧ us + wid (withN r.e (us + 1)) ≤ 1000 ∧ ∃ A c, bx = rlA 1000 A (n + 1) c (us + wid (withN r.e (us + 1))) 0 ∧ z1.ownsRow w0.heap.size 42 13 (.slice A (n + 1) c) (n + 1) (flatE (rs ++ [erN r (us + 1)]))) ∨ ((z != 0) = true ∧ bx = bx0)) :
    CuX w0 us n bx0 rs r z1.heap.size bx k z z3 := by
  have hs := hb.size
  have hm : Mod (fun k => k = z1.heap.size) z1 z3 := ((Mod.refl _ z1).alloc _).grown hg (fun k hk => by injection hk with hk; exact .inl hk.symm)
  refine ⟨ha, h4, h1, hs, hm.below hb (fun k hk => by omega) hs, ?_⟩
  rcases how with ⟨q1, q2, q3, q4, A, c, q5, q6⟩ | q
  · refine .inl ⟨q1, q2, q3, q4, A, c, q5, ?_⟩
    have hz : Lz (fun k => k < w0.heap.size) z1 13 A (n + 1) (flatE (rs ++ [erN r (us + 1)])) := Lz.of_own q6 (fun _ hk => hk)
    exact (hz.mono fun k hk hk2 => by omega : Lz (fun k => k < w0.heap.size ∨ k = z1.heap.size) z1 13 A (n + 1) _).keptY hm (fun k _ hk => .inr hk)
  · exact .inr q
theorem CuX.second {w0 z2 z3 : World} {us n : Nat} {bx0 bx : Array Value} {rs : List Er} {r : Er} {k : Nat} {z : Int} (hb : Below (w0.heap.size + 1) (w0.alloc (.cells zRL 34)) z2) (h4 : bx.size = 4) (h1 : bx.all (·.oneCell') = true) (ha : At z3 w0.heap.size 34 bx) (hg : z2.grownBy z3 (some w0.heap.size))
    (how : (z = 0 ∧ k = us + 1 ∧ Gd (withN r.e (us + 1)) ∧ us + wid (withN r.e (us + 1)) ≤ 1000 ∧ ∃ A c, bx = rlA 1000 A (n + 1) c (us + wid (withN r.e (us + 1))) 0 ∧ z2.ownsRow (w0.heap.size + 1) 42 13 (.slice A (n + 1) c) (n + 1) (flatE (rs ++ [erN r (us + 1)]))) ∨ ((z != 0) = true ∧ bx = bx0)) :
    CuX w0 us n bx0 rs r w0.heap.size bx k z z3 := by
  have hl : Below w0.heap.size w0 z2 := ((Below.refl _ w0).alloc (Nat.le_refl _) (.cells zRL 34)).trans (hb.mono (by omega))
  have hm : Mod (fun k => k = w0.heap.size) z2 z3 := (Mod.refl _ z2).grown hg (fun k hk => by injection hk with hk; exact .inl hk.symm)
  refine ⟨ha, h4, h1, Nat.le_refl _, hm.below hl (fun k hk => by omega) hl.size, ?_⟩
  rcases how with ⟨q1, q2, q3, q4, A, c, q5, q6⟩ | q
  · refine .inl ⟨q1, q2, q3, q4, A, c, q5, ?_⟩
    have hz : Lz (fun k => k < w0.heap.size + 1) z2 13 A (n + 1) (flatE (rs ++ [erN r (us + 1)])) := Lz.of_own q6 (fun _ hk => hk)
    exact (hz.mono fun k hk hk2 => by omega : Lz (fun k => k < w0.heap.size ∨ k = w0.heap.size) z2 13 A (n + 1) _).keptY hm (fun k _ hk => .inr hk)
  · exact .inr q
theorem CuX.undrew {w0 w' : World} {us n : Nat} {bx0 bx : Array Value} {rs : List Er} {r : Er} {b14 k : Nat} {z : Int} (h : CuX w0.drew us n bx0 rs r b14 bx k z w') : CuX w0 us n bx0 rs r b14 bx k z w' :=
  ⟨h.box, h.size, h.one, h.new, (Below.refl _ w0).drew.trans h.low, h.how⟩
theorem rapp_how {us n : Nat} {bx0 bx : Array Value} {rs : List Er} {r : Er} {k : Nat} {z : Int} {z1 : World} {B : Nat}
    (h : (z = 0 ∧ k = us + 1 ∧ Gd (withN r.e (us + 1)) ∧ us + wid (withN r.e (us + 1)) ≤ 1000 ∧ ∃ A c, bx = rlA 1000 A (n + 1) c (us + wid (withN r.e (us + 1))) 0 ∧ z1.ownsRow B 42 13 (.slice A (n + 1) c) (n + 1) (flatE (rs ++ [erN r (us + 1)]))) ∨
     ((z != 0) = true ∧ k = 0 ∧ bx = bx0 ∧ (chk (withN r.e (us + 1)) = z ∨ (Gd (withN r.e (us + 1)) ∧ 1000 - us < wid (withN r.e (us + 1)) ∧ z = 6)))) :
    (z = 0 ∧ k = us + 1 ∧ Gd (withN r.e (us + 1)) ∧ us + wid (withN r.e (us + 1)) ≤ 1000 ∧ ∃ A c, bx = rlA 1000 A (n + 1) c (us + wid (withN r.e (us + 1))) 0 ∧ z1.ownsRow B 42 13 (.slice A (n + 1) c) (n + 1) (flatE (rs ++ [erN r (us + 1)]))) ∨ ((z != 0) = true ∧ bx = bx0) := by
  rcases h with h | ⟨h1, _, h2, _⟩
  · exact .inl h
  · exact .inr ⟨h1, h2⟩
def CuL (w : World) (b N : Nat) (s i : Value) (z : World) : Prop :=
  ∃ (k : Nat) (A : Option Addr) (n c us : Nat) (rs : List Er), k ≤ N ∧ i = .int .i64 (k : Int) ∧ Hid (CuS w b A n c us rs s z) ∧ Hid (CuM rs us k)

theorem light_er (r : Er) (h : ErIn r) (w : World) : Calls Tryd.prog 21 #[.agg (erA r)] w (RetC w (lightI r.e.rc.val.length r.np r.na)) := light_any r.e r.PA r.QA r.np r.pc r.na r.qc w h.np h.na h.val
theorem rput_er {X : Nat → Prop} (r : Er) (w : World) (h : ELz X w r) (hg : Gd r.e) : Calls Tryd.prog 22 #[.agg (erA r)] w (YesP w (enc r.e)) := refPut_good r.e r.PA r.QA r.np r.pc r.na r.qc w h.el hg.ok hg.chk
theorem light_small {v p a : Nat} (h : lightI v p a = 0) : v ≤ 100 ∧ p ≤ 40 ∧ a ≤ 100 := by
  unfold lightI at h
  split at h
  · cases h
  · omega
theorem ELz.move {w z z' : World} {r : Er} (h : ELz (fun k => w.heap.size ≤ k) z r) (h1 : Below w.heap.size w z) (h2 : Below w.heap.size w z') (hs : z.heap.size ≤ z'.heap.size) : ELz (fun k => w.heap.size ≤ k) z' r :=
  h.kept ⟨by rw [h2.os, h1.os], by rw [h2.tape, h1.tape], by rw [h2.output, h1.output], hs, fun k _ hk => (h2.block k (by omega)).trans (h1.block k (by omega)).symm⟩
/-- The state behind one entry that was laid. -/
theorem CuS.laid {w y wx z9 z10 z11 : World} {b b14 n c us : Nat} {A A' : Option Addr} {c' m : Nat} {rs : List Er} {vS v' : Value} {r : Er} (CS : CuS w b A n c us rs vS y) (CX : Below y.heap.size y wx) (h9 : Below wx.heap.size wx z9) (hu : us = pos (rs.map (·.e)))
    (hrow : Lz (fun k => k < y.heap.size ∨ k = b14) wx 13 A' (n + 1) (flatE (rs ++ [erN r (us + 1)]))) (hel : ELz (fun k => w.heap.size ≤ k) y r) (ho : z10.ownsRow (b + 1) 68 64 v' (us + m) (flat (lay (rs.map (·.e)) 0) ++ flat (cutS (enc (withN r.e (us + 1))) us)))
    (hm : m = wid (withN r.e (us + 1))) (hg : z9.grownBy z10 vS.ownBlock) (hv : v'.ownBlock = vS.ownBlock ∨ v'.ownBlock = some z9.heap.size) (ha : At z11 b 34 (rlA 1000 A' (n + 1) c' (us + wid (withN r.e (us + 1))) 0)) (hg2 : z10.grownBy z11 (some b)) :
    CuS w b A' (n + 1) c' (us + wid (withN r.e (us + 1))) (rs ++ [erN r (us + 1)]) v' z11 := by
  have hby := CS.box.lt
  have hlb := CS.lb
  have hm9 : Mod (fun k => vS.ownBlock = some k ∨ k = b) z9 z10 := (Mod.refl _ z9).grown hg (fun k hk => .inl (.inl hk))
  have hm10 : Mod (fun k => vS.ownBlock = some k ∨ k = b) z9 z11 := hm9.grown hg2 (fun k hk => by injection hk with hk; exact .inl (.inr hk.symm))
  have hl9 : Below w.heap.size w z9 := CS.low.trans ((CX.trans (h9.mono CX.size)).mono CS.low.size)
  have hX : ∀ k, (vS.ownBlock = some k ∨ k = b) → w.heap.size ≤ k := by
    rintro k (hk | rfl)
    · have := (CS.ownw k hk).1; omega
    · exact hlb
  have hl11 : Below w.heap.size w z11 := hm10.below hl9 hX hl9.size
  have hs : y.heap.size ≤ z11.heap.size := Nat.le_trans (CX.trans (h9.mono CX.size)).size hm10.size
  refine ⟨ha, ?_, ?_, ?_, hl11, hlb⟩
  · have q1 : Lz (fun k => (k < y.heap.size ∨ k = b14) ∨ wx.heap.size ≤ k) wx 13 A' (n + 1) (flatE (rs ++ [erN r (us + 1)])) := hrow.mono fun k hk hk2 => by
      rcases hk2 with hk2 | hk2
      · exact hk2
      · omega
    have q2 := (q1.below h9).keptY hm10 (fun k _ hk => by
      rcases hk with hk | rfl
      · exact .inl (.inl (CS.ownw k hk).2)
      · exact .inl (.inl hby))
    refine q2.mono fun k _ hk => ?_
    rcases hk with rfl | hk
    · exact .inl (.inl hby)
    · rcases hv with hv | hv
      · rw [hv] at hk
        exact .inl (.inl (CS.ownw k hk).2)
      · rw [hv] at hk
        injection hk with hk
        have := h9.size
        exact .inr (by omega)
  · intro r' hr'
    rcases List.mem_append.1 hr' with hr' | hr'
    · exact (CS.els r' hr').move CS.low hl11 hs
    · simp only [List.mem_singleton] at hr'
      subst hr'
      exact (hel.move CS.low hl11 hs).withN _
  · rw [lay_step hu, flat_append, ← hm]
    exact own_keep ho fun g hgk => hg2.block g (by obtain ⟨_, cur, h2⟩ := own_cells ho hgk; exact (Array.getElem?_eq_some_iff.1 h2).1) (fun e => by
      have := (own_cells ho hgk).1
      injection e with e
      omega)

theorem run_head64 {P : Program} (t e : TypeId) (ht : P.underlying t = some (.slice e)) (hi : (P.info? e).map (·.size) = some 64) (A : Option Addr) (n c k : Nat) (hk : k ≤ c) (w : World) :
    (Instr.slice t (.slice A n c) none (some (.int .i64 (k : Int))) none).run P w = .ok (.slice A k c) w := by
  cases hq : P.info? e with
  | none => simp [hq] at hi
  | some i =>
    have hz : ∀ a : Addr, a.add 0 = a := fun a => by simp [Addr.add]
    simp [Instr.slice, Instr.sliceBounds, Instr.sliceBound, asIntOf, run_underlying ht, sizeOf, typeInfo, hq, hk, hz]
theorem run_headAt64 {P : Program} (t e : TypeId) (ht : P.underlying t = some (.slice e)) (hi : (P.info? e).map (·.size) = some 64) (A : Option Addr) (n c k : Nat) (hk : k ≤ c) (w : World) :
    (Instr.sliceAt t (.slice A n c) none (some (.int .i64 (k : Int))) none).run P w = .ok (.slice A k c) w := by
  unfold Instr.sliceAt
  simp only [Sem.run_bind, run_underlying ht, Result.andThen_ok]
  exact run_head64 t e ht hi A n c k hk w
theorem arr_size64 : (Tryd.prog.info? 68).map (·.size) = some 64 := by kernel_rfl
theorem wpList_head64 {ops : Array Oper} {rest : List Oper} {op : Oper} {a : Act} {w : World} {Q : Exit → Act → World → Prop} (d : Nat) (x h : Operand) (hop : op.dst = some d) (hgd : op.guard = none) (ho : op.op = .slice 62 x none (some h) none) (A : Option Addr) (n c k : Nat) (hx : a.eval x = .slice A n c)
    (hh : a.eval h = .int .i64 (k : Int)) (hk : k ≤ c) (hw : wpList Tryd.prog ops Q rest (a.put (some d) (.slice A k c)) w) : wpList Tryd.prog ops Q (op :: rest) a w := by
  refine wpList_plain hgd fun K hK => ?_
  have hr := run_headAt64 (P := Tryd.prog) 62 68 Tryd.underlying62 arr_size64 A n c k hk w
  unfold Oper.wp execOp
  simp only [ho, hx, hh, Option.map_some, Option.map_none, Sem.run_bind, hr, Result.andThen_ok, Sem.run_pure]
  simp only [Oper.upon]
  rw [hop]
  exact hK _ _ hw
theorem own_none64 (w : World) : (w.alloc (.cells #[] 68)).ownsRow w.heap.size 68 64 (.slice (some ⟨w.heap.size, 0, none⟩) 0 0) 0 (flat []) :=
  ⟨rfl, .inr ⟨w.heap.size, 0, #[], rfl, Nat.le_refl _, heap_alloc_new w _, Nat.le_refl _, by simp [maxLen], rfl, rfl⟩⟩
theorem flat_take9 (l : List Sect) (k : Nat) : flat (l.take k) = (flat l).take (k * 64) := by
  induction l generalizing k with
  | nil => simp [flat]
  | cons a r ih =>
    cases k with
    | zero => simp [flat]
    | succ k =>
      have h1 : (sec a).take ((k + 1) * 64) = sec a := List.take_of_length_le (by rw [sec_length]; omega)
      rw [List.take_succ_cons, flat, flat, ih, List.take_append, h1, sec_length, show (k + 1) * 64 - 64 = k * 64 by omega]
theorem bool_info9 : (Tryd.prog.info? 4).map (fun i => (i.zero, i.size, i.bytes)) = some (some (.bool false), 1, 1) := by kernel_rfl
def kpL (turn : Int) (j : Nat) : List Bool := (List.range j).map fun i : Nat => ((i : Int) != turn)
theorem kpL_succ (turn : Int) (j : Nat) : kpL turn (j + 1) = kpL turn j ++ [((j : Int) != turn)] := by simp [kpL, List.range_succ]
theorem BL_append9 (a b : List Bool) : BL (a ++ b) = BL a ++ BL b := by simp [BL]
theorem kpL_length (turn : Int) (j : Nat) : (kpL turn j).length = j := by simp [kpL]
/-- The bools that are kept so far. -/
structure KpS (y : World) (turn : Int) (j : Nat) (K : Value) (z : World) : Prop where
  own : z.ownsRow y.heap.size 4 1 K j (BL (kpL turn j))
  low : Below y.heap.size y z

/-- The first j of some sectors, one of them turned to zero. -/
structure TurnT (L : List Sect) (j : Nat) (turn : Int) (T : List Sect) : Prop where
  len : T.length = j
  get : ∀ k, k < j → T[k]? = if (k : Int) = turn then some zsec else L[k]?
theorem TurnT.no {L : List Sect} {j : Nat} {turn : Int} (hj : j ≤ L.length) (h : (decide (0 ≤ turn) && decide (turn < (j : Int))) = false) : TurnT L j turn (L.take j) := by
  refine ⟨by rw [List.length_take]; omega, fun k hk => ?_⟩
  have : ¬ ((k : Int) = turn) := fun e => by
    have h1 : (decide (0 ≤ turn) && decide (turn < (j : Int))) = true := by simp; omega
    rw [h1] at h
    cases h
  rw [if_neg this, List.getElem?_take, if_pos hk]
theorem TurnT.yes {L : List Sect} {j tn : Nat} (hj : j ≤ L.length) (h : tn < j) : TurnT L j (tn : Int) (Go.splice (L.take j) tn [zsec]) := by
  have hl : (L.take j).length = j := by rw [List.length_take]; omega
  have hg := fun i => pl_splice_get (L.take j) tn [zsec] i (by rw [hl]; simp; omega)
  have hlen : (Go.splice (L.take j) tn [zsec]).length = j := by
    unfold Go.splice
    simp [hl]
    omega
  refine ⟨hlen, fun k hk => ?_⟩
  rw [hg]
  by_cases hkt : k = tn
  · subst hkt
    rw [if_pos (by simp), if_pos rfl]
    simp
  · rw [if_neg (by simp; omega), if_neg (by omega), List.getElem?_take, if_pos hk]
theorem TurnT.held {es : List Ent} {j : Nat} {turn : Int} {T : List Sect} (h : TurnT (lay es 0) j turn T) (hj : j ≤ pos es) : Held T es (kfW 0 (kpL turn j)) := by
  have hk : ∀ k, k < j → kfW 0 (kpL turn j) k = ((k : Int) != turn) := fun k hk => by
    rw [kfW_in (Nat.zero_le k) k (by omega) (by rw [kpL_length]; exact hk)]
    simp [kpL]
  have ho : ∀ k, j ≤ k → T[k]? = none := fun k hk => List.getElem?_eq_none (by rw [h.len]; exact hk)
  refine ⟨fun k hk1 ht => ?_, fun k hk1 hf => ?_, fun k hk1 => .inl (ho k (by omega))⟩
  · by_cases hkj : k < j
    · rw [hk k hkj] at ht
      rw [h.get k hkj, if_neg (by simpa using ht)]
    · rw [kfW_out (Nat.zero_le k) (by rw [kpL_length]; omega)] at ht
      cases ht
  · by_cases hkj : k < j
    · rw [hk k hkj] at hf
      rw [h.get k hkj, if_pos (by simpa using hf)]
      exact .inr rfl
    · exact .inl (ho k (by omega))
theorem own_set64 {z : World} {base g n c tn : Nat} {L : List Sect} (h : z.ownsRow base 68 64 (.slice (some ⟨g, 0, none⟩) n c) n (flat L)) (ht : tn < n) :
    (z.setCells g (tn * 64) (sec zsec)).ownsRow base 68 64 (.slice (some ⟨g, 0, none⟩) n c) n (flat (Go.splice L tn [zsec])) ∧ z.there g (tn * 64) 64 := by
  have hL : L.length = n := by have := h.1; rw [flat_length] at this; omega
  have hsl : (Go.splice L tn [zsec]).length = n := by unfold Go.splice; simp; omega
  rcases h.2 with ⟨h0, _⟩ | ⟨g', cap, cur, hv, hb, hg, hc, hm, hs, htk⟩
  · cases h0
  · injection hv with h1 _ h3
    injection h1 with h1
    injection h1 with h1
    subst h1 h3
    have hcl : cur.toList.length = c * 64 := by rw [Array.length_toList]; exact hs
    have hcur : cur.toList = flat L ++ cur.toList.drop (n * 64) := by rw [← htk, List.take_append_drop]
    have hg' : z.heap[g]? = some (.cells (flat L ++ cur.toList.drop (n * 64)).toArray 68 (0, 0)) := by rw [← hcur]; simpa using hg
    have hfl : (flat L).length = n * 64 := by rw [flat_length, hL]
    have h1 := pl_setCells_row g 68 (sec zsec) (tn * 64) _ z hg' (by rw [sec_length, List.length_append, hfl]; omega)
    have e1 : sec zsec = flat [zsec] := by simp [flat]
    rw [e1, splice_flat _ _ _ _ (by simp; omega), ← e1] at h1
    refine ⟨⟨by rw [flat_length, hsl], .inr ⟨g, c, _, rfl, hb, h1, hc, hm, ?_, ?_⟩⟩, there_row hg' (by rw [List.length_append, hfl]; omega)⟩
    · have : (flat (Go.splice L tn [zsec])).length = n * 64 := by rw [flat_length, hsl]
      simp only [List.size_toArray, List.length_append, this, List.length_drop, hcl]
      have : n * 64 ≤ c * 64 := Nat.mul_le_mul_right _ hc
      omega
    · rw [List.take_append_of_le_length (by rw [flat_length, hsl]; omega), List.take_of_length_le (by rw [flat_length, hsl]; omega)]
theorem built_zs : Tryd.prog.built 68 [] = some (secA zsec) := by kernel_rfl
theorem take_gd {rs : List Er} {us k m : Nat} (h : CuM rs us k) {rs' : List Er} (hm : rs'.map (·.e) = (rs.map (·.e)).take m) : ∀ r ∈ rs', Gd r.e := fun r hr => by
  have h1 : r.e ∈ rs'.map (·.e) := List.mem_map_of_mem hr
  rw [hm] at h1
  obtain ⟨r2, h2, h3⟩ := List.mem_map.1 (List.mem_of_mem_take h1)
  rw [← h3]
  exact h.gd r2 h2

set_option maxHeartbeats 12800000 in
theorem cuts_in (B : Option Addr) (bc nb p : Nat) (l : List UInt8) (AL : Option Addr) (cL N : Nat) (es : List Er) (cut turn : Int) (w : World) (hb : Lies w w.heap.size 1 B nb (BC l)) (hnb : nb ≤ 2000) (hbc : nb ≤ bc) (hp : p < 65536)
    (hL : LEz (fun k => w.heap.size ≤ k) w AL N es) (hin : ∀ r ∈ es, ErIn r) (hN : N ≤ 10) (hc1 : -9223372036854775808 ≤ cut ∧ cut ≤ 9223372036854775807) (ht1 : -9223372036854775808 ≤ turn ∧ turn ≤ 9223372036854775807) :
    Calls Tryd.prog 4 #[.slice B nb bc, .int .u16 (p : Int), .slice AL N cL, .int .i64 cut, .int .i64 turn] w (RetQ w true) := by
  have d1 : decide ((2000 : Int) < (nb : Int)) = false := by simp; omega
  have d2 : decide ((10 : Int) < (N : Int)) = false := by simp; omega
  have ewp : wrap64 (p : Int) = (p : Int) := by unfold wrap64; omega
  have ewp2 : IntKind.i64.wrap (p : Int) = (p : Int) := by rw [IntKind.wrap_i64]; omega
  obtain ⟨i1, hi1, hy0, hy1, hy2⟩ := info_parts arr_info3
  have hlen : l.length = nb := by have := hb.len; rw [BC_length] at this; omega
  have HLB := Lib.hid hb
  have HLE := Lib.hid hL
  have HIN := Lib.hid hin
  have HP := Lib.hid hp
  have HC1 := Lib.hid hc1
  have HT1 := Lib.hid ht1
  have HNB := Lib.hid (show nb ≤ 2000 ∧ nb ≤ bc from ⟨hnb, hbc⟩)
  have HLN := Lib.hid hlen
  clear hb hL hin hp hc1 ht1 hnb hbc hlen
  go_enter Tryd.func4, Tryd.ntmps4
  go_wp2_with fail
  refine (cut_any9 nb bc p B l w HLB.out (by have := HNB.out; omega) HNB.out.2 (by have := HP.out; omega)).mono ?_
  rintro e z1 ⟨A1, c1, rfl, ho1, hb1⟩
  have L1 := Lib.hid (Lz.of_own (X := fun _ => False) ho1 (fun _ h => h.elim))
  have B1 := Lib.hid hb1
  clear ho1 hb1
  go_wp2_with fail
  refine (rcut_any nb bc p B l z1 ((HLB.out.under B1.out).up B1.out.size) (by have := HNB.out; omega) HNB.out.2 (by have := HP.out; omega)).mono ?_
  rintro e z2 ⟨A2, c2, rfl, ho2, hb2⟩
  have L2 := Lib.hid (Lz.of_own (X := fun _ => False) ho2 (fun _ h => h.elim))
  have L1' := Lib.hid (L1.out.below hb2)
  have B2 := Lib.hid (B1.out.trans (hb2.mono B1.out.size))
  clear ho2 hb2 L1 B1
  have hlc : (cutS l p).length ≤ 100000 := by rw [cutS_length, HLN.out]; have := HNB.out; unfold numSec; omega
  have HLC := Lib.hid hlc
  clear hlc
  go_wp2_with fail
  refine (pl_same_any _ _ _ _ _ _ _ _ (cutS l p) (cutS l p) z2 L1'.out L2.out HLC.out HLC.out).mono ?_
  rintro e z3 ⟨rfl, m3, rfl⟩
  have B3 := Lib.hid (B2.out.trans ((below_drewN z2 m3).mono B2.out.size))
  generalize z2.drewN m3 = z3 at B3 ⊢
  clear L1' L2 B2
  rw [show (cutS l p == cutS l p) = true by simp]
  go_wp2_with fail
  refine (sectors_any nb z3 (by have := HNB.out; omega)).mono ?_
  rintro e z4 ⟨rfl, rfl⟩
  go_wp2_with fail
  refine (rcut_any nb bc 0 B l z3 ((HLB.out.under B3.out).up B3.out.size) (by have := HNB.out; omega) HNB.out.2 (by omega)).mono ?_
  rintro e z4 ⟨A4, c4, rfl, _, hb4⟩
  have B4 := Lib.hid (B3.out.trans (hb4.mono B3.out.size))
  clear hb4 B3
  rw [show (cutS l 0).length = numSec nb by rw [cutS_length, HLN.out]]
  go_wp2_with (first
    | refine wpList_build9 56 rfl rfl 34 _ rfl #[(0, .int .i64 1000)] (by simp only [List.map_toArray, List.map_cons, List.map_nil]; rfl) _ built_rl ?_
    | refine wpList_store_new 34 (.tmp 11) (.tmp 56) rfl rfl rfl _ z4 rfl rfl (rlA 1000 none 0 0 0 0) zRL 4 rfl strRL rfl rfl (rlA_one _ _ _ _ _ _) rfl ?_)
  have CS0 : Hid (CuS w z4.heap.size none 0 0 0 [] (.slice none 0 0) (z4.alloc (.cells (rlA 1000 none 0 0 0 0) 34))) :=
    ⟨At.new z4 _ _, Lz.empty, fun r h => by simp at h, World.ownsRow_nil _ _ _ _, B4.out.alloc B4.out.size _, B4.out.size⟩
  generalize z4.alloc (.cells (rlA 1000 none 0 0 0 0) 34) = z5 at CS0 ⊢
  generalize z4.heap.size = b at CS0 ⊢
  clear B4
  go_loopw [12, 13] (fun s i z => CuL w b N s i z) (fun _ i _ => N - (intOf i).toNat)
  case atStart => exact ⟨0, none, 0, 0, 0, [], Nat.zero_le _, rfl, CS0, ⟨trivial, rfl, by omega, Nat.le_refl _⟩⟩
  case round =>
    clear CS0
    obtain ⟨k, A, n, c, us, rs, hk, rfl, CS, CM⟩ := hrel
    by_cases hlt : k < N
    · obtain ⟨bL, oL, hl, rfl, hbw, hbl, hR, hel⟩ := (show LEz (fun k => w.heap.size ≤ k) wr AL N es from HLE.out.kept ⟨CS.out.low.os, CS.out.low.tape, CS.out.low.output, CS.out.low.size, fun q _ hq => CS.out.low.block q (by omega)⟩).at hlt
      have R1 := Lib.hid hR
      have EL1 := Lib.hid hel
      have I1 := Lib.hid (HIN.out _ (List.getElem_mem hl))
      obtain ⟨r, hr⟩ : ∃ r, es[k] = r := ⟨_, rfl⟩
      rw [hr] at R1 EL1 I1
      have hN2 : k ≤ N := hk
      clear hR hel hr hl
      by_cases hlg : lightI r.e.rc.val.length r.np r.na = 0
      · have SM := Lib.hid (light_small hlg)
        go_wp2_with (refine wpList_load_er 66 (.tmp 65) rfl rfl rfl bL (oL + k * 13) rfl r R1.out ?_)
        refine (light_er r I1.out wr).mono ?_
        rintro e y6 ⟨rfl, hb6⟩
        rw [hlg]
        have CS6 := Lib.hid (CS.out.call hb6)
        have EL6 := Lib.hid (EL1.out.below hb6)
        have R6 := Lib.hid (range_below R1.out hb6 hbl)
        have hbl6 : bL < y6.heap.size := Nat.lt_of_lt_of_le hbl hb6.size
        have RA : Hid (∀ W, Below y6.heap.size y6 W → Calls Tryd.prog 11 #[.agg (rlA 1000 A n c us 0), .agg (erA r)] W (RApp 1000 us 0 n (rlA 1000 A n c us 0) rs r W)) := fun W hW =>
          rapp_any _ _ A n c 1000 us 0 rs r W (CS6.out.lez.below hW) (by have := CS6.out.lez.len; have := CM.out.len; omega) (EL6.out.below hW) CM.out.le (by omega) (by have := SM.out; omega) (by have := SM.out; omega) (by have := SM.out; omega) I1.out.ok
        clear hb6 CS EL1 R1 hbl hlg
        go_upto_region 12 with fail
        go_cut [14, 15, 16] from 57 to 99 (fun s14 s15 s16 wx => ∃ b14 bx lk zc, s14 = .pointer (some ⟨b14, 0, none⟩) ∧ s15 = .int .u64 ((lk : Nat) : Int) ∧ s16 = .int .i64 zc ∧ Hid (CuX y6 us n (rlA 1000 A n c us 0) rs r b14 bx lk zc wx))
        case first =>
          refine wp_region_held_drew (S := Below y6.heap.size y6) (by kernel_rfl) ((Below.refl _ y6).drew) (fun hS => ?_)
          refine takeH (i := 0) (d := 71) (v := .agg (rlA 1000 A n c us 0)) rfl (by kernel_rfl) (by kernel_rfl) (by kernel_rfl) (fun _ _ _ h => h) rfl (by rfl) ?yca0 hS ?rca0
          case yca0 => (intro wz hz; exact exec_load_at 34 (.tmp 11) rfl b rfl _ 4 strRL rfl (CS6.out.box.under hz CS6.out.box.lt))
          simp only [List.setIfInBounds_toArray, List.set_cons_zero, List.set_cons_succ]
          refine takeH (i := 1) (d := 72) (v := ?vca1) rfl (by kernel_rfl) (by kernel_rfl) (by kernel_rfl) (fun _ _ _ h => h) rfl (by rfl) ?yca1 hS ?rca1
          case yca1 => (intro wz hz; go_simp <;> with_reducible rfl)
          simp only [List.setIfInBounds_toArray, List.set_cons_zero, List.set_cons_succ]
          refine takeH (i := 2) (d := 73) (v := ?vca2) rfl (by kernel_rfl) (by kernel_rfl) (by kernel_rfl) (fun _ _ _ h => h) rfl (by rfl) ?yca2 hS ?rca2
          case yca2 => (intro wz hz; go_simp <;> with_reducible rfl)
          simp only [List.setIfInBounds_toArray, List.set_cons_zero, List.set_cons_succ]
          refine takeH (i := 3) (d := 74) (v := ?vca3) rfl (by kernel_rfl) (by kernel_rfl) (by kernel_rfl) (fun _ _ _ h => h) rfl (by rfl) ?yca3 hS ?rca3
          case yca3 => (intro wz hz; go_simp <;> with_reducible rfl)
          simp only [List.setIfInBounds_toArray, List.set_cons_zero, List.set_cons_succ]
          refine takeH (i := 4) (d := 75) (v := .agg (erA r)) rfl (by kernel_rfl) (by kernel_rfl) (by kernel_rfl) (fun _ _ _ h => h) rfl (by rfl) ?yca4 hS ?rca4
          case yca4 => (intro wz hz; exact exec_load_er (.tmp 74) rfl bL (oL + k * 13) rfl r (range_below R6.out hz hbl6))
          simp only [List.setIfInBounds_toArray, List.set_cons_zero, List.set_cons_succ]
          refine wpAnyH_ready (rs := [5, 10]) (by kernel_rfl) (by simp) ?_
          refine AllReadyH.cons rfl (fun K hK => ?_) (AllReadyH.cons rfl (fun K hK => ?_) AllReadyH.nil)
          · go_simp
            refine (RA.out y6.drew ((Below.refl _ y6).drew)).mono ?_
            rintro e z1 ⟨bx, lk, zc, rfl, hb4, hb1, hbl1, how⟩
            have HW1 := Lib.hid (rapp_how how)
            have HB1 := Lib.hid (show Below y6.heap.size y6 z1 from ((Below.refl _ y6).drew).trans hbl1)
            have H4 := Lib.hid hb4
            have H1 := Lib.hid hb1
            clear how hb4 hb1 hbl1
            refine hK.out _ _ (HB1.out) (fun hT => ?_)
            clear hK hS
            have hS := hT
            clear hT
            refine takeH (i := 6) (d := 70) (v := ?vcb6) rfl (by kernel_rfl) (by kernel_rfl) (by kernel_rfl) (fun _ _ _ h => h) rfl (by rfl) ?ycb6 hS ?rcb6
            case ycb6 => (intro wz hz; go_simp <;> with_reducible rfl)
            simp only [List.setIfInBounds_toArray, List.set_cons_zero, List.set_cons_succ]
            refine takeH (i := 7) (d := 77) (v := ?vcb7) rfl (by kernel_rfl) (by kernel_rfl) (by kernel_rfl) (fun _ _ _ h => h) rfl (by rfl) ?ycb7 hS ?rcb7
            case ycb7 => (intro wz hz; go_simp <;> with_reducible rfl)
            simp only [List.setIfInBounds_toArray, List.set_cons_zero, List.set_cons_succ]
            refine takeH (i := 8) (d := 78) (v := ?vcb8) rfl (by kernel_rfl) (by kernel_rfl) (by kernel_rfl) (fun _ _ _ h => h) rfl (by rfl) ?ycb8 hS ?rcb8
            case ycb8 => (intro wz hz; go_simp <;> with_reducible rfl)
            simp only [List.setIfInBounds_toArray, List.set_cons_zero, List.set_cons_succ]
            refine takeH (i := 9) (d := 79) (v := ?vcb9) rfl (by kernel_rfl) (by kernel_rfl) (by kernel_rfl) (fun _ _ _ h => h) rfl (by rfl) ?ycb9 hS ?rcb9
            case ycb9 => (intro wz hz; go_simp <;> with_reducible rfl)
            simp only [List.setIfInBounds_toArray, List.set_cons_zero, List.set_cons_succ]
            refine wpAnyH_ready (rs := [10]) (by kernel_rfl) (by simp) ?_
            refine AllReadyH.cons rfl (fun K hK => ?_) AllReadyH.nil
            go_simp
            refine hK.out _ _ (HB1.out.alloc HB1.out.size _) (fun hT => ?_)
            clear hK hS
            have hS := hT
            clear hT
            refine wpAnyH_ready (rs := [11]) (by kernel_rfl) (by simp) ?_
            refine AllReadyH.cons rfl (fun K hK => ?_) AllReadyH.nil
            rw [if_pos (by rfl)]
            refine wp_store_at 34 (.tmp 14) (.tmp 77) rfl rfl z1.heap.size rfl bx zRL 4 rfl strRL H4.out rfl H1.out (At.new z1 34 zRL) ?_
            intro z3 ha3 hg3
            have CX := Lib.hid (CuX.first HB1.out H4.out H1.out ha3 hg3 HW1.out)
            clear ha3 hg3
            refine hK.out _ _ (CX.out.low) (fun hT => ?_)
            clear hK hS
            have hS := hT
            clear hT
            refine takeH (i := 12) (d := 15) (v := ?vcc12) rfl (by kernel_rfl) (by kernel_rfl) (by kernel_rfl) (fun _ _ _ h => h) rfl (by rfl) ?ycc12 hS ?rcc12
            case ycc12 => (intro wz hz; go_simp <;> with_reducible rfl)
            simp only [List.setIfInBounds_toArray, List.set_cons_zero, List.set_cons_succ]
            refine takeH (i := 13) (d := 16) (v := ?vcc13) rfl (by kernel_rfl) (by kernel_rfl) (by kernel_rfl) (fun _ _ _ h => h) rfl (by rfl) ?ycc13 hS ?rcc13
            case ycc13 => (intro wz hz; go_simp <;> with_reducible rfl)
            simp only [List.setIfInBounds_toArray, List.set_cons_zero, List.set_cons_succ]
            refine wpAnyH_done (by kernel_rfl) ?_ _
            go_wp2_with fail
            go_meet
            exact ⟨_, bx, lk, zc, rfl, rfl, rfl, CX⟩
          · go_simp
            refine hK.out _ _ ((Below.refl _ y6).drew.alloc (Nat.le_refl _) _) (fun hT => ?_)
            clear hK hS
            have hS := hT
            clear hT
            refine wpAnyH_ready (rs := [5]) (by kernel_rfl) (by simp) ?_
            refine AllReadyH.cons rfl (fun K hK => ?_) AllReadyH.nil
            go_simp
            refine (RA.out (y6.drew.alloc (.cells zRL 34)) (((Below.refl _ y6).drew).alloc (Nat.le_refl _) _)).mono ?_
            rintro e z1 ⟨bx, lk, zc, rfl, hb4, hb1, hbl1, how⟩
            have hsz : (y6.drew.alloc (.cells zRL 34)).heap.size = y6.heap.size + 1 := by simp
            rw [hsz] at hbl1 how
            have HW1 := Lib.hid (rapp_how how)
            have HB1 := Lib.hid hbl1
            have HB2 := Lib.hid (show Below y6.heap.size y6 z1 from (((Below.refl _ y6).drew).alloc (Nat.le_refl _) (.cells zRL 34)).trans (hbl1.mono (by show y6.heap.size ≤ y6.heap.size + 1; omega)))
            have A14 := Lib.hid (show At z1 y6.heap.size 34 zRL from (At.new y6.drew 34 zRL).under hbl1 (by show y6.heap.size < _; omega))
            have H4 := Lib.hid hb4
            have H1 := Lib.hid hb1
            clear how hb4 hb1 hbl1 hsz
            refine hK.out _ _ (HB2.out) (fun hT => ?_)
            clear hK hS
            have hS := hT
            clear hT
            refine takeH (i := 6) (d := 70) (v := ?vcd6) rfl (by kernel_rfl) (by kernel_rfl) (by kernel_rfl) (fun _ _ _ h => h) rfl (by rfl) ?ycd6 hS ?rcd6
            case ycd6 => (intro wz hz; go_simp <;> with_reducible rfl)
            simp only [List.setIfInBounds_toArray, List.set_cons_zero, List.set_cons_succ]
            refine takeH (i := 7) (d := 77) (v := ?vcd7) rfl (by kernel_rfl) (by kernel_rfl) (by kernel_rfl) (fun _ _ _ h => h) rfl (by rfl) ?ycd7 hS ?rcd7
            case ycd7 => (intro wz hz; go_simp <;> with_reducible rfl)
            simp only [List.setIfInBounds_toArray, List.set_cons_zero, List.set_cons_succ]
            refine takeH (i := 8) (d := 78) (v := ?vcd8) rfl (by kernel_rfl) (by kernel_rfl) (by kernel_rfl) (fun _ _ _ h => h) rfl (by rfl) ?ycd8 hS ?rcd8
            case ycd8 => (intro wz hz; go_simp <;> with_reducible rfl)
            simp only [List.setIfInBounds_toArray, List.set_cons_zero, List.set_cons_succ]
            refine takeH (i := 9) (d := 79) (v := ?vcd9) rfl (by kernel_rfl) (by kernel_rfl) (by kernel_rfl) (fun _ _ _ h => h) rfl (by rfl) ?ycd9 hS ?rcd9
            case ycd9 => (intro wz hz; go_simp <;> with_reducible rfl)
            simp only [List.setIfInBounds_toArray, List.set_cons_zero, List.set_cons_succ]
            refine wpAnyH_ready (rs := [11]) (by kernel_rfl) (by simp) ?_
            refine AllReadyH.cons rfl (fun K hK => ?_) AllReadyH.nil
            rw [if_pos (by rfl)]
            refine wp_store_at 34 (.tmp 14) (.tmp 77) rfl rfl y6.heap.size rfl bx zRL 4 rfl strRL H4.out rfl H1.out A14.out ?_
            intro z3 ha3 hg3
            have CX := Lib.hid (CuX.second (w0 := y6.drew) HB1.out H4.out H1.out ha3 hg3 HW1.out).undrew
            clear ha3 hg3
            refine hK.out _ _ (CX.out.low) (fun hT => ?_)
            clear hK hS
            have hS := hT
            clear hT
            refine takeH (i := 12) (d := 15) (v := ?vce12) rfl (by kernel_rfl) (by kernel_rfl) (by kernel_rfl) (fun _ _ _ h => h) rfl (by rfl) ?yce12 hS ?rce12
            case yce12 => (intro wz hz; go_simp <;> with_reducible rfl)
            simp only [List.setIfInBounds_toArray, List.set_cons_zero, List.set_cons_succ]
            refine takeH (i := 13) (d := 16) (v := ?vce13) rfl (by kernel_rfl) (by kernel_rfl) (by kernel_rfl) (fun _ _ _ h => h) rfl (by rfl) ?yce13 hS ?rce13
            case yce13 => (intro wz hz; go_simp <;> with_reducible rfl)
            simp only [List.setIfInBounds_toArray, List.set_cons_zero, List.set_cons_succ]
            refine wpAnyH_done (by kernel_rfl) ?_ _
            go_wp2_with fail
            go_meet
            exact ⟨_, bx, lk, zc, rfl, rfl, rfl, CX⟩
        case rest =>
          obtain ⟨b14, bx, lk, zc, rfl, rfl, rfl, CX⟩ := hcut
          have EL7 := Lib.hid (EL6.out.below CX.out.low)
          have CS7 := Lib.hid (CS6.out.call CX.out.low)
          have R7 := Lib.hid (range_below R6.out CX.out.low hbl6)
          have hbl7 : bL < wc.heap.size := Nat.lt_of_lt_of_le hbl6 CX.out.low.size
          rcases CX.out.how with ⟨rfl, hlk, hgd, hfit, A', c', rfl, hrow⟩ | ⟨hz, hbx⟩
          · have HGD := Lib.hid hgd
            have HFIT := Lib.hid hfit
            have HROW := Lib.hid hrow
            have HLK := Lib.hid hlk
            have A14 := Lib.hid CX.out.box
            have A17 := Lib.hid (At.new wc 42 (erA r))
            have c17 : (wc.alloc (.cells (erA r) 42)).cell? ⟨wc.heap.size, 0, none⟩ = some (.int .u64 (r.e.lsn : Nat)) := A17.out.cell 0
            have f17 := A17.out.frozen 0
            clear hgd hfit hrow hlk
            have A17' : Hid (At (wc.alloc (.cells ((erA r).setIfInBounds 0 (.int .u64 (lk : Int))) 42)) wc.heap.size 42 (erA (erN r lk))) := by
              rw [erN_set]
              exact At.new _ _ _
            have W7 := Lib.hid (show Below wc.heap.size wc (wc.alloc (.cells ((erA r).setIfInBounds 0 (.int .u64 (lk : Int))) 42)) from (Below.refl _ wc).alloc (Nat.le_refl _) _)
            go_wp2_with (first
              | refine wpList_load_er 85 (.tmp 84) rfl rfl rfl bL (oL + k * 13) rfl r R7.out ?_
              | refine wpList_store_new 42 (.tmp 17) (.tmp 85) rfl rfl rfl _ wc rfl rfl (erA r) zE 13 rfl strE rfl rfl (erA_one _) rfl ?_
              | refine wpList_load_at 42 89 (.tmp 17) rfl rfl rfl wc.heap.size rfl (erA (erN r lk)) 13 strE rfl A17'.out ?_)
            generalize wc.alloc (.cells ((erA r).setIfInBounds 0 (.int .u64 (lk : Int))) 42) = z7 at A17' W7 ⊢
            clear A17 c17 f17 A17'
            have hg0 : Gd (erN r lk).e := by rw [HLK.out]; exact HGD.out
            refine (rput_er (erN r lk) z7 ((EL7.out.below W7.out).withN lk) hg0).mono ?_
            rintro e z8 ⟨Ab, nb2, cb, rfl, hob, hb8⟩
            have W8 := Lib.hid (W7.out.trans (hb8.mono W7.out.size))
            have LB := Lib.hid (Lies.of_own hob)
            have hnb2 : (enc (withN r.e lk)).length = nb2 := by have := hob.1; rw [BC_length] at this; exact this.trans (Nat.mul_one _)
            have hnbc : nb2 ≤ cb := by obtain ⟨_, _, hq, hq2, _⟩ := own_slice hob; injection hq with _ hq3 hq4; omega
            have hel2 : nb2 ≤ 10000 := by have := enc_len hg0; rw [← hnb2]; exact Nat.le_trans this.2 (by omega)
            have HEL2 := Lib.hid (show nb2 ≤ 10000 ∧ nb2 ≤ cb from ⟨hel2, hnbc⟩)
            have CS8 := Lib.hid (CS7.out.call W8.out)
            have cu : z8.cell? ⟨b, 2, none⟩ = some (.int .i64 (us : Int)) := CS8.out.box.cell 2
            clear hob hb8 hg0 hnb2 hnbc hel2
            go_wp2_with fail
            refine (rcut_any nb2 cb us Ab (enc (withN r.e lk)) z8 LB.out HEL2.out.1 HEL2.out.2 (by have := CM.out.le; omega)).mono ?_
            rintro e z9 ⟨Ac, cc, rfl, hoc, hb9⟩
            have W9 := Lib.hid (W8.out.trans (hb9.mono W8.out.size))
            have CS9 := Lib.hid (CS8.out.call hb9)
            have LC := Lib.hid (Lies.of_own hoc)
            obtain ⟨m, hm⟩ : ∃ m, (cutS (enc (withN r.e lk)) us).length = m := ⟨_, rfl⟩
            have HM := Lib.hid (show m = wid (withN r.e lk) by rw [← hm, cutS_length]; rfl)
            rw [hm] at LC ⊢
            have hm1 : 1 ≤ m ∧ m ≤ 112 := by rw [HM.out]; exact wid_ok (by rw [HLK.out]; exact HGD.out)
            have hus : us ≤ 1000 := CM.out.le
            have hbz : b + 1 ≤ z9.heap.size := by have := CS9.out.box.lt; omega
            have A14' := Lib.hid (A14.out.under W9.out A14.out.lt)
            clear hoc hb9 cu hm LB CS8
            go_wp2_with (first
              | (at_builtin; refine wpList_app2 _ rfl (.tmp 93) (.tmp 97) _ rfl (b + 1) 68 i1 _ 64 64 Tryd.underlying62 hi1 hy0 hy1 hy2 (secA_size _) (by omega) _ us _ rfl CS9.out.own _ _ m _ _ rfl LC.out (flat_one _) (by omega) (by simp only [maxLen]; omega) (by omega) hbz ?_
                 intro v10 z10 ho10 hg10 hv10
                 have O10 := Lib.hid ho10
                 have G10 := Lib.hid hg10
                 have V10 := Lib.hid hv10
                 have X14 := Lib.hid (A14'.out.grown hg10 (own_ne CS9.out.own A14'.out (by decide)))
                 have XB := Lib.hid (CS9.out.box.grown hg10 (own_ne CS9.out.own CS9.out.box (by decide)))
                 clear ho10 hg10 hv10)
              | refine wpList_load_at 34 99 (.tmp 14) rfl rfl rfl b14 rfl (rlA 1000 A' (n + 1) c' (us + wid (withN r.e (us + 1))) 0) 4 strRL rfl X14.out ?_
              | (refine wpList_store_at 34 (.tmp 11) (.tmp 99) rfl rfl rfl b rfl (rlA 1000 A' (n + 1) c' (us + wid (withN r.e (us + 1))) 0) (rlA 1000 A n c us 0) 4 rfl strRL rfl rfl (rlA_one _ _ _ _ _ _) XB.out ?_
                 intro z11 ha11 hg11
                 have A11 := Lib.hid ha11
                 have G11 := Lib.hid hg11
                 clear ha11 hg11))
            rw [HLK.out] at HM O10
            have CS11 : Hid (CuS w b A' (n + 1) c' (us + wid (withN r.e (us + 1))) (rs ++ [erN r (us + 1)]) v10 z11) :=
              CuS.laid CS6.out CX.out.low W9.out CM.out.sum HROW.out EL6.out O10.out HM.out G10.out V10.out A11.out G11.out
            refine ⟨⟨k + 1, A', n + 1, c', _, _, by omega, by go_num, CS11, CM.out.step HGD.out HFIT.out⟩, by simp [intOf]; omega⟩
          · have dz : (zc == 0) = false := by simpa using hz
            clear hz hbx
            go_wp2_with fail
            exact ⟨⟨k + 1, A, n, c, us, rs, by omega, by go_num, CS7, CM.out.mono⟩, by simp [intOf]; omega⟩
      · have hl1 : lightI r.e.rc.val.length r.np r.na = 1 := by
          unfold lightI at hlg ⊢
          split
          · rfl
          · rename_i h; rw [if_neg h] at hlg; exact absurd rfl hlg
        go_wp2_with (refine wpList_load_er 66 (.tmp 65) rfl rfl rfl bL (oL + k * 13) rfl r R1.out ?_)
        refine (light_er r I1.out wr).mono ?_
        rintro e y6 ⟨rfl, hb6⟩
        rw [hl1]
        have LW := Lib.hid (CS.out.call hb6).low
        clear hb6 hl1 hlg
        go_wp2_with fail
        refine (works_any y6).mono ?_
        rintro e y7 ⟨rfl, hb7⟩
        have LW7 := Lib.hid (LW.out.trans (hb7.mono LW.out.size))
        clear hb7
        go_wp2_with fail
        go_ret
        exact ⟨rfl, LW7.out⟩
    · obtain rfl : k = N := by omega
      obtain ⟨As, cs, rfl, hs1, hs2⟩ := own_slice CS.out.own
      have hus : us ≤ 1000 := CM.out.le
      obtain ⟨qq, hqq⟩ : ∃ qq : Bool, qq = (decide (0 ≤ cut) && decide (cut < (us : Int))) := ⟨_, rfl⟩
      have HQQ := Lib.hid hqq
      go_upto_region 20 with fail
      go_cut [108] from 57 to 159 (fun s108 wx => s108 = .bool qq ∧ wx = wr)
      case first =>
        by_cases q1 : 0 ≤ cut
        · have e1 : decide (0 ≤ cut) = true := by simp [q1]
          go_wp2_with fail
          go_meet
          exact ⟨by rw [hqq, e1, Bool.true_and], rfl⟩
        · have e1 : decide (0 ≤ cut) = false := by simp [q1]
          go_wp2_with fail
          go_meet
          exact ⟨by rw [hqq, e1, Bool.false_and], rfl⟩
      case rest =>
        obtain ⟨rfl, rfl⟩ := hcut
        clear hqq
        go_upto_if 108 with fail
        go_cut [20] from 57 to 159 (fun s20 wx => ∃ kk : Nat, kk ≤ us ∧ s20 = .int .i64 (kk : Int) ∧ wx = wc)
        case first =>
          cases qq
          · go_wp2_with fail
            go_meet
            exact ⟨us, Nat.le_refl _, rfl, rfl⟩
          · have hq := HQQ.out
            simp only [Bool.true_eq, Bool.and_eq_true, decide_eq_true_eq] at hq
            go_wp2_with fail
            go_meet
            exact ⟨cut.toNat, by omega, by rw [show ((cut.toNat : Nat) : Int) = cut by omega], rfl⟩
        case rest =>
          obtain ⟨kk, hkk, rfl, rfl⟩ := hcut
          obtain ⟨ib, hib, hx0, hx1, hx2⟩ := info_parts bool_info9
          have CSW := Lib.hid CS.out
          have K0 : Hid (KpS wc turn 0 (.slice none 0 0) wc) := ⟨World.ownsRow_nil _ _ _ _, Below.refl _ _⟩
          generalize hwc : wc = y at *
          clear hwc
          go_wp2_with fail
          go_loopw [21, 22] (fun K i z => ∃ j : Nat, j ≤ kk ∧ i = .int .i64 (j : Int) ∧ Hid (KpS y turn j K z)) (fun _ i _ => kk - (intOf i).toNat)
          case atStart => exact ⟨0, Nat.zero_le _, rfl, K0⟩
          case round =>
            clear K0
            obtain ⟨j, hj, rfl, KP⟩ := hrel
            by_cases hjl : j < kk
            · have KO := Lib.hid ((KP.out.own).alloc (.cells #[.bool ((j : Int) != turn)] 4))
              have KL := Lib.hid (KP.out.low.alloc KP.out.low.size (.cells #[.bool ((j : Int) != turn)] 4))
              have LN := Lib.hid (lies_new wr (.bool ((j : Int) != turn)) 4)
              go_wp2_with (at_builtin; refine wpList_app2 _ rfl (.tmp 115) (.tmp 119) _ rfl y.heap.size 4 ib _ 1 1 Tryd.underlying43 hib hx0 hx1 hx2 rfl (by omega) _ j _ rfl KO.out _ _ 1 _ _ rfl LN.out (fun u hu => by simp only [List.mem_singleton] at hu; rw [hu]; rfl) (by omega) (by simp only [maxLen]; omega) (by omega) KL.out.size ?_
                           intro v6 z6 ho6 hg6 hv6
                           have HO6 := Lib.hid ho6
                           have HL6 := Lib.hid (KL.out.grown hg6 KL.out.size (fun q hq => (own_cells KO.out hq).1))
                           clear ho6 hg6 hv6)
              have KP6 : Hid (KpS y turn (j + 1) v6 z6) := ⟨by rw [kpL_succ, BL_append9]; exact HO6.out, HL6.out⟩
              exact ⟨⟨j + 1, by omega, by go_num, KP6⟩, by simp [intOf]; omega⟩
            · obtain rfl : j = kk := by omega
              have CSR := Lib.hid (CSW.out.call KP.out.low)
              have OE := Lib.hid (own_none64 wr)
              have CSR2 := Lib.hid (CSR.out.call ((Below.refl _ wr).alloc (Nat.le_refl _) (.cells #[] 68)))
              have KP2 := Lib.hid (KpS.mk (own_under KP.out.own ((Below.refl _ wr).alloc (Nat.le_refl _) (.cells #[] 68)) (Nat.le_refl _)) (KP.out.low.alloc KP.out.low.size (.cells #[] 68)))
              have LS := Lib.hid ((Lies.of_own CSR2.out.own))
              have LT := Lib.hid (show Lies (wr.alloc (.cells #[] 68)) (wr.alloc (.cells #[] 68)).heap.size 64 As j (flat ((lay (rs.map (·.e)) 0).take j)) from by
                rw [flat_take9]
                exact (Lz.of_own (X := fun _ => False) CSR2.out.own (fun _ h => h.elim)).head hkk |>.la.lies)
              go_upto_region 28 with (first
                | refine wpList_head64 124 (.tmp 122) (.tmp 123) rfl rfl rfl As us cs j rfl rfl (by omega) ?_
                | (at_builtin; refine wpList_app _ rfl (.tmp 121) (.tmp 124) _ rfl wr.heap.size 68 i1 _ 64 64 Tryd.underlying62 hi1 hy0 hy1 hy2 (secA_size _) (by omega) _ 0 _ rfl OE.out _ _ j _ _ rfl LT.out (flat_one _) (by simp only [maxLen]; omega) (by omega) (by simp) ?_
                   intro vT zT hoT hgT
                   have HOT := Lib.hid hoT
                   have HGT := Lib.hid hgT
                   clear hoT hgT))
              obtain ⟨tt, htt⟩ : ∃ tt : Bool, tt = (decide (0 ≤ turn) && decide (turn < (j : Int))) := ⟨_, rfl⟩
              have HTQ := Lib.hid htt
              go_cut [132] from 110 to 159 (fun s132 wx => s132 = .bool tt ∧ wx = zT)
              case first =>
                by_cases q1 : 0 ≤ turn
                · have e1 : decide (0 ≤ turn) = true := by simp [q1]
                  go_wp2_with fail
                  go_meet
                  exact ⟨by rw [htt, e1, Bool.true_and], rfl⟩
                · have e1 : decide (0 ≤ turn) = false := by simp [q1]
                  go_wp2_with fail
                  go_meet
                  exact ⟨by rw [htt, e1, Bool.false_and], rfl⟩
              case rest =>
                obtain ⟨rfl, hwz⟩ := hcut
                subst hwz
                clear htt
                generalize hwq : wc = zT at *
                clear hwq
                go_upto_if 132 with fail
                have BT := Lib.hid (show Below wr.heap.size wr zT from ((Below.refl _ wr).alloc (Nat.le_refl _) (.cells #[] 68)).grown HGT.out (by simp) (fun q hq => by injection hq with hq; rw [← hq]; exact Nat.le_refl _))
                have HO0 : Hid (zT.ownsRow wr.heap.size 68 64 vT j (flat ((lay (rs.map (·.e)) 0).take j))) := by
                  have := HOT.out
                  rw [Nat.zero_add] at this
                  exact this
                have hjl : j ≤ (lay (rs.map (·.e)) 0).length := by rw [lay_length, ← CM.out.sum]; exact hkk
                have HJL := Lib.hid hjl
                obtain ⟨AT, cT, rfl, _, _⟩ := own_slice HO0.out
                clear HOT HGT OE CSR2 KP2 LS LT hjl
                go_cut [136] from 133 to 159 (fun s136 wx => ∃ T : List Sect, Hid (TurnT (lay (rs.map (·.e)) 0) j turn T) ∧ Hid (wx.ownsRow wr.heap.size 68 64 (.slice AT j cT) j (flat T)) ∧ Hid (Below wr.heap.size wr wx))
                case first =>
                  cases tt
                  · go_wp2_with fail
                    go_meet
                    exact ⟨_, TurnT.no HJL.out HTQ.out.symm, HO0, BT⟩
                  · have hq := HTQ.out
                    simp only [Bool.true_eq, Bool.and_eq_true, decide_eq_true_eq] at hq
                    obtain ⟨tn, rfl⟩ : ∃ tn : Nat, turn = (tn : Int) := ⟨turn.toNat, by omega⟩
                    have htn : tn < j := by omega
                    obtain ⟨gT, rfl, _, _⟩ := own_row2 HO0.out (by omega)
                    have OS := Lib.hid (own_set64 HO0.out htn)
                    have hgt : wr.heap.size ≤ gT := (own_cells HO0.out rfl).1
                    clear hq
                    go_wp2_with (first
                      | refine wpList_build9 135 rfl rfl 68 _ rfl #[] (by rfl) _ built_zs ?_
                      | (refine wpList_store_sec (.tmp 136) (.tmp 135) rfl rfl rfl gT (tn * 64) rfl zsec rfl OS.out.2 ?_
                         intro z8 hz8))
                    go_meet
                    subst hz8
                    exact ⟨_, TurnT.yes HJL.out htn, OS.out.1, (show Below wr.heap.size wr _ from ((Mod.refl (fun k => k = gT) zT).setCells (.inl rfl) _ _).below BT.out (fun k hk => by omega) BT.out.size)⟩
                case rest =>
                  obtain ⟨T, HTT, HOT, HBT⟩ := hcut
                  clear HO0 BT
                  generalize hw8 : wc = z8 at *
                  clear hw8
                  have CS8 := Lib.hid (CSR.out.call HBT.out)
                  have KP8 := Lib.hid (own_under KP.out.own HBT.out (Nat.le_refl _))
                  obtain ⟨AK, cK, rfl, hk1, hk2⟩ := own_slice KP8.out
                  have hk10 : k ≤ 10 := hN
                  have hn9 : n ≤ 1000 := by have := CS8.out.lez.len; have := CM.out.len; omega
                  clear CSR CSW CS KP
                  go_wp2_with fail
                  refine (join_any (fun _ => False) j cT AT T (rs.map (·.e)) (kfW 0 (kpL turn j)) z8 (Lz.of_own HOT.out (fun _ h => h.elim)) (by omega) (HTT.out.held (by rw [← CM.out.sum]; exact hkk)) CM.out.num).mono ?_
                  rintro e z9 ⟨m, v, rs9, hm, rfl, hmap, ho9, hel9, hb9⟩
                  obtain ⟨A9, c9, rfl, _, _⟩ := own_slice ho9
                  have CS9 := Lib.hid (CS8.out.call hb9)
                  have KO9 := Lib.hid (own_under KP8.out hb9 (Nat.le_refl _))
                  have J9 : Hid (LEz (fun _ => False) z9 A9 m rs9) := ⟨Lz.of_own ho9 (fun _ h => h.elim), fun r hr => (hel9 r hr).mono fun _ _ h => h.elim⟩
                  have HM := Lib.hid hm
                  have HMAP := Lib.hid hmap
                  have hm10 : m ≤ 1000 := by have := hm.le; have := CM.out.len; have h2 : (rs.map (·.e)).length = rs.length := by simp
                                             omega
                  obtain ⟨q9, hq9⟩ : ∃ q : Nat, pos ((rs.map (·.e)).take m) = q := ⟨_, rfl⟩
                  have HQ9 := Lib.hid hq9
                  rw [hq9]
                  clear ho9 hel9 hb9 hm hmap CS8 KP8 HOT HTT HBT hq9
                  go_wp2_with (refine wpList_load_at 34 143 (.tmp 11) rfl rfl rfl b rfl (rlA 1000 A n c us 0) 4 strRL rfl CS9.out.box ?_)
                  refine (whole_any _ (fun _ => False) A AK n c j cK 1000 us 0 rs (kpL turn j) z9 CS9.out.lez (Lz.of_own KO9.out (fun _ h => h.elim)) hn9 (by omega) (by omega) CM.out.gd).mono ?_
                  rintro e z10 ⟨m2, p2, v2, hm2, hp2, rfl, ho10, hb10⟩
                  obtain rfl : m2 = m := hm2.unique HM.out
                  obtain rfl : p2 = q9 := by rw [hp2]; exact HQ9.out
                  obtain ⟨A10, c10, rfl, _, _⟩ := own_slice ho10
                  have E10 : Hid (LEz (fun _ => False) z10 A10 m2 (rs.take m2)) := ⟨Lz.of_own ho10 (fun _ h => h.elim), fun r hr => ((CS9.out.els r (List.mem_of_mem_take hr)).below hb10).mono fun _ _ h => h.elim⟩
                  have J10 := Lib.hid (J9.out.below hb10)
                  have LW := Lib.hid (CS9.out.low.trans (hb10.mono CS9.out.low.size))
                  clear ho10 hb10 hp2 hm2 CS9 KO9 J9
                  go_wp2_with fail
                  refine (rsame_any _ _ A9 A10 m2 c9 m2 c10 rs9 (rs.take m2) z10 J10.out E10.out hm10 hm10 (fun r hr => by have := gd_small (take_gd CM.out HMAP.out r hr) (J10.out.els r hr); exact ⟨this.1, this.2.1⟩)
                    (fun r hr => by have := gd_small (CM.out.gd r (List.mem_of_mem_take hr)) (E10.out.els r hr); exact ⟨this.1, this.2.1⟩)).mono ?_
                  rintro e z11 ⟨b', rfl, hbi, hb11⟩
                  obtain rfl : b' = true := hbi.2 (by rw [HMAP.out, List.map_take])
                  have LW2 := Lib.hid (LW.out.trans (hb11.mono LW.out.size))
                  clear hbi hb11
                  go_wp2_with fail
                  refine (works_any z11).mono ?_
                  rintro e z12 ⟨rfl, hb12⟩
                  have LW3 := Lib.hid (LW2.out.trans (hb12.mono LW2.out.size))
                  clear hb12
                  go_wp2_with fail
                  go_ret
                  exact ⟨rfl, LW3.out⟩

set_option maxHeartbeats 1600000 in
theorem cuts_big (B AL : Option Addr) (nb bc N cL : Nat) (p cut turn : Int) (w : World) (h : 2000 < nb ∨ 10 < N) : Calls Tryd.prog 4 #[.slice B nb bc, .int .u16 p, .slice AL N cL, .int .i64 cut, .int .i64 turn] w (RetQ w true) := by
  by_cases h1 : 2000 < nb
  · have d1 : decide ((2000 : Int) < (nb : Int)) = true := by simp; omega
    go_enter Tryd.func4, Tryd.ntmps4
    go_wp2_with fail
    refine (works_any w).mono ?_
    rintro e w1 ⟨rfl, hb⟩
    have HB := Lib.hid hb
    clear hb
    go_wp2_with fail
    go_ret
    exact ⟨rfl, HB.out⟩
  · have d1 : decide ((2000 : Int) < (nb : Int)) = false := by simp; omega
    have d2 : decide ((10 : Int) < (N : Int)) = true := by simp; omega
    go_enter Tryd.func4, Tryd.ntmps4
    go_wp2_with fail
    refine (works_any w).mono ?_
    rintro e w1 ⟨rfl, hb⟩
    have HB := Lib.hid hb
    clear hb
    go_wp2_with fail
    go_ret
    exact ⟨rfl, HB.out⟩
theorem cuts_law (B : Option Addr) (bc : Nat) (p : Int) (l : List UInt8) (AL : Option Addr) (cL : Nat) (es : List Er) (cut turn : Int) (w : World) (hb : Lies w w.heap.size 1 B l.length (BC l)) (hbc : l.length ≤ bc) (hp : 0 ≤ p ∧ p < 65536)
    (hL : LEz (fun k => w.heap.size ≤ k) w AL es.length es) (hin : ∀ r ∈ es, ErIn r) (hc1 : -9223372036854775808 ≤ cut ∧ cut ≤ 9223372036854775807) (ht1 : -9223372036854775808 ≤ turn ∧ turn ≤ 9223372036854775807) :
    Calls Tryd.prog 4 #[.slice B l.length bc, .int .u16 p, .slice AL es.length cL, .int .i64 cut, .int .i64 turn] w (RetQ w true) := by
  by_cases h : 2000 < l.length ∨ 10 < es.length
  · exact cuts_big B AL l.length bc es.length cL p cut turn w h
  · obtain ⟨q, rfl⟩ : ∃ q : Nat, p = (q : Int) := ⟨p.toNat, by omega⟩
    exact cuts_in B bc l.length q l AL cL es.length es cut turn w hb (by omega) hbc (by omega) hL hin (by omega) hc1 ht1
end Go.Proofs.YthicidpdgggbjaaDoor
