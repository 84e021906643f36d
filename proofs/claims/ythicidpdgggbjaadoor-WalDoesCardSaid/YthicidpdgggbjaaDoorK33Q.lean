/-
  The state of the law WalDoes: a log on its disk and the reference's log in a box; what the steps leave of it.
  Conditions: none beyond those that each theorem names.
-/
import Derived.Test.YthicidpdgggbjaaDoorK32Q
namespace Go.Proofs.YthicidpdgggbjaaDoor
open Go.RowKit
set_option maxRecDepth 20000

/-- What stands behind the reference's Append. -/
structure CuY (sz dn : Nat) (w0 : World) (us n : Nat) (bx0 : Array Value) (rs : List Er) (r : Er) (b14 : Nat) (bx : Array Value) (k : Nat) (z : Int) (w' : World) : Prop where
  box : At w' b14 34 bx
  size : bx.size = 4
  one : bx.all (·.oneCell') = true
  new : w0.heap.size ≤ b14
  low : Below w0.heap.size w0 w'
  how : (z = 0 ∧ k = us + 1 ∧ Gd (withN r.e (us + 1)) ∧ us + wid (withN r.e (us + 1)) ≤ sz ∧ ∃ A c, bx = rlA sz A (n + 1) c (us + wid (withN r.e (us + 1))) dn ∧ Lz (fun k => k < w0.heap.size ∨ k = b14) w' 13 A (n + 1) (flatE (rs ++ [erN r (us + 1)]))) ∨
     ((z != 0) = true ∧ k = 0 ∧ bx = bx0 ∧ (chk (withN r.e (us + 1)) = z ∨ (Gd (withN r.e (us + 1)) ∧ sz - us < wid (withN r.e (us + 1)) ∧ z = 6)))
theorem CuY.first {sz dn : Nat} {w0 z1 z3 : World} {us n : Nat} {bx0 bx : Array Value} {rs : List Er} {r : Er} {k : Nat} {z : Int} (hb : Below w0.heap.size w0 z1) (h4 : bx.size = 4) (h1 : bx.all (·.oneCell') = true) (ha : At z3 z1.heap.size 34 bx) (hg : (z1.alloc (.cells zRL 34)).grownBy z3 (some z1.heap.size))
    (how : (z = 0 ∧ k = us + 1 ∧ Gd (withN r.e (us + 1)) ∧ us + wid (withN r.e (us + 1)) ≤ sz ∧ ∃ A c, bx = rlA sz A (n + 1) c (us + wid (withN r.e (us + 1))) dn ∧ z1.ownsRow w0.heap.size 42 13 (.slice A (n + 1) c) (n + 1) (flatE (rs ++ [erN r (us + 1)]))) ∨ ((z != 0) = true ∧ k = 0 ∧ bx = bx0 ∧ (chk (withN r.e (us + 1)) = z ∨ (Gd (withN r.e (us + 1)) ∧ sz - us < wid (withN r.e (us + 1)) ∧ z = 6)))) :
    CuY sz dn w0 us n bx0 rs r z1.heap.size bx k z z3 := by
  have hs := hb.size
  have hm : Mod (fun k => k = z1.heap.size) z1 z3 := ((Mod.refl _ z1).alloc _).grown hg (fun k hk => by injection hk with hk; exact .inl hk.symm)
  refine ⟨ha, h4, h1, hs, hm.below hb (fun k hk => by omega) hs, ?_⟩
  rcases how with ⟨q1, q2, q3, q4, A, c, q5, q6⟩ | q
  · refine .inl ⟨q1, q2, q3, q4, A, c, q5, ?_⟩
    have hz : Lz (fun k => k < w0.heap.size) z1 13 A (n + 1) (flatE (rs ++ [erN r (us + 1)])) := Lz.of_own q6 (fun _ hk => hk)
    exact (hz.mono fun k hk hk2 => by omega : Lz (fun k => k < w0.heap.size ∨ k = z1.heap.size) z1 13 A (n + 1) _).keptY hm (fun k _ hk => .inr hk)
  · exact .inr q
theorem CuY.second {sz dn : Nat} {w0 z2 z3 : World} {us n : Nat} {bx0 bx : Array Value} {rs : List Er} {r : Er} {k : Nat} {z : Int} (hb : Below (w0.heap.size + 1) (w0.alloc (.cells zRL 34)) z2) (h4 : bx.size = 4) (h1 : bx.all (·.oneCell') = true) (ha : At z3 w0.heap.size 34 bx) (hg : z2.grownBy z3 (some w0.heap.size))
    (how : (z = 0 ∧ k = us + 1 ∧ Gd (withN r.e (us + 1)) ∧ us + wid (withN r.e (us + 1)) ≤ sz ∧ ∃ A c, bx = rlA sz A (n + 1) c (us + wid (withN r.e (us + 1))) dn ∧ z2.ownsRow (w0.heap.size + 1) 42 13 (.slice A (n + 1) c) (n + 1) (flatE (rs ++ [erN r (us + 1)]))) ∨ ((z != 0) = true ∧ k = 0 ∧ bx = bx0 ∧ (chk (withN r.e (us + 1)) = z ∨ (Gd (withN r.e (us + 1)) ∧ sz - us < wid (withN r.e (us + 1)) ∧ z = 6)))) :
    CuY sz dn w0 us n bx0 rs r w0.heap.size bx k z z3 := by
  have hl : Below w0.heap.size w0 z2 := ((Below.refl _ w0).alloc (Nat.le_refl _) (.cells zRL 34)).trans (hb.mono (by omega))
  have hm : Mod (fun k => k = w0.heap.size) z2 z3 := (Mod.refl _ z2).grown hg (fun k hk => by injection hk with hk; exact .inl hk.symm)
  refine ⟨ha, h4, h1, Nat.le_refl _, hm.below hl (fun k hk => by omega) hl.size, ?_⟩
  rcases how with ⟨q1, q2, q3, q4, A, c, q5, q6⟩ | q
  · refine .inl ⟨q1, q2, q3, q4, A, c, q5, ?_⟩
    have hz : Lz (fun k => k < w0.heap.size + 1) z2 13 A (n + 1) (flatE (rs ++ [erN r (us + 1)])) := Lz.of_own q6 (fun _ hk => hk)
    exact (hz.mono fun k hk hk2 => by omega : Lz (fun k => k < w0.heap.size ∨ k = w0.heap.size) z2 13 A (n + 1) _).keptY hm (fun k _ hk => .inr hk)
  · exact .inr q
theorem CuY.undrew {sz dn : Nat} {w0 w' : World} {us n : Nat} {bx0 bx : Array Value} {rs : List Er} {r : Er} {b14 k : Nat} {z : Int} (h : CuY sz dn w0.drew us n bx0 rs r b14 bx k z w') : CuY sz dn w0 us n bx0 rs r b14 bx k z w' :=
  ⟨h.box, h.size, h.one, h.new, (Below.refl _ w0).drew.trans h.low, h.how⟩

/-- The law's state in memory. -/
structure WD (w : World) (gd gs g size B : Nat) (S : List Sect) (nw : Int) (rs : List Er) (fo : Nat) (ws : List Sect) (vE vW : Value) (b9 : Nat) (A : Option Addr) (n c us dn : Nat) (ts : List Er) (z : World) : Prop where
  lg : LogAt (fun k => pl_own gd gs k ∨ k = b9) B z g gd 2 size rs fo ws vE vW
  d : DS w gd gs g 2 size B S nw rs fo ws vE vW z
  box : At z b9 34 (rlA size A n c us dn)
  row : Lz (fun k => k = b9 ∨ XL g vE vW k ∨ pl_own gd gs k) z 13 A n (flatE ts)
  els : ∀ r ∈ ts, ELz (fun k => w.heap.size ≤ k) z r
  bw : w.heap.size ≤ b9
  bx : ¬ XL g vE vW b9
  bp : ¬ pl_own gd gs b9
/-- What holds of its numbers, before the act i. -/
structure WM (size : Nat) (S : List Sect) (nw : Int) (rs : List Er) (fo : Nat) (ws : List Sect) (us : Nat) (ts : List Er) (i : Nat) : Prop where
  te : ts.map (·.e) = rs.map (·.e)
  num : Numd (rs.map (·.e)) 0
  sum : us = fo + ws.length
  pos : us = pos (rs.map (·.e))
  ws : ws = (lay (rs.map (·.e)) 0).drop fo
  od : OnDisk S 2 size (rs.map (·.e)) fo
  out : OutZ S size
  len : S.length = size + 4
  cnt : rs.length ≤ i
  n0 : 0 ≤ nw
  n1 : nw ≤ 2 * i
section
variable {w : World} {gd gs g size B : Nat} {S : List Sect} {nw : Int} {rs : List Er} {fo : Nat} {ws : List Sect} {vE vW : Value} {b9 : Nat} {A : Option Addr} {n c us dn : Nat} {ts : List Er} {z z' : World}
theorem WD.call (h : WD w gd gs g size B S nw rs fo ws vE vW b9 A n c us dn ts z) (hb : Below z.heap.size z z') : WD w gd gs g size B S nw rs fo ws vE vW b9 A n c us dn ts z' :=
  ⟨h.lg.below hb, h.d.call hb, h.box.under hb h.box.lt, h.row.below hb, fun r hr => (h.els r hr).below hb, h.bw, h.bx, h.bp⟩
theorem WD.lez (h : WD w gd gs g size B S nw rs fo ws vE vW b9 A n c us dn ts z) : LEz (fun k => k = b9 ∨ XL g vE vW k ∨ pl_own gd gs k) z A n ts :=
  ⟨h.row, fun r hr => (h.els r hr).mono fun k _ hk => by
    rcases hk with rfl | hk | hk
    · exact h.bw
    · exact h.d.xw k hk
    · exact h.d.hw k hk⟩
/-- What lies outside the log's blocks, the disk's and the box, behind a change of some of these. -/
theorem WD.keep {Y : Nat → Prop} {vE' vW' : Value} (h : WD w gd gs g size B S nw rs fo ws vE vW b9 A n c us dn ts z) (hm : Mod Y z z') (hY : ∀ k, Y k → k = b9 ∨ XL g vE vW k ∨ pl_own gd gs k) (hx : ∀ k, k < z.heap.size → XL g vE' vW' k → XL g vE vW k) :
    Lz (fun k => k = b9 ∨ XL g vE' vW' k ∨ pl_own gd gs k) z' 13 A n (flatE ts) ∧ (∀ r ∈ ts, ELz (fun k => w.heap.size ≤ k) z' r) ∧ Below w.heap.size w z' ∧ ¬ XL g vE' vW' b9 := by
  have hw : ∀ k, Y k → w.heap.size ≤ k := fun k hk => by
    rcases hY k hk with rfl | hk | hk
    · exact h.bw
    · exact h.d.xw k hk
    · exact h.d.hw k hk
  refine ⟨?_, fun r hr => (h.els r hr).keptY hm fun k _ hk => hw k hk, below_mod h.d.low hm hw, fun hk => h.bx (hx _ h.box.lt hk)⟩
  have q1 : Lz (fun k => (k = b9 ∨ XL g vE vW k ∨ pl_own gd gs k) ∨ z.heap.size ≤ k) z 13 A n (flatE ts) := h.row.mono fun k hk hk2 => by
    rcases hk2 with hk2 | hk2
    · exact hk2
    · omega
  refine (q1.keptY hm fun k _ hk => .inl (hY k hk)).mono fun k _ hk => ?_
  rcases hk with hk | hk | hk
  · exact .inl (.inl hk)
  · by_cases hz : k < z.heap.size
    · exact .inl (.inr (.inl (hx k hz hk)))
    · exact .inr (by omega)
  · exact .inl (.inr (.inr hk))
/-- Append, where it appends. -/
theorem wd_append (h : WD w gd gs g size B S nw rs fo ws vE vW b9 A n c us dn ts z) (hf : fo ≤ 2000) (hw : ws.length ≤ 2000) (hrs : rs.length ≤ 900) (hu : us = fo + ws.length) (hsz : us ≤ size) (hsz2 : size ≤ 2000) (r : Er) (hr : ELz (fun k => w.heap.size ≤ k) z r)
    (hnp : r.np ≤ 1000) (hna : r.na ≤ 1000) (hg : Gd (withN r.e (us + 1))) (hfit : wid (withN r.e (us + 1)) ≤ size - us) :
    Calls Tryd.prog 10 #[.pointer (some ⟨g, 0, none⟩), .agg (erA r)] z fun e z' => ∃ (r' : Er) (vE' vW' : Value), r'.e = withN r.e (us + 1) ∧ e = .returned (.tuple #[.int .u64 ((us + 1 : Nat) : Int), .int .i64 0]) ∧
      WD w gd gs g size B S nw (rs ++ [r']) fo (ws ++ cutS (enc (withN r.e (us + 1))) us) vE' vW' b9 A n c us dn ts z' ∧ Below w.heap.size w z' := by
  have hX : ∀ k, (pl_own gd gs k ∨ k = b9) → k < z.heap.size := by
    rintro k (hk | rfl)
    · exact h.d.plt k hk
    · exact h.box.lt
  refine (append_ok (fun k => pl_own gd gs k ∨ k = b9) B z g gd 2 size rs fo ws vE vW h.lg (by omega) (by omega) hrs us hu hsz (by omega) _ r hr hnp hna h.d.xw hX (by have := h.d.glt; omega) hg hfit).mono ?_
  rintro e z' ⟨r', vE', vW', h1, _, _, h4, h5, h6, h7⟩
  obtain ⟨k1, k2, k3, k4⟩ := h.keep h6 (fun k hk => .inr (.inl hk)) h7
  refine ⟨r', vE', vW', h1, h4, ⟨h5, ⟨?_, h5.mono fun k _ hk => .inl hk, k3, h.d.hB, h.d.hw, h.d.hwB⟩, (h6.block b9 h.box.lt h.bx).trans h.box, k1, k2, h.bw, k4, h.bp⟩, k3⟩
  exact plat_any ((plat_any h.d.plat (XL g vE vW)).kept h6 (fun hk => h.d.apart _ hk (.inl rfl)) (fun hk => h.d.apart _ hk (.inr rfl)) (fun _ _ hk => hk)) _
/-- Force, where there is something to write. -/
theorem wd_force (h : WD w gd gs g size B S nw rs fo ws vE vW b9 A n c us dn ts z) (hf : fo ≤ 2000) (hwl : ws.length ≤ 2000) (hw : 0 < ws.length) (hn : S.length ≤ 100000) (hw0 : 0 ≤ nw) (hw1 : nw ≤ 1000000) (hu : us = fo + ws.length) (hi : 2 + fo + ws.length ≤ S.length) :
    Calls Tryd.prog 12 #[.pointer (some ⟨g, 0, none⟩)] z fun e z' => e = .returned (.int .i64 0) ∧ WD w gd gs g size B (upd S (2 + fo) ws (fun _ => true)) (nw + 1) rs us [] vE (.slice none 0 0) b9 A n c us dn ts z' := by
  refine (force_ok (fun k => pl_own gd gs k ∨ k = b9) B z g gd gs 2 size S nw rs fo ws vE vW h.lg h.d.plat (fun _ hk => .inl hk) h.d.hB hn hw (by omega) (by omega) hw0 hw1 (2 + fo) rfl us hu hi).mono ?_
  rintro e z' ⟨h1, h2, h3, h4⟩
  have hx : ∀ k, k < z.heap.size → XL g vE (.slice none 0 0) k → XL g vE vW k := by
    rintro k _ (hk | hk | hk)
    · exact .inl hk
    · exact .inr (.inl hk)
    · cases hk
  obtain ⟨k1, k2, k3, k4⟩ := h.keep h4 (fun k hk => by rcases hk with hk | hk; exact .inr (.inr hk); exact .inr (.inl (.inl hk))) hx
  refine ⟨h1, ⟨h3, ⟨h2, h3.mono fun k _ hk => .inl hk, k3, h.d.hB, h.d.hw, h.d.hwB⟩, (h4.block b9 h.box.lt ?_).trans h.box, k1, k2, h.bw, k4, h.bp⟩⟩
  rintro (hk | hk)
  · exact h.bp hk
  · exact h.bx (.inl hk)
/-- The box is written. -/
theorem WD.store {A' : Option Addr} {n' c' us' dn' : Nat} {ts' : List Er} (h : WD w gd gs g size B S nw rs fo ws vE vW b9 A n c us dn ts z) (hm : Mod (fun k => k = b9) z z') (hb : At z' b9 34 (rlA size A' n' c' us' dn')) (hr : Lz (fun k => k = b9 ∨ XL g vE vW k ∨ pl_own gd gs k) z' 13 A' n' (flatE ts')) (he : ∀ r ∈ ts', ELz (fun k => w.heap.size ≤ k) z' r) :
    WD w gd gs g size B S nw rs fo ws vE vW b9 A' n' c' us' dn' ts' z' := by
  obtain ⟨_, _, k3, _⟩ := h.keep hm (fun k hk => .inl hk) (fun _ _ hk => hk)
  have hl := h.lg.kept hm (fun k hk e => h.bx (e ▸ hk)) (fun k _ hk => .inr hk)
  refine ⟨hl, ⟨?_, hl.mono fun k _ hk => .inl hk, k3, h.d.hB, h.d.hw, h.d.hwB⟩, hb, hr, he, h.bw, h.bx, h.bp⟩
  exact plat_any ((plat_any h.d.plat (fun k => k = b9)).kept hm (fun e => h.bp (e ▸ .inl rfl)) (fun e => h.bp (e ▸ .inr rfl)) (fun _ _ hk => hk)) _
theorem WM.good {i : Nat} (h : WM size S nw rs fo ws us ts i) : ∀ r ∈ rs, Gd r.e := fun r hr => by
  obtain ⟨i, hi, rfl⟩ := List.getElem_of_mem hr
  have := (numd_get h.num (m := i) (by simpa using hi)).2
  simpa using this
theorem WM.fit {i : Nat} (h : WM size S nw rs fo ws us ts i) : us ≤ size := by rw [h.pos]; exact h.od.fit
/-- The same holds for a refused act. -/
theorem WM.next {i : Nat} (h : WM size S nw rs fo ws us ts i) : WM size S nw rs fo ws us ts (i + 1) :=
  ⟨h.te, h.num, h.sum, h.pos, h.ws, h.od, h.out, h.len, Nat.le_succ_of_le h.cnt, h.n0, by have := h.n1; omega⟩
/-- Behind an entry that was appended to both. -/
theorem WM.app {i : Nat} {r r' : Er} (h : WM size S nw rs fo ws us ts i) (hr : r'.e = withN r.e (us + 1)) (hg : Gd (withN r.e (us + 1))) (hf : us + wid (withN r.e (us + 1)) ≤ size) :
    WM size S nw (rs ++ [r']) fo (ws ++ cutS (enc (withN r.e (us + 1))) us) (us + wid (withN r.e (us + 1))) (ts ++ [erN r (us + 1)]) (i + 1) := by
  have e1 : (rs ++ [r']).map (·.e) = rs.map (·.e) ++ [withN r.e (us + 1)] := by simp [hr]
  have e2 : (ts ++ [erN r (us + 1)]).map (·.e) = ts.map (·.e) ++ [withN r.e (us + 1)] := by simp [erN]
  have e3 : lay (rs.map (·.e) ++ [withN r.e (us + 1)]) 0 = lay (rs.map (·.e)) 0 ++ cutS (enc (withN r.e (us + 1))) us := by rw [lay_snoc, Nat.zero_add, ← h.pos]
  have hfo : fo ≤ (lay (rs.map (·.e)) 0).length := by rw [lay_length]; exact h.od.low
  refine ⟨by rw [e1, e2, h.te], ?_, ?_, ?_, ?_, ?_, h.out, h.len, by simp; exact h.cnt, h.n0, by have := h.n1; omega⟩
  · rw [e1, numd_snoc]
    exact ⟨h.num, by rw [← h.pos]; show us + 1 = _; omega, hg⟩
  · rw [List.length_append, cutS_length, h.sum]
    show fo + ws.length + wid _ = _
    rw [← h.sum]
    show _ = fo + (ws.length + wid (withN r.e (us + 1)))
    have := h.sum
    omega
  · rw [e1, pos_snoc, ← h.pos]
  · rw [e1, e3, List.drop_append_of_le_length hfo, ← h.ws]
  · rw [e1]
    exact h.od.append _ (by rw [← h.pos]; exact hf)
/-- Behind Force, where there was something to write. -/
theorem WM.force {i : Nat} (h : WM size S nw rs fo ws us ts i) : WM size (upd S (2 + fo) ws (fun _ => true)) (nw + 1) rs us [] us ts (i + 1) := by
  have hl : ws.length = us - fo := by have := h.sum; omega
  refine ⟨h.te, h.num, by simp, h.pos, ?_, ?_, h.out.upd (by have := h.fit; have := h.sum; omega), by rw [upd_length]; exact h.len, Nat.le_succ_of_le h.cnt, by have := h.n0; omega, by have := h.n1; omega⟩
  · rw [List.drop_of_length_le (by rw [lay_length, ← h.pos]; omega)]
  · have := h.od.forced
    rw [← h.ws, ← h.pos] at this
    exact this
end
end Go.Proofs.YthicidpdgggbjaaDoor
