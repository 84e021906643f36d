/-
  The walk of wal.Cut.
  Conditions: at most 10000 bytes, positions of at most 1000000.
-/
import Derived.Test.YthicidpdgggbjaaDoorK2Q
namespace Go.Proofs.YthicidpdgggbjaaDoor
open Go.RowKit Go.Shelf
attribute [local go_sem] Oper.semAt_some
set_option maxRecDepth 8000

/-- The sectors of the shares that have come, whichever they are. -/
def sL (l : List UInt8) (p N : Nat) (pre : List Nat) : List Sect := pre.mapIdx fun i x => secOf (share l x) (p + i + 1) (i == 0) (i + 1 == N)
theorem sL_length (l : List UInt8) (p N : Nat) (pre : List Nat) : (sL l p N pre).length = pre.length := by simp [sL]
theorem sL_snoc (l : List UInt8) (p N : Nat) (pre : List Nat) (x : Nat) : sL l p N (pre ++ [x]) = sL l p N pre ++ [secOf (share l x) (p + pre.length + 1) (pre.length == 0) (pre.length + 1 == N)] := by
  simp [sL, List.mapIdx_append]
theorem sL_all (l : List UInt8) (p : Nat) : sL l p (numSec l.length) (List.range (numSec l.length)) = cutS l p := by
  apply List.ext_getElem (by simp [sL, cutS])
  intro i h1 h2
  simp [sL, cutS]
theorem chV_lies {w : World} {B n k : Nat} {A : Option Addr} {l : List UInt8} (h : Lies w B 1 A n (BC l)) : Lies w B 1 (A.map (·.add (54 * k))) (min 54 (n - 54 * k)) (BC (share l k)) := by
  have hl : l.length = n := by have := h.len; rw [BC_length] at this; omega
  by_cases hk : 54 * k ≤ n
  · have h1 := (h.tail hk (A.map (·.add (54 * k))) (fun _ => rfl)).head (k := min 54 (n - 54 * k)) (by omega)
    have hd : List.drop (54 * k) (BC l) = BC (l.drop (54 * k)) := by simp [BC]
    rw [hd] at h1
    have e : share l k = (l.drop (54 * k)).take (min 54 (n - 54 * k)) := by
      rw [share]
      by_cases h54 : 54 ≤ n - 54 * k
      · rw [Nat.min_eq_left h54]
      · rw [Nat.min_eq_right (by omega), List.take_of_length_le (by rw [List.length_drop]; omega), List.take_of_length_le (by rw [List.length_drop]; omega)]
    rw [e]
    simpa [BC] using h1
  · have e : share l k = [] := List.eq_nil_of_length_eq_zero (by rw [share_len]; omega)
    rw [e, show min 54 (n - 54 * k) = 0 by omega]
    exact Lies.empty

theorem wp_lit1 {o : Oper} {a : Act} {w : World} {K : Act → World → Prop} {Q : Exit → Act → World → Prop} (d : Nat) (x : Operand) (t e : TypeId) (size : Nat) (z : Value) (c : Array Value) (hop : o.dst = some d)
    (ho : o.op = .buildSlice t 1 #[(0, x)]) (hx : a.eval x = .agg c) (ht : Tryd.prog.underlying t = some (.slice e)) (hi : (Tryd.prog.info? e).map (fun i => (i.zero, i.size)) = some (some z, size)) (h0 : 0 < size) (hs : size ≤ 100000) (hc : c.size = size)
    (h : K (a.put (some d) (.slice (some ⟨w.heap.size, 0, none⟩) 1 1)) (w.alloc (.cells c e))) : o.wp Tryd.prog a w K Q := by
  have hrun := run_buildSlice_one (P := Tryd.prog) w t e size z c ht hi h0 hs hc
  unfold Oper.wp
  simp [execOp, ho, hx, hrun, Result.andThen]
  simp only [Oper.upon]
  rw [hop]
  exact h
theorem lies_newC (w : World) (cs : List Value) (t : TypeId) (size : Nat) (hn : cs.length = size) : Lies (w.alloc (.cells cs.toArray t)) (w.heap.size + 1) size (some ⟨w.heap.size, 0, none⟩) 1 cs := by
  refine ⟨by rw [hn]; omega, fun _ => ⟨_, rfl, Nat.lt_succ_self _, fun j u hu => ?_⟩⟩
  rw [add_plain, cell_of_row _ w.heap.size _ cs.toArray t (0, 0) (heap_alloc_new w _)]
  simpa using hu
theorem own_keep {w w' : World} {base : Nat} {e : TypeId} {size : Nat} {v : Value} {n : Nat} {xs : List Value} (h : w.ownsRow base e size v n xs) (hb : ∀ g, v.ownBlock = some g → w'.heap[g]? = w.heap[g]?) : w'.ownsRow base e size v n xs := by
  refine ⟨h.1, ?_⟩
  rcases h.2 with hn | ⟨g, cap, cur, hv, hbg, hg, rest⟩
  · exact .inl hn
  · exact .inr ⟨g, cap, cur, hv, hbg, by rw [hb g (by rw [hv]; rfl)]; exact hg, rest⟩
theorem own_cells {w : World} {base : Nat} {e : TypeId} {size : Nat} {v : Value} {n : Nat} {xs : List Value} (h : w.ownsRow base e size v n xs) {g : Nat} (hg : v.ownBlock = some g) : base ≤ g ∧ ∃ cur, w.heap[g]? = some (.cells cur e (0, 0)) := by
  rcases h.2 with ⟨rfl, _⟩ | ⟨g', cap, cur, hv, hbg, hg', _⟩
  · cases hg
  · rw [hv] at hg
    injection hg with hg
    subst hg
    exact ⟨hbg, cur, hg'⟩
/-- A block of cells of one type is not the row of another. -/
theorem own_ne {w : World} {base : Nat} {e : TypeId} {size : Nat} {v : Value} {n : Nat} {xs : List Value} (h : w.ownsRow base e size v n xs) {g : Nat} {t : TypeId} {cs : Array Value} (ha : At w g t cs) (ht : t ≠ e) : some g ≠ v.ownBlock := by
  intro hg
  obtain ⟨_, cur, hc⟩ := own_cells h hg.symm
  rw [show w.heap[g]? = some (.cells cs t (0, 0)) from ha] at hc
  injection hc with hc
  injection hc with _ hc
  exact ht hc

theorem ko_below {A B C : World} (h : KeepsOthers A B) (hb : Below B.heap.size B C) : KeepsOthers A C :=
  h.trans (KeepsOthers.of_grownBy (row := none) (grown_ofBelow hb) (fun _ _ h _ => by cases h))
theorem ko_own {A B C : World} {base : Nat} {e : TypeId} {size : Nat} {v : Value} {n : Nat} {xs : List Value} (h : KeepsOthers A B) (ho : B.ownsRow base e size v n xs) (hg : B.grownBy C v.ownBlock) : KeepsOthers A C :=
  h.trans (KeepsOthers.of_grownBy hg (fun j o hj h2 => by
    obtain ⟨_, cur, hc⟩ := own_cells ho hj
    rw [hc] at h2
    injection h2 with h2
    subst h2
    rfl))
theorem ko_at {A B C : World} {g : Nat} {t : TypeId} {cs : Array Value} (h : KeepsOthers A B) (ha : At B g t cs) (hg : B.grownBy C (some g)) : KeepsOthers A C :=
  h.trans (KeepsOthers.of_grownBy hg (fun j o hj h2 => by
    injection hj with hj
    subst hj
    rw [At] at ha
    rw [ha] at h2
    injection h2 with h2
    subst h2
    rfl))
/-- At the head of each round of Cut: the boxes of the position, of the number of sectors and of the slice; the slice's row. -/
structure CutV (w : World) (p N b6 : Nat) (v : Value) (k : Nat) (ss : List Sect) (z : World) : Prop where
  a : At z w.heap.size 3 #[.int .i64 (p : Int)]
  n : At z (w.heap.size + 1) 3 #[.int .i64 (N : Int)]
  v6 : At z b6 62 #[v]
  own : z.ownsRow (w.heap.size + 2) 68 64 v k (flat ss)
  low : Below w.heap.size w z
  lt : w.heap.size + 2 ≤ b6
  x1 : ∃ cs, At z (b6 + 1) 59 cs
  x2 : ∃ cs, At z (b6 + 2) 3 cs
section
variable {w z z' : World} {p N b6 k : Nat} {v v' : Value} {ss ss' : List Sect}
theorem CutV.call (h : CutV w p N b6 v k ss z) (hb : Below z.heap.size z z') : CutV w p N b6 v k ss z' :=
  ⟨h.a.under hb h.a.lt, h.n.under hb h.n.lt, h.v6.under hb h.v6.lt, own_under h.own hb (Nat.le_refl _), h.low.trans (hb.mono h.low.size), h.lt, h.x1.imp fun _ h => h.under hb h.lt, h.x2.imp fun _ h => h.under hb h.lt⟩
theorem CutV.alloc (h : CutV w p N b6 v k ss z) (o : Obj) : CutV w p N b6 v k ss (z.alloc o) := h.call ((Below.refl _ _).alloc (Nat.le_refl _) o)
theorem CutV.cells (h : CutV w p N b6 v k ss z) : z.cell? ⟨w.heap.size, 0, none⟩ = some (.int .i64 (p : Int)) ∧ z.cell? ⟨w.heap.size + 1, 0, none⟩ = some (.int .i64 (N : Int)) ∧ z.cell? ⟨b6, 0, none⟩ = some v := ⟨h.a.cell 0, h.n.cell 0, h.v6.cell 0⟩
/-- The row grows; the slice's box is not written yet. -/
structure CutW (w : World) (p N b6 : Nat) (v' : Value) (k : Nat) (ss : List Sect) (z : World) : Prop where
  a : At z w.heap.size 3 #[.int .i64 (p : Int)]
  n : At z (w.heap.size + 1) 3 #[.int .i64 (N : Int)]
  v6 : ∃ v, At z b6 62 #[v]
  own : z.ownsRow (w.heap.size + 2) 68 64 v' k (flat ss)
  low : Below w.heap.size w z
  lt : w.heap.size + 2 ≤ b6
  x1 : ∃ cs, At z (b6 + 1) 59 cs
  x2 : ∃ cs, At z (b6 + 2) 3 cs
theorem CutV.grow (h : CutV w p N b6 v k ss z) {k' : Nat} (ho : z'.ownsRow (w.heap.size + 2) 68 64 v' k' (flat ss')) (hg : z.grownBy z' v.ownBlock) : CutW w p N b6 v' k' ss' z' :=
  ⟨h.a.grown hg (own_ne h.own h.a (by decide)), h.n.grown hg (own_ne h.own h.n (by decide)), ⟨v, h.v6.grown hg (own_ne h.own h.v6 (by decide))⟩, ho, h.low.grown hg h.low.size (fun g hg => by have := (own_cells h.own hg).1; omega), h.lt, h.x1.imp fun _ hx => hx.grown hg (own_ne h.own hx (by decide)), h.x2.imp fun _ hx => hx.grown hg (own_ne h.own hx (by decide))⟩
theorem CutV.kp (h : CutV w p N b6 v k ss z) (hg : z.grownBy z' v.ownBlock) : KpB (b6 + 1) (b6 + 2) z z' := by
  obtain ⟨c1, h1⟩ := h.x1
  obtain ⟨c2, h2⟩ := h.x2
  exact ⟨hg.block _ h1.lt (own_ne h.own h1 (by decide)), hg.block _ h2.lt (own_ne h.own h2 (by decide))⟩
theorem CutV.kpB (h : CutV w p N b6 v k ss z) (hb : Below z.heap.size z z') : KpB (b6 + 1) (b6 + 2) z z' := by
  obtain ⟨c1, h1⟩ := h.x1
  obtain ⟨c2, h2⟩ := h.x2
  exact ⟨hb.block _ h1.lt, hb.block _ h2.lt⟩
theorem CutW.put (h : CutW w p N b6 v' k ss z) (hb : At z' b6 62 #[v']) (hg : z.grownBy z' (some b6)) : CutV w p N b6 v' k ss z' := by
  have hl := h.lt
  obtain ⟨v, h6⟩ := h.v6
  refine ⟨h.a.grown hg (by intro e; injection e with e; omega), h.n.grown hg (by intro e; injection e with e; omega), hb, own_keep h.own fun g hgv => hg.block g ?_ ?_, h.low.grown hg h.low.size (fun g hg => by injection hg with hg; omega), h.lt, h.x1.imp fun _ hx => hx.grown hg (by intro e; injection e with e; omega), h.x2.imp fun _ hx => hx.grown hg (by intro e; injection e with e; omega)⟩
  · obtain ⟨_, cur, hc⟩ := own_cells h.own hgv
    exact (Array.getElem?_eq_some_iff.1 hc).1
  · rw [← hgv]
    exact fun e => own_ne h.own h6 (by decide) e.symm
end
def CutI (w : World) (l : List UInt8) (p N b6 : Nat) (pre : List Nat) (z : World) : Prop := ∃ v, CutV w p N b6 v pre.length (sL l p N pre) z
theorem At.row_ne {X : World} {g : Nat} {t : TypeId} {cs : Array Value} {row : Option Nat} {B : Nat} (ha : At X g t cs) (hr : ∀ r, row = some r → B ≤ r ∧ ∃ o : Obj, X.heap[r]? = some o ∧ o.isCells = false) : some g ≠ row := fun e => by
  obtain ⟨_, o, ho, hc⟩ := hr g e.symm
  rw [At] at ha
  rw [ha] at ho
  injection ho with ho
  subst ho
  cases hc
theorem cutI_own {w : World} {l : List UInt8} {p N b6 B : Nat} (hB : w.heap.size ≤ B) : OwnFrom B (CutI w l p N b6) := fun pre X Y row hs hg hr => by
  obtain ⟨v, h⟩ := hs
  refine ⟨v, h.a.grown hg (h.a.row_ne hr), h.n.grown hg (h.n.row_ne hr), h.v6.grown hg (h.v6.row_ne hr), own_keep h.own fun g hgv => ?_, h.low.grown hg h.low.size (fun k e => Nat.le_trans hB (hr k e).1), h.lt, h.x1.imp fun _ hx => hx.grown hg (hx.row_ne hr), h.x2.imp fun _ hx => hx.grown hg (hx.row_ne hr)⟩
  obtain ⟨_, cur, hc⟩ := own_cells h.own hgv
  exact hg.block g (Array.getElem?_eq_some_iff.1 hc).1 ((show At X g 68 cur from hc).row_ne hr)
set_option maxRecDepth 100000 in
set_option maxHeartbeats 4000000 in
theorem cut_any' (n c p : Nat) (A : Option Addr) (l : List UInt8) (w : World) (h : Lies w w.heap.size 1 A n (BC l)) (hn : n ≤ 10000) (hc : n ≤ c) (hp : p ≤ 1000000) :
    Calls Tryd.prog 18 #[.slice A n c, .int .i64 (p : Int)] w fun e w' => ∃ v, e = .returned v ∧ w'.ownsRow w.heap.size 68 64 v (numSec n) (flat (cutS l p)) ∧ Below w.heap.size w w' := by
  have hl : l.length = n := by have := h.len; rw [BC_length] at this; omega
  have hA : 0 < n → ∃ a, A = some a := fun h0 => by obtain ⟨a, ha, _⟩ := h.spot h0; exact ⟨a, ha⟩
  obtain ⟨i0, hi0, hz0, hz1, hz2⟩ := info_parts arr_info3
  have HH := Lib.hid h
  have HL := Lib.hid hl
  have HA := Lib.hid hA
  obtain ⟨N, hN⟩ : ∃ N, numSec n = N := ⟨_, rfl⟩
  have hNle : N ≤ 200 := by rw [← hN]; unfold numSec; omega
  clear h hl hA
  obtain ⟨W2, hW2⟩ : ∃ W2, (w.alloc (.cells #[.int .i64 (p : Int)] 3)).alloc (.cells #[.int .i64 (N : Int)] 3) = W2 := ⟨_, rfl⟩
  have hs2 : W2.heap.size = w.heap.size + 2 := by rw [← hW2]; simp
  have a2 : At W2 w.heap.size 3 #[.int .i64 (p : Int)] := by rw [← hW2]; exact (At.new w 3 #[.int .i64 (p : Int)]).alloc _
  have n2 : At W2 (w.heap.size + 1) 3 #[.int .i64 (N : Int)] := by
    rw [← hW2]
    have := At.new (w.alloc (.cells #[.int .i64 (p : Int)] 3)) 3 #[.int .i64 (N : Int)]
    rwa [show (w.alloc (.cells #[.int .i64 (p : Int)] 3)).heap.size = w.heap.size + 1 by simp] at this
  have b2 : Below w.heap.size w W2 := by rw [← hW2]; exact ((Below.refl _ w).alloc (Nat.le_refl _) _).alloc (by simp) _
  obtain ⟨W3, hmk, ho3, hg3⟩ := run_make_own (P := Tryd.prog) W2 W2.heap.size 62 68 i0 _ 64 Tryd.underlying62 hi0 hz0 hz1 .i64 .i64 N (by rw [hz2]; omega) (by simp only [maxLen]; omega) (Nat.le_refl _)
  have c5 := n2.cell 0
  have c3 := a2.cell 0
  simp only [List.getElem?_toArray, List.getElem?_cons_zero] at c5 c3
  refine (callsIn_wide (n := 3)).1 ?_
  refine callsIn_of_wp_marks Tryd.func18 rfl trivial ?_ rfl
  simp only [Tryd.ntmps18, List.size_toArray, List.length_cons, List.length_nil, Nat.reduceAdd, Nat.reduceSub, Array.replicate_succ, Array.replicate_zero, List.push_toArray, List.append_toArray, List.nil_append, List.cons_append]
  gi_wp2_with fail
  refine wcall2 ((sectors_any n _ (by omega)).mono ?_)
  rintro e w' ⟨rfl, rfl⟩
  rw [hN]
  gi_wp2_with fail
  refine wcall2 ((chunk_any A n c _).mono ?_)
  rintro e w' ⟨rfl, rfl⟩
  gi_wp2_with fail
  obtain ⟨b6, hb6⟩ : ∃ b6, b6 = W3.heap.size := ⟨_, rfl⟩
  rw [← hb6]
  obtain ⟨W, hW⟩ : ∃ W, ((W3.alloc (.cells #[.slice (some ⟨w.heap.size + 2, 0, none⟩) 0 N] 62)).alloc (.cells #[.slice A n c] 59)).alloc (.cells #[.int .i64 54] 3) = W := ⟨_, rfl⟩
  have hb63 : w.heap.size + 2 ≤ b6 := by have := hg3.size; omega
  have hsz : W.heap.size = b6 + 3 := by rw [← hW]; simp; omega
  have b3 : Below w.heap.size w W3 := b2.grown hg3 b2.size (fun k e => by cases e)
  have hBx : Box W (b6 + 1) (b6 + 2) A n c := by
    rw [← hW]
    refine ⟨At.alloc ?_ _, ?_⟩
    · have := At.new (W3.alloc (.cells #[.slice (some ⟨w.heap.size + 2, 0, none⟩) 0 N] 62)) 59 #[.slice A n c]
      rwa [World.size_alloc, ← hb6] at this
    · have := At.new ((W3.alloc (.cells #[.slice (some ⟨w.heap.size + 2, 0, none⟩) 0 N] 62)).alloc (.cells #[.slice A n c] 59)) 3 #[.int .i64 54]
      rwa [World.size_alloc, World.size_alloc, ← hb6] at this
  have hI0 : CutI w l p N b6 [] W := by
    have hb : Below W3.heap.size W3 W := by rw [← hW]; exact (((Below.refl _ W3).alloc (Nat.le_refl _) _).alloc (by simp) _).alloc (by simp; omega) _
    refine ⟨.slice (some ⟨w.heap.size + 2, 0, none⟩) 0 N, (a2.grown hg3 (by intro e; cases e)).under hb (a2.grown hg3 (by intro e; cases e)).lt, (n2.grown hg3 (by intro e; cases e)).under hb (n2.grown hg3 (by intro e; cases e)).lt, ?_, ?_, b3.trans (hb.mono b3.size), hb63, ⟨_, hBx.1⟩, ⟨_, hBx.2⟩⟩
    · rw [← hW, hb6]
      exact ((At.new W3 62 #[.slice (some ⟨w.heap.size + 2, 0, none⟩) 0 N]).alloc _).alloc _
    · have := own_under ho3 hb (Nat.le_refl _)
      rw [hs2] at this
      exact this
  rw [show b6 + 1 + 1 = b6 + 2 from rfl, hW]
  have HBX := Lib.hid hBx
  have HN := Lib.hid hN
  clear hW hmk ho3 hg3 c5 c3 a2 n2 b2 b3 hW2 hN hs2 hb6
  refine wpIn_rangeFunc_ownF rfl (by omega) (gf := 65) (lb := #[.pointer (some ⟨b6 + 1, 0, none⟩), .pointer (some ⟨b6 + 2, 0, none⟩)]) rfl trivial (enters_of Tryd.func65 (by kernel_rfl) rfl)
    (iter_stops _ (b6 + 1) (b6 + 2) A n c hn hc HA.out W hBx) kpB_t (kpB_b (by omega) (by omega)) (Below.refl _ _) (fun _ => rfl)
    (CutI w l p N b6) (fun _ _ _ => False) (cutI_own (by omega)) (fun _ _ _ _ _ hs _ _ => hs) hI0
    (fun x => { tmps := #[.slice A n c, .int .i64 (p : Int), undef, .pointer (some ⟨w.heap.size, 0, none⟩), .slice none 0 0, .pointer (some ⟨w.heap.size + 1, 0, none⟩), .pointer (some ⟨b6, 0, none⟩), chV A n x, undef, .slice A n c, .int .i64 (n : Int), .int .i64 (N : Int), .int .i64 (N : Int), .slice (some ⟨w.heap.size + 2, 0, none⟩) 0 N, .slice A n c, .func (.func 65) #[] #[.pointer (some ⟨b6 + 1, 0, none⟩), .pointer (some ⟨b6 + 2, 0, none⟩)], chV A n x, undef, undef, undef, undef, undef, undef, undef, undef, undef, undef, undef, undef, undef, undef, undef, undef, undef, undef, undef, undef], defers := [] })
    ?assign ?body ?done ?stop
  case assign =>
    intro l x W K hK
    gi_wp2
    simpa using hK
  case body =>
    rintro L pre x W' hI hlt
    obtain ⟨v, hV⟩ := hI
    obtain ⟨kk, hkk⟩ : ∃ kk, pre.length = kk := ⟨_, rfl⟩
    rw [hkk] at hV hlt
    rw [HN.out] at hlt
    have HV := Lib.hid hV
    obtain ⟨Av, cv, rfl, hcv, hcm⟩ := own_slice hV.own
    have q6 := hV.cells.2.2
    obtain ⟨bf, hbf⟩ : ∃ bf : Bool, bf = (pre.length == 0) := ⟨_, rfl⟩
    obtain ⟨bl, hbl⟩ : ∃ bl : Bool, bl = (pre.length + 1 == N) := ⟨_, rfl⟩
    have tf : ((kk : Int) == 0) = bf := by rw [hbf, hkk, Bool.eq_iff_iff]; simp
    have tl : ((kk : Int) == (N : Int) - 1) = bl := by rw [hbl, hkk, Bool.eq_iff_iff]; simp; omega
    obtain ⟨m, hm⟩ : ∃ m, m = p + kk + 1 := ⟨_, rfl⟩
    have u1 : IntKind.u64.wrap (p : Int) = (p : Int) := by rw [IntKind.wrap_u64]; omega
    have u2 : IntKind.u64.wrap (kk : Int) = (kk : Int) := by rw [IntKind.wrap_u64]; omega
    have u3 : IntKind.u64.wrap ((p : Int) + (kk : Int)) = (p : Int) + (kk : Int) := by rw [IntKind.wrap_u64]; omega
    have u4 : IntKind.u64.wrap ((p : Int) + (kk : Int) + 1) = (m : Int) := by rw [IntKind.wrap_u64, hm]; omega
    have u5 : (p : Int) + (kk : Int) + 1 = (m : Int) := by rw [hm]; omega
    have hml : m < 18446744073709551616 := by omega
    have u6 : IntKind.u64.wrap (m : Int) = (m : Int) := by rw [IntKind.wrap_u64]; omega
    have u7 : IntKind.i64.wrap ((N : Int) - 1) = (N : Int) - 1 := by rw [IntKind.wrap_i64]; omega
    have SN : Hid (sL l p N (pre ++ [x]) = sL l p N pre ++ [secOf (share l x) m bf bl]) := by
      show _ = _
      rw [sL_snoc, hm, ← hkk, hbf, hbl]
    have HKK := Lib.hid hkk
    obtain ⟨mc, hmc⟩ : ∃ mc, min 54 (n - 54 * x) = mc := ⟨_, rfl⟩
    obtain ⟨Ac, hAc⟩ : ∃ Ac, A.map (·.add (54 * x)) = Ac := ⟨_, rfl⟩
    have hmc54 : mc ≤ 54 := by omega
    have LS : Hid (∀ z : World, Below w.heap.size w z → Lies z w.heap.size 1 Ac mc (BC (share l x))) := fun z hz => by rw [← hmc, ← hAc]; exact chV_lies (HH.out.under hz)
    have hch : chV A n x = .slice Ac mc mc := by rw [chV, hmc, hAc]
    rw [hch]
    clear hV hkk hbf hbl hm hmc hAc hch
    gi_wp2_with fail
    have HZ := Lib.hid (HV.out.call (Below.refl _ W').drew)
    clear q6
    refine region_round (S := fun z => At z w.heap.size 3 #[.int .i64 (p : Int)] ∧ At z (w.heap.size + 1) 3 #[.int .i64 (N : Int)]) (by kernel_rfl) (by kernel_rfl) ⟨HZ.out.a, HZ.out.n⟩ (fun hS => ?_)
    have KP0 : Hid (KpB (b6 + 1) (b6 + 2) W' W'.drew) := HV.out.kpB (Below.refl _ W').drew
    have KO0 : Hid (KeepsOthers W' W'.drew) := KeepsOthers.drew _
    generalize W'.drew = z0 at *
    refine takeH (i := 1) (d := 20) (v := ?vc1) rfl (by kernel_rfl) (by kernel_rfl) (by kernel_rfl) (fun _ _ _ h => h) rfl (by rfl) ?yc1 hS ?rc1
    case yc1 => (intro wz hz; have e3 := hz.1.cell 0; have e5 := hz.2.cell 0; go_simp <;> with_reducible rfl)
    simp only [List.setIfInBounds_toArray, List.set_cons_zero, List.set_cons_succ]
    refine takeH (i := 2) (d := 21) (v := ?vc2) rfl (by kernel_rfl) (by kernel_rfl) (by kernel_rfl) (fun _ _ _ h => h) rfl (by rfl) ?yc2 hS ?rc2
    case yc2 => (intro wz hz; have e3 := hz.1.cell 0; have e5 := hz.2.cell 0; go_simp <;> with_reducible rfl)
    simp only [List.setIfInBounds_toArray, List.set_cons_zero, List.set_cons_succ]
    refine takeH (i := 3) (d := 22) (v := ?vc3) rfl (by kernel_rfl) (by kernel_rfl) (by kernel_rfl) (fun _ _ _ h => h) rfl (by rfl) ?yc3 hS ?rc3
    case yc3 => (intro wz hz; have e3 := hz.1.cell 0; have e5 := hz.2.cell 0; go_simp <;> with_reducible rfl)
    simp only [List.setIfInBounds_toArray, List.set_cons_zero, List.set_cons_succ]
    refine takeH (i := 4) (d := 23) (v := ?vc4) rfl (by kernel_rfl) (by kernel_rfl) (by kernel_rfl) (fun _ _ _ h => h) rfl (by rfl) ?yc4 hS ?rc4
    case yc4 => (intro wz hz; have e3 := hz.1.cell 0; have e5 := hz.2.cell 0; go_simp <;> with_reducible rfl)
    simp only [List.setIfInBounds_toArray, List.set_cons_zero, List.set_cons_succ]
    refine takeH (i := 5) (d := 24) (v := ?vc5) rfl (by kernel_rfl) (by kernel_rfl) (by kernel_rfl) (fun _ _ _ h => h) rfl (by rfl) ?yc5 hS ?rc5
    case yc5 => (intro wz hz; have e3 := hz.1.cell 0; have e5 := hz.2.cell 0; go_simp <;> with_reducible rfl)
    simp only [List.setIfInBounds_toArray, List.set_cons_zero, List.set_cons_succ]
    refine takeH (i := 6) (d := 25) (v := ?vc6) rfl (by kernel_rfl) (by kernel_rfl) (by kernel_rfl) (fun _ _ _ h => h) rfl (by rfl) ?yc6 hS ?rc6
    case yc6 => (intro wz hz; have e3 := hz.1.cell 0; have e5 := hz.2.cell 0; go_simp <;> with_reducible rfl)
    simp only [List.setIfInBounds_toArray, List.set_cons_zero, List.set_cons_succ]
    refine takeH (i := 7) (d := 26) (v := ?vc7) rfl (by kernel_rfl) (by kernel_rfl) (by kernel_rfl) (fun _ _ _ h => h) rfl (by rfl) ?yc7 hS ?rc7
    case yc7 => (intro wz hz; have e3 := hz.1.cell 0; have e5 := hz.2.cell 0; go_simp <;> with_reducible rfl)
    simp only [List.setIfInBounds_toArray, List.set_cons_zero, List.set_cons_succ]
    refine takeH (i := 8) (d := 27) (v := ?vc8) rfl (by kernel_rfl) (by kernel_rfl) (by kernel_rfl) (fun _ _ _ h => h) rfl (by rfl) ?yc8 hS ?rc8
    case yc8 => (intro wz hz; have e3 := hz.1.cell 0; have e5 := hz.2.cell 0; go_simp <;> with_reducible rfl)
    simp only [List.setIfInBounds_toArray, List.set_cons_zero, List.set_cons_succ]
    refine takeH (i := 9) (d := 28) (v := ?vc9) rfl (by kernel_rfl) (by kernel_rfl) (by kernel_rfl) (fun _ _ _ h => h) rfl (by rfl) ?yc9 hS ?rc9
    case yc9 => (intro wz hz; have e3 := hz.1.cell 0; have e5 := hz.2.cell 0; go_simp <;> with_reducible rfl)
    simp only [List.setIfInBounds_toArray, List.set_cons_zero, List.set_cons_succ]
    refine takeH (i := 10) (d := 29) (v := ?vc10) rfl (by kernel_rfl) (by kernel_rfl) (by kernel_rfl) (fun _ _ _ h => h) rfl (by rfl) ?yc10 hS ?rc10
    case yc10 => (intro wz hz; have e3 := hz.1.cell 0; have e5 := hz.2.cell 0; go_simp <;> with_reducible rfl)
    simp only [List.setIfInBounds_toArray, List.set_cons_zero, List.set_cons_succ]
    refine takeH (i := 11) (d := 30) (v := ?vc11) rfl (by kernel_rfl) (by kernel_rfl) (by kernel_rfl) (fun _ _ _ h => h) rfl (by rfl) ?yc11 hS ?rc11
    case yc11 => (intro wz hz; have e3 := hz.1.cell 0; have e5 := hz.2.cell 0; go_simp <;> with_reducible rfl)
    simp only [List.setIfInBounds_toArray, List.set_cons_zero, List.set_cons_succ]
    refine takeH (i := 12) (d := 31) (v := ?vc12) rfl (by kernel_rfl) (by kernel_rfl) (by kernel_rfl) (fun _ _ _ h => h) rfl (by rfl) ?yc12 hS ?rc12
    case yc12 => (intro wz hz; have e3 := hz.1.cell 0; have e5 := hz.2.cell 0; go_simp <;> with_reducible rfl)
    simp only [List.setIfInBounds_toArray, List.set_cons_zero, List.set_cons_succ]
    refine takeH (i := 13) (d := 32) (v := ?vc13) rfl (by kernel_rfl) (by kernel_rfl) (by kernel_rfl) (fun _ _ _ h => h) rfl (by rfl) ?yc13 hS ?rc13
    case yc13 => (intro wz hz; have e3 := hz.1.cell 0; have e5 := hz.2.cell 0; go_simp <;> with_reducible rfl)
    simp only [List.setIfInBounds_toArray, List.set_cons_zero, List.set_cons_succ]
    refine wpAnyH_ready (rs := [0, 14]) (by kernel_rfl) (by simp) ?_
    refine AllReadyH.cons rfl (fun K hK => ?_) (AllReadyH.cons rfl (fun K hK => ?_) AllReadyH.nil)
    · have q6 := (HZ.out.cells).2.2
      go_simp
      refine hK.out _ _ ⟨HZ.out.a, HZ.out.n⟩ (fun hT => ?_)
      clear hK
      clear hT
      clear q6
      refine wpAnyH_ready (rs := [14]) (by kernel_rfl) (by simp) ?_
      refine AllReadyH.cons rfl (fun K hK => ?_) AllReadyH.nil
      go_simp
      refine (sectorOf_any bf bl w.heap.size mc mc m Ac (share l x) _ (LS.out _ HZ.out.low) HZ.out.low.size hmc54 hml).mono ?_
      rintro e z1 ⟨rfl, hb⟩
      have HZ1 := Lib.hid (HZ.out.call hb)
      have KP1 : Hid (KpB (b6 + 1) (b6 + 2) W' z1) := kpB_t KP0.out (HZ.out.kpB hb)
      have KO1 := Lib.hid (ko_below KO0.out hb)
      clear hb
      refine hK.out _ _ ⟨HZ1.out.a, HZ1.out.n⟩ (fun hT => ?_)
      clear hK
      clear hT
      refine wpAnyH_ready (rs := [15]) (by kernel_rfl) (by simp) ?_
      refine AllReadyH.cons rfl (fun K hK => ?_) AllReadyH.nil
      rw [if_pos (by rfl)]
      refine wp_lit1 34 (.tmp 33) 62 68 64 _ (secA (secOf (share l x) m bf bl)) rfl rfl rfl Tryd.underlying62 pl_arr_info (by omega) (by omega) (secA_size _) ?_
      have HZ2 := Lib.hid (HZ1.out.alloc (.cells (secA (secOf (share l x) m bf bl)) 68))
      have LN := Lib.hid (lies_newC z1 (sec (secOf (share l x) m bf bl)) 68 64 (sec_length _))
      have hbA : Below z1.heap.size z1 (z1.alloc (.cells (secA (secOf (share l x) m bf bl)) 68)) := (Below.refl _ _).alloc (Nat.le_refl _) _
      have KP2 : Hid (KpB (b6 + 1) (b6 + 2) W' (z1.alloc (.cells (secA (secOf (share l x) m bf bl)) 68))) := kpB_t KP1.out (HZ1.out.kpB hbA)
      have KO2 := Lib.hid (ko_below KO1.out hbA)
      clear hbA
      refine hK.out _ _ ⟨HZ2.out.a, HZ2.out.n⟩ (fun hT => ?_)
      clear hK
      clear hT
      refine wpAnyH_ready (rs := [16]) (by kernel_rfl) (by simp) ?_
      refine AllReadyH.cons rfl (fun K hK => ?_) AllReadyH.nil
      rw [if_pos (by rfl)]
      obtain ⟨v2, z3, hrun, ho3, hg3, _⟩ := run_append_lies2 (P := Tryd.prog) (z1.alloc (.cells (secA (secOf (share l x) m bf bl)) 68)) (w.heap.size + 2) 62 62 68 i0 _ 64 64 Tryd.underlying62 hi0 hz0 hz1 hz2 (secA_size zsec) (by omega) _ _ _ HZ2.out.own _ _ 1 1 _ LN.out (sec_one _) (by omega) (by simp only [maxLen]; omega) (by omega) (by have := HZ2.out.lt; have := HZ2.out.v6.lt; omega)
      refine wp_app 35 (.tmp 19) (.tmp 34) 62 rfl rfl _ _ rfl rfl _ _ hrun ?_
      rw [← flat_single, ← flat_append, ← SN.out] at ho3
      have HW3 := Lib.hid (HZ2.out.grow ho3 hg3)
      have KP3 : Hid (KpB (b6 + 1) (b6 + 2) W' z3) := kpB_t KP2.out (HZ2.out.kp hg3)
      have KO3 := Lib.hid (ko_own KO2.out HZ2.out.own hg3)
      clear hrun ho3 hg3
      refine hK.out _ _ ⟨HW3.out.a, HW3.out.n⟩ (fun hT => ?_)
      clear hK
      clear hT
      refine wpAnyH_ready (rs := [17]) (by kernel_rfl) (by simp) ?_
      refine AllReadyH.cons rfl (fun K hK => ?_) AllReadyH.nil
      rw [if_pos (by rfl)]
      obtain ⟨v6, hv6⟩ := HW3.out.v6
      refine wp_store_cell 62 (.tmp 6) (.tmp 35) rfl rfl b6 0 rfl v2 rfl (by obtain ⟨_, _, rfl, _⟩ := own_slice HW3.out.own; rfl) (by kernel_rfl) #[v6] 62 (by simp) hv6 ?_
      intro z4 h4 g4
      have HV4 := Lib.hid (HW3.out.put h4 g4)
      have KP4 : Hid (KpB (b6 + 1) (b6 + 2) W' z4) := kpB_t KP3.out ⟨g4.block _ (by obtain ⟨c, hx⟩ := HW3.out.x1; exact hx.lt) (by intro e; injection e with e; omega), g4.block _ (by obtain ⟨c, hx⟩ := HW3.out.x2; exact hx.lt) (by intro e; injection e with e; omega)⟩
      have KO4 := Lib.hid (ko_at KO3.out hv6 g4)
      clear h4 g4
      refine hK.out _ _ ⟨HV4.out.a, HV4.out.n⟩ (fun hT => ?_)
      clear hK
      clear hT
      refine wpAnyH_done (by kernel_rfl) ?_ _
      refine only_done ?_
      gi_wp2_with fail
      refine ⟨KO4.out, KP4.out, ?_⟩
      exact ⟨v2, by rw [List.length_append, HKK.out]; exact HV4.out⟩
    · go_simp
      refine (sectorOf_any bf bl w.heap.size mc mc m Ac (share l x) _ (LS.out _ HZ.out.low) HZ.out.low.size hmc54 hml).mono ?_
      rintro e z1 ⟨rfl, hb⟩
      have HZ1 := Lib.hid (HZ.out.call hb)
      have KP1 : Hid (KpB (b6 + 1) (b6 + 2) W' z1) := kpB_t KP0.out (HZ.out.kpB hb)
      have KO1 := Lib.hid (ko_below KO0.out hb)
      clear hb
      refine hK.out _ _ ⟨HZ1.out.a, HZ1.out.n⟩ (fun hT => ?_)
      clear hK
      clear hT
      refine wpAnyH_ready (rs := [0, 15]) (by kernel_rfl) (by simp) ?_
      refine AllReadyH.cons rfl (fun K hK => ?_) (AllReadyH.cons rfl (fun K hK => ?_) AllReadyH.nil)
      · have q6 := (HZ1.out.cells).2.2
        go_simp
        refine hK.out _ _ ⟨HZ1.out.a, HZ1.out.n⟩ (fun hT => ?_)
        clear hK
        clear hT
        clear q6
        refine wpAnyH_ready (rs := [15]) (by kernel_rfl) (by simp) ?_
        refine AllReadyH.cons rfl (fun K hK => ?_) AllReadyH.nil
        rw [if_pos (by rfl)]
        refine wp_lit1 34 (.tmp 33) 62 68 64 _ (secA (secOf (share l x) m bf bl)) rfl rfl rfl Tryd.underlying62 pl_arr_info (by omega) (by omega) (secA_size _) ?_
        have HZ2 := Lib.hid (HZ1.out.alloc (.cells (secA (secOf (share l x) m bf bl)) 68))
        have LN := Lib.hid (lies_newC z1 (sec (secOf (share l x) m bf bl)) 68 64 (sec_length _))
        have hbA : Below z1.heap.size z1 (z1.alloc (.cells (secA (secOf (share l x) m bf bl)) 68)) := (Below.refl _ _).alloc (Nat.le_refl _) _
        have KP2 : Hid (KpB (b6 + 1) (b6 + 2) W' (z1.alloc (.cells (secA (secOf (share l x) m bf bl)) 68))) := kpB_t KP1.out (HZ1.out.kpB hbA)
        have KO2 := Lib.hid (ko_below KO1.out hbA)
        clear hbA
        refine hK.out _ _ ⟨HZ2.out.a, HZ2.out.n⟩ (fun hT => ?_)
        clear hK
        clear hT
        refine wpAnyH_ready (rs := [16]) (by kernel_rfl) (by simp) ?_
        refine AllReadyH.cons rfl (fun K hK => ?_) AllReadyH.nil
        rw [if_pos (by rfl)]
        obtain ⟨v2, z3, hrun, ho3, hg3, _⟩ := run_append_lies2 (P := Tryd.prog) (z1.alloc (.cells (secA (secOf (share l x) m bf bl)) 68)) (w.heap.size + 2) 62 62 68 i0 _ 64 64 Tryd.underlying62 hi0 hz0 hz1 hz2 (secA_size zsec) (by omega) _ _ _ HZ2.out.own _ _ 1 1 _ LN.out (sec_one _) (by omega) (by simp only [maxLen]; omega) (by omega) (by have := HZ2.out.lt; have := HZ2.out.v6.lt; omega)
        refine wp_app 35 (.tmp 19) (.tmp 34) 62 rfl rfl _ _ rfl rfl _ _ hrun ?_
        rw [← flat_single, ← flat_append, ← SN.out] at ho3
        have HW3 := Lib.hid (HZ2.out.grow ho3 hg3)
        have KP3 : Hid (KpB (b6 + 1) (b6 + 2) W' z3) := kpB_t KP2.out (HZ2.out.kp hg3)
        have KO3 := Lib.hid (ko_own KO2.out HZ2.out.own hg3)
        clear hrun ho3 hg3
        refine hK.out _ _ ⟨HW3.out.a, HW3.out.n⟩ (fun hT => ?_)
        clear hK
        clear hT
        refine wpAnyH_ready (rs := [17]) (by kernel_rfl) (by simp) ?_
        refine AllReadyH.cons rfl (fun K hK => ?_) AllReadyH.nil
        rw [if_pos (by rfl)]
        obtain ⟨v6, hv6⟩ := HW3.out.v6
        refine wp_store_cell 62 (.tmp 6) (.tmp 35) rfl rfl b6 0 rfl v2 rfl (by obtain ⟨_, _, rfl, _⟩ := own_slice HW3.out.own; rfl) (by kernel_rfl) #[v6] 62 (by simp) hv6 ?_
        intro z4 h4 g4
        have HV4 := Lib.hid (HW3.out.put h4 g4)
        have KP4 : Hid (KpB (b6 + 1) (b6 + 2) W' z4) := kpB_t KP3.out ⟨g4.block _ (by obtain ⟨c, hx⟩ := HW3.out.x1; exact hx.lt) (by intro e; injection e with e; omega), g4.block _ (by obtain ⟨c, hx⟩ := HW3.out.x2; exact hx.lt) (by intro e; injection e with e; omega)⟩
        have KO4 := Lib.hid (ko_at KO3.out hv6 g4)
        clear h4 g4
        refine hK.out _ _ ⟨HV4.out.a, HV4.out.n⟩ (fun hT => ?_)
        clear hK
        clear hT
        refine wpAnyH_done (by kernel_rfl) ?_ _
        refine only_done ?_
        gi_wp2_with fail
        refine ⟨KO4.out, KP4.out, ?_⟩
        exact ⟨v2, by rw [List.length_append, HKK.out]; exact HV4.out⟩
      · rw [if_pos (by rfl)]
        refine wp_lit1 34 (.tmp 33) 62 68 64 _ (secA (secOf (share l x) m bf bl)) rfl rfl rfl Tryd.underlying62 pl_arr_info (by omega) (by omega) (secA_size _) ?_
        have HZ2 := Lib.hid (HZ1.out.alloc (.cells (secA (secOf (share l x) m bf bl)) 68))
        have LN := Lib.hid (lies_newC z1 (sec (secOf (share l x) m bf bl)) 68 64 (sec_length _))
        have hbA : Below z1.heap.size z1 (z1.alloc (.cells (secA (secOf (share l x) m bf bl)) 68)) := (Below.refl _ _).alloc (Nat.le_refl _) _
        have KP2 : Hid (KpB (b6 + 1) (b6 + 2) W' (z1.alloc (.cells (secA (secOf (share l x) m bf bl)) 68))) := kpB_t KP1.out (HZ1.out.kpB hbA)
        have KO2 := Lib.hid (ko_below KO1.out hbA)
        clear hbA
        refine hK.out _ _ ⟨HZ2.out.a, HZ2.out.n⟩ (fun hT => ?_)
        clear hK
        clear hT
        refine wpAnyH_ready (rs := [0]) (by kernel_rfl) (by simp) ?_
        refine AllReadyH.cons rfl (fun K hK => ?_) AllReadyH.nil
        have q6 := (HZ2.out.cells).2.2
        go_simp
        refine hK.out _ _ ⟨HZ2.out.a, HZ2.out.n⟩ (fun hT => ?_)
        clear hK
        clear hT
        clear q6
        refine wpAnyH_ready (rs := [16]) (by kernel_rfl) (by simp) ?_
        refine AllReadyH.cons rfl (fun K hK => ?_) AllReadyH.nil
        rw [if_pos (by rfl)]
        obtain ⟨v2, z3, hrun, ho3, hg3, _⟩ := run_append_lies2 (P := Tryd.prog) (z1.alloc (.cells (secA (secOf (share l x) m bf bl)) 68)) (w.heap.size + 2) 62 62 68 i0 _ 64 64 Tryd.underlying62 hi0 hz0 hz1 hz2 (secA_size zsec) (by omega) _ _ _ HZ2.out.own _ _ 1 1 _ LN.out (sec_one _) (by omega) (by simp only [maxLen]; omega) (by omega) (by have := HZ2.out.lt; have := HZ2.out.v6.lt; omega)
        refine wp_app 35 (.tmp 19) (.tmp 34) 62 rfl rfl _ _ rfl rfl _ _ hrun ?_
        rw [← flat_single, ← flat_append, ← SN.out] at ho3
        have HW3 := Lib.hid (HZ2.out.grow ho3 hg3)
        have KP3 : Hid (KpB (b6 + 1) (b6 + 2) W' z3) := kpB_t KP2.out (HZ2.out.kp hg3)
        have KO3 := Lib.hid (ko_own KO2.out HZ2.out.own hg3)
        clear hrun ho3 hg3
        refine hK.out _ _ ⟨HW3.out.a, HW3.out.n⟩ (fun hT => ?_)
        clear hK
        clear hT
        refine wpAnyH_ready (rs := [17]) (by kernel_rfl) (by simp) ?_
        refine AllReadyH.cons rfl (fun K hK => ?_) AllReadyH.nil
        rw [if_pos (by rfl)]
        obtain ⟨v6, hv6⟩ := HW3.out.v6
        refine wp_store_cell 62 (.tmp 6) (.tmp 35) rfl rfl b6 0 rfl v2 rfl (by obtain ⟨_, _, rfl, _⟩ := own_slice HW3.out.own; rfl) (by kernel_rfl) #[v6] 62 (by simp) hv6 ?_
        intro z4 h4 g4
        have HV4 := Lib.hid (HW3.out.put h4 g4)
        have KP4 : Hid (KpB (b6 + 1) (b6 + 2) W' z4) := kpB_t KP3.out ⟨g4.block _ (by obtain ⟨c, hx⟩ := HW3.out.x1; exact hx.lt) (by intro e; injection e with e; omega), g4.block _ (by obtain ⟨c, hx⟩ := HW3.out.x2; exact hx.lt) (by intro e; injection e with e; omega)⟩
        have KO4 := Lib.hid (ko_at KO3.out hv6 g4)
        clear h4 g4
        refine hK.out _ _ ⟨HV4.out.a, HV4.out.n⟩ (fun hT => ?_)
        clear hK
        clear hT
        refine wpAnyH_done (by kernel_rfl) ?_ _
        refine only_done ?_
        gi_wp2_with fail
        refine ⟨KO4.out, KP4.out, ?_⟩
        exact ⟨v2, by rw [List.length_append, HKK.out]; exact HV4.out⟩
  case done =>
    rintro D ys W' hD rfl ⟨v, hV⟩ hK
    have HV := Lib.hid hV
    have q6 := hV.cells.2.2
    have FIN : Hid (W'.ownsRow (w.heap.size + 2) 68 64 v (numSec n) (flat (cutS l p))) := by
      show World.ownsRow _ _ _ _ _ _ _
      have h1 := HV.out.own
      rw [List.length_range] at h1
      have e := sL_all l p
      rw [HL.out, HN.out] at e
      rw [HN.out] at h1 ⊢
      rwa [e] at h1
    clear hV
    gi_wp2
    refine ⟨by simp, .inl ⟨_, _, rfl, run_takeDeferred hK, ?_⟩⟩
    refine ⟨_, results_tmp rfl _ _ _, v, rfl, ?_, HV.out.low.trans (belowK_b (w := w) (Nat.le_refl _) W' D _ _ (by omega) hK rfl rfl)⟩
    refine own_keep (own_base FIN.out (by omega)) fun g hg => ?_
    refine World.putObj_heap_other ?_
    rintro rfl
    obtain ⟨_, cur, hc⟩ := own_cells FIN.out hg
    rw [hc] at hK
    cases hK
  case stop =>
    rintro D c pre W' _ _ h _
    exact h.elim

/-- wal.Cut makes the sectors, in a row of their own. -/
def RetS' (w : World) (l : List Sect) (e : Ending) (w' : World) : Prop :=
  ∃ A c, e = .returned (.slice A l.length c) ∧ w'.ownsRow w.heap.size 68 64 (.slice A l.length c) l.length (flat l) ∧ Below w.heap.size w w'
theorem cut_any9 (n c p : Nat) (A : Option Addr) (l : List UInt8) (w : World) (h : Lies w w.heap.size 1 A n (BC l)) (hn : n ≤ 10000) (hc : n ≤ c) (hp : p ≤ 1000000) :
    Calls Tryd.prog 18 #[.slice A n c, .int .i64 (p : Int)] w (RetS' w (cutS l p)) := by
  have hl : l.length = n := by have := h.len; rw [BC_length] at this; omega
  refine (cut_any' n c p A l w h hn hc hp).mono ?_
  rintro e w' ⟨v, rfl, ho, hb⟩
  have hlen : (cutS l p).length = numSec n := by rw [cutS_length, hl]
  rw [← hlen] at ho
  obtain ⟨A', c', rfl, _⟩ := own_slice ho
  exact ⟨A', c', rfl, ho, hb⟩
end Go.Proofs.YthicidpdgggbjaaDoor
