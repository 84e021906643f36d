/-
  What the boxes of the law RectTiles hold at its start and between two rounds of its loop.
  Conditions: none beyond those that each theorem names.
-/
import Derived.Test.YtiapllplhjhliaaTMath
import Derived.Test.YtiapllplhjhliaaWhole
import Derived.Sort.CutIn
namespace Go.Proofs.Ytiapllplhjhliaa
open Go.RowKit Go.Shelf
attribute [local go_sem] Oper.semAt_some

theorem refTile_is {x y k : Int} (h : tileI x y = k) (h0 : 0 ≤ x) (h1 : x < 4294967296) (h2 : 0 ≤ y) (h3 : y < 4294967296) (w : World) :
    Calls Try.prog 16 #[.int .u32 x, .int .u32 y] w fun e w' => e = .returned (.int .i64 k) ∧ Below w.heap.size w w' := by
  subst h; exact (refTile_any x y w h0 h1 h2 h3).mono fun e w' ⟨h, hw⟩ => ⟨h, hw ▸ Below.refl _ _⟩
theorem tile_pure {x y k : Int} (h : tileI x y = k) (h0 : 0 ≤ x) (h1 : x < 4294967296) (h2 : 0 ≤ y) (h3 : y < 4294967296) (w : World) :
    Calls Try.prog 15 #[.int .u32 x, .int .u32 y] w fun e w' => e = .returned (.int .i64 k) ∧ w = w' := by
  subst h; exact tile_any x y w h0 h1 h2 h3
theorem Boxed.call {W W' : World} {B : Nat} {t : TypeId} {v : Value} (h : Boxed W B t v) (hb : Below W.heap.size W W') : Boxed W' B t v := (hb.block B h.lt).trans h
/-- The rectangle, the result and the number of the point's tile lie in the first three boxes of the call. -/
structure St (w W : World) (r0 r1 r2 r3 k : Int) : Prop where
  r : Box4 W w.heap.size r0 r1 r2 r3
  res : Boxed W (w.heap.size + 1) 4 (.bool false)
  k : Boxed W (w.heap.size + 1 + 1) 3 (.int .i64 k)
  old : Below w.heap.size w W
section
variable {w W W' : World} {r0 r1 r2 r3 k : Int}
theorem St.call (h : St w W r0 r1 r2 r3 k) (hb : Below W.heap.size W W') : St w W' r0 r1 r2 r3 k := ⟨h.r.call hb, Boxed.call h.res hb, Boxed.call h.k hb, chain h.old hb (Nat.le_refl _)⟩
theorem St.alloc (h : St w W r0 r1 r2 r3 k) (o : Obj) : St w (W.alloc o) r0 r1 r2 r3 k := ⟨h.r.alloc o, h.res.alloc o, h.k.alloc o, h.old.alloc h.old.size o⟩
theorem St.drew (h : St w W r0 r1 r2 r3 k) : St w W.drew r0 r1 r2 r3 k := ⟨h.r, h.res, h.k, h.old.drew⟩
theorem St.start : St w (((w.alloc (.cells #[.int .u32 r0, .int .u32 r1, .int .u32 r2, .int .u32 r3] 24)).alloc (.cells #[.bool false] 4)).alloc (.cells #[.int .i64 k] 3)) r0 r1 r2 r3 k := by
  refine ⟨((Box4.new w r0 r1 r2 r3).alloc _).alloc _, ?_, ?_, (((Below.refl w.heap.size w).alloc (Nat.le_refl _) _).alloc (by simp) _).alloc (by simp; omega) _⟩
  · have := (Boxed.new (w.alloc (.cells #[.int .u32 r0, .int .u32 r1, .int .u32 r2, .int .u32 r3] 24)) 4 (.bool false)).alloc (.cells #[.int .i64 k] 3)
    rwa [World.size_alloc] at this
  · have := Boxed.new ((w.alloc (.cells #[.int .u32 r0, .int .u32 r1, .int .u32 r2, .int .u32 r3] 24)).alloc (.cells #[.bool false] 4)) 3 (.int .i64 k)
    rwa [World.size_alloc, World.size_alloc] at this
theorem St.cells (h : St w W r0 r1 r2 r3 k) :
    W.cell? ⟨w.heap.size, 0, none⟩ = some (.int .u32 r0) ∧ W.cell? ⟨w.heap.size, 1, none⟩ = some (.int .u32 r1) ∧ W.cell? ⟨w.heap.size, 2, none⟩ = some (.int .u32 r2) ∧ W.cell? ⟨w.heap.size, 3, none⟩ = some (.int .u32 r3) ∧
    W.cell? ⟨w.heap.size + 1, 0, none⟩ = some (.bool false) ∧ W.frozen? ⟨w.heap.size + 1, 0, none⟩ = false ∧ W.cell? ⟨w.heap.size + 1 + 1, 0, none⟩ = some (.int .i64 k) := by
  obtain ⟨p0, p1, p2, p3⟩ := h.r.cells
  exact ⟨p0, p1, p2, p3, h.res.cell, h.res.frozen, h.k.cell⟩
end

/-- Is the number among those? -/
def memB (k : Int) (l : List Nat) : Bool := l.any fun j => decide ((j : Int) = k)
/-- Between two rounds of the law's loop: what its boxes hold when pre has come. -/
structure LoopI (w1 : World) (r0 r1 r2 r3 : Int) (A : Option Addr) (cap : Nat) (L : List Nat) (k : Int) (pre : List Nat) (W : World) : Prop where
  is : pre <+: L
  low : Below w1.heap.size w1 W
  l : Boxed W w1.heap.size 35 (.slice A L.length cap)
  n : Boxed W (w1.heap.size + 1) 3 (.int .i64 ((pre.length : Nat) : Int))
  m : Boxed W (w1.heap.size + 1 + 1) 4 (.bool (memB k pre))
  u : Box4 W (w1.heap.size + 1 + 1 + 1) r0 r1 r2 r3
theorem LoopI.start {w1 : World} {r0 r1 r2 r3 k : Int} {A : Option Addr} {cap : Nat} {L : List Nat} :
    LoopI w1 r0 r1 r2 r3 A cap L k [] ((((w1.alloc (.cells #[.slice A L.length cap] 35)).alloc (.cells #[.int .i64 0] 3)).alloc (.cells #[.bool false] 4)).alloc (.cells #[.int .u32 r0, .int .u32 r1, .int .u32 r2, .int .u32 r3] 24)) := by
  have hl := Boxed.new w1 35 (.slice A L.length cap)
  have hn := Boxed.new (w1.alloc (.cells #[.slice A L.length cap] 35)) 3 (.int .i64 0)
  have hm := Boxed.new ((w1.alloc (.cells #[.slice A L.length cap] 35)).alloc (.cells #[.int .i64 0] 3)) 4 (.bool false)
  have hq := Box4.new (((w1.alloc (.cells #[.slice A L.length cap] 35)).alloc (.cells #[.int .i64 0] 3)).alloc (.cells #[.bool false] 4)) r0 r1 r2 r3
  simp only [World.size_alloc] at hn hm hq
  exact ⟨List.nil_prefix, ((((Below.refl w1.heap.size w1).alloc (Nat.le_refl _) _).alloc (by simp) _).alloc (by simp; omega) _).alloc (by simp; omega) _,
    ((hl.alloc _).alloc _).alloc _, (hn.alloc _).alloc _, hm.alloc _, hq⟩
theorem loopI_own {w1 : World} {r0 r1 r2 r3 k : Int} {A : Option Addr} {cap B : Nat} {L : List Nat} (hB : w1.heap.size ≤ B) : OwnFrom B (LoopI w1 r0 r1 r2 r3 A cap L k) :=
  fun _ X Y row hs hg hr => ⟨hs.is, ownFrom_below (β := Unit) (Nat.le_refl _) hB () X Y row hs.low hg hr,
    boxed_own _ _ (fun _ : Unit => _) () X Y row hs.l hg (fun r e => (hr r e).2), boxed_own _ _ (fun _ : Unit => _) () X Y row hs.n hg (fun r e => (hr r e).2),
    boxed_own _ _ (fun _ : Unit => _) () X Y row hs.m hg (fun r e => (hr r e).2), box4_own (β := Unit) _ _ _ _ _ () X Y row hs.u hg (fun r e => (hr r e).2)⟩

/-- What a round of the law's loop reads. -/
def LC (w w1 : World) (r0 r1 r2 r3 : Int) (A : Option Addr) (cap : Nat) (L : List Nat) (j : Nat) (pa : Addr) (v : Nat) (W : World) : Prop :=
  W.cell? ⟨w.heap.size, 0, none⟩ = some (.int .u32 r0) ∧ W.cell? ⟨w.heap.size, 1, none⟩ = some (.int .u32 r1) ∧ W.cell? ⟨w.heap.size, 2, none⟩ = some (.int .u32 r2) ∧ W.cell? ⟨w.heap.size, 3, none⟩ = some (.int .u32 r3) ∧
  W.cell? ⟨w1.heap.size, 0, none⟩ = some (.slice A L.length cap) ∧ W.cell? ⟨w1.heap.size + 1, 0, none⟩ = some (.int .i64 (j : Int)) ∧ W.cell? pa = some (.int .i64 (v : Int))
theorem LC.call {w w1 W W' : World} {r0 r1 r2 r3 : Int} {A : Option Addr} {cap : Nat} {L : List Nat} {j : Nat} {pa : Addr} {v : Nat} (h : LC w w1 r0 r1 r2 r3 A cap L j pa v W) (hb : Below W.heap.size W W') : LC w w1 r0 r1 r2 r3 A cap L j pa v W' := by
  have go : ∀ {p : Addr} {q : Value}, W.cell? p = some q → W'.cell? p = some q := fun {p q} hc => (hb.cell (World.block_lt_of_cell? W p hc)).trans hc
  obtain ⟨h0, h1, h2, h3, h4, h5, h6⟩ := h
  exact ⟨go h0, go h1, go h2, go h3, go h4, go h5, go h6⟩
theorem LC.drew {w w1 W : World} {r0 r1 r2 r3 : Int} {A : Option Addr} {cap : Nat} {L : List Nat} {j : Nat} {pa : Addr} {v : Nat} (h : LC w w1 r0 r1 r2 r3 A cap L j pa v W) : LC w w1 r0 r1 r2 r3 A cap L j pa v W.drew := h
theorem IC_get (l : List Nat) (k : Nat) (h : k < l.length) : (IC l)[k]? = some (.int .i64 ((l[k] : Nat) : Int)) := by simp [IC, h]
theorem prefix_snoc {pre L : List Nat} (h : pre <+: L) (hl : pre.length < L.length) : pre ++ [L[pre.length]] <+: L := by
  obtain ⟨t, rfl⟩ := h
  cases t with
  | nil => simp at hl
  | cons y t => exact ⟨t, by simp⟩
theorem prefix_last {pre L : List Nat} {x : Nat} (hl : pre.length < L.length) (h : pre ++ [x] <+: L) : x = L[pre.length] := by
  obtain ⟨t, rfl⟩ := h
  simp
theorem below_keeps {W W' : World} (h : Below W.heap.size W W') : KeepsOthers W W' := ⟨h.size, fun k _ hk _ => (h.block k (Array.getElem?_eq_some_iff.1 hk).1).trans hk⟩
theorem memB_snoc (k : Int) (l : List Nat) (x : Nat) : memB k (l ++ [x]) = (memB k l || decide ((x : Int) = k)) := by simp [memB]
theorem memB_of {k : Int} {l : List Nat} {j : Nat} (hj : j ∈ l) (h : (j : Int) = k) : memB k l = true := by
  unfold memB
  rw [List.any_eq_true]
  exact ⟨j, hj, by simpa using h⟩
section
variable {w1 W W' : World} {r0 r1 r2 r3 k : Int} {A : Option Addr} {cap : Nat} {L pre : List Nat}
theorem LoopI.call (h : LoopI w1 r0 r1 r2 r3 A cap L k pre W) (hb : Below W.heap.size W W') : LoopI w1 r0 r1 r2 r3 A cap L k pre W' :=
  ⟨h.is, chain h.low hb (Nat.le_refl _), Boxed.call h.l hb, Boxed.call h.n hb, Boxed.call h.m hb, h.u.call hb⟩
theorem LoopI.step (h : LoopI w1 r0 r1 r2 r3 A cap L k pre W) {x : Nat} (hx : pre ++ [x] <+: L) {b : Bool} (hb : memB k (pre ++ [x]) = b) :
    LoopI w1 r0 r1 r2 r3 A cap L k (pre ++ [x]) ((W.setCell ⟨w1.heap.size + 1 + 1, 0, none⟩ (.bool b)).setCell ⟨w1.heap.size + 1, 0, none⟩ (.int .i64 ((pre.length : Int) + 1))) := by
  subst hb
  refine ⟨hx, (h.low.setCell (p := ⟨w1.heap.size + 1 + 1, 0, none⟩) (by simp; omega) _).setCell (p := ⟨w1.heap.size + 1, 0, none⟩) (by simp) _,
    (h.l.other (by omega) _).other (by omega) _, ?_, (h.m.set _).other (by omega) _, (h.u.set (by simp) _).set (by simp; omega) _⟩
  have := (h.n.other (B' := w1.heap.size + 1 + 1) (by omega) (.bool (memB k (pre ++ [x])))).set (.int .i64 ((pre.length : Int) + 1))
  simpa using this
theorem LoopI.kept (hb : Below W.heap.size W W') (hlt : w1.heap.size + 1 + 1 + 1 < W.heap.size) (u v : Value) :
    KeepsOthers W ((W'.setCell ⟨w1.heap.size + 1 + 1, 0, none⟩ u).setCell ⟨w1.heap.size + 1, 0, none⟩ v) ∧
    KpB (w1.heap.size + 1 + 1 + 1) W ((W'.setCell ⟨w1.heap.size + 1 + 1, 0, none⟩ u).setCell ⟨w1.heap.size + 1, 0, none⟩ v) :=
  ⟨(below_keeps hb).trans ((KeepsOthers.setCell _ _ _).trans (KeepsOthers.setCell _ _ _)),
    (Below.heap_setCell _ _ _ _ (by simp; omega)).trans ((Below.heap_setCell _ _ _ _ (by simp)).trans (hb.block _ hlt))⟩
end
/-- Behind the law's loop: what its last statement reads and writes. -/
structure LD (w w1 : World) (r0 r1 r2 r3 : Int) (A : Option Addr) (cap : Nat) (L : List Nat) (k : Int) (D : Nat) (W : World) : Prop where
  r : Box4 W w.heap.size r0 r1 r2 r3
  l : Boxed W w1.heap.size 35 (.slice A L.length cap)
  n : Boxed W (w1.heap.size + 1) 3 (.int .i64 ((L.length : Nat) : Int))
  m : Boxed W (w1.heap.size + 1 + 1) 4 (.bool (memB k L))
  res : ∃ v, Boxed W (w.heap.size + 1) 4 v
  d : W.heap[D]? = some (.deferred (some []))
  old : Below w.heap.size w W
  lt : w.heap.size + 1 < w1.heap.size
  hD : w1.heap.size ≤ D
section
variable {w w1 W W' : World} {r0 r1 r2 r3 k : Int} {A : Option Addr} {cap D : Nat} {L : List Nat}
theorem LD.call (h : LD w w1 r0 r1 r2 r3 A cap L k D W) (hb : Below W.heap.size W W') : LD w w1 r0 r1 r2 r3 A cap L k D W' := by
  obtain ⟨v, hv⟩ := h.res
  exact ⟨h.r.call hb, Boxed.call h.l hb, Boxed.call h.n hb, Boxed.call h.m hb, ⟨v, Boxed.call hv hb⟩, (hb.block D (Array.getElem?_eq_some_iff.1 h.d).1).trans h.d, chain h.old hb (Nat.le_refl _), h.lt, h.hD⟩
theorem LD.drew (h : LD w w1 r0 r1 r2 r3 A cap L k D W) : LD w w1 r0 r1 r2 r3 A cap L k D W.drew := ⟨h.r, h.l, h.n, h.m, h.res, h.d, h.old.drew, h.lt, h.hD⟩
theorem LD.set (h : LD w w1 r0 r1 r2 r3 A cap L k D W) (v : Value) : LD w w1 r0 r1 r2 r3 A cap L k D (W.setCell ⟨w.heap.size + 1, 0, none⟩ v) := by
  have hlt := h.lt
  have hD := h.hD
  obtain ⟨u, hu⟩ := h.res
  exact ⟨h.r.set (by simp) _, h.l.other (by omega) _, h.n.other (by omega) _, h.m.other (by omega) _, ⟨v, hu.set v⟩, (Below.heap_setCell _ _ _ _ (by simp; omega)).trans h.d,
    h.old.setCell (p := ⟨w.heap.size + 1, 0, none⟩) (by simp) _, hlt, hD⟩
end
end Go.Proofs.Ytiapllplhjhliaa
