/-
  What the law RegionDoes keeps: a region in a box of its own, rows outside it.
  Conditions: none beyond those that each theorem names.
-/
import Derived.Test.YtgjkbnplpioloaaX9
namespace Go.Proofs.Ytgjkbnplpioloaa
open Go.RowKit
attribute [local go_sem] Oper.semAt_some
set_option maxRecDepth 20000

theorem add_len {pn : Nat} {l : List Rc} (r : Rc) (h : l.length ≤ 8 * pn) : (addR pn l r).1.length ≤ 8 * pn := by
  unfold addR
  split
  · exact h
  · split
    · exact h
    · simp; omega
theorem drop_len {pn : Nat} {l : List Rc} (r : Rc) (h : l.length ≤ 8 * pn) : (dropR l r).1.length ≤ 8 * pn := by
  unfold dropR
  split
  · unfold dropAt
    rw [List.length_eraseIdx]
    split <;> omega
  · exact h
def MdX (gB : Nat) : Nat → Prop := fun k => k = gB
/-- The law's region and its reference in the midst of acts. -/
structure MdS (w : World) (gB : Nat) (d : Bx) (ps : List Int) (pn : Nat) (rs : List Rc) (rn : Nat) (PA : Option Addr) (pc : Nat) (RA : Option Addr) (rc : Nat) (A7 : Option Addr) (y : World) : Prop where
  ge : w.heap.size ≤ gB
  box : At y gB 44 (bkA d (.slice PA pn pc) (.slice RA rn rc))
  nums : Lz (MdX gB) y 1 PA pn (ICs ps)
  recs : Lz (MdX gB) y 4 RA rn (rcsL rs)
  ref : Lz (MdX gB) y 4 A7 rn (rcsL rs)
  cap : rn ≤ rc
  bel : Below w.heap.size w y
section
variable {w y z : World} {gB : Nat} {d : Bx} {ps : List Int} {pn rn pc rc : Nat} {rs : List Rc} {PA RA A7 : Option Addr}
theorem MdS.call (h : MdS w gB d ps pn rs rn PA pc RA rc A7 y) (hb : Below y.heap.size y z) : MdS w gB d ps pn rs rn PA pc RA rc A7 z :=
  ⟨h.ge, h.box.under hb h.box.lt, h.nums.below hb, h.recs.below hb, h.ref.below hb, h.cap, h.bel.trans (hb.mono h.bel.size)⟩
theorem Lz.any {X : Nat → Prop} {w : World} {size n : Nat} {A : Option Addr} {xs : List Value} (h : Lz X w size A n xs) : Lz NoX w size A n xs := h.mono fun _ _ h => h.elim
theorem MdS.bk (h : MdS w gB d ps pn rs rn PA pc RA rc A7 y) : BkL y PA pn RA rn ps rs := ⟨h.nums.any, h.recs.any⟩
theorem MdS.lt (h : MdS w gB d ps pn rs rn PA pc RA rc A7 y) : ∀ k, MdX gB k → k < y.heap.size := fun k hk => by
  have := h.box.lt
  rw [show k = gB from hk]
  exact this
/-- A row of points lies in no region's box. -/
theorem Lz.off {n g c1 c2 n1 n2 : Nat} {A B C : Option Addr} {l : List Rc} {b : Nat} {o : Nat} (h : Lz NoX y 4 A n (rcsL l)) (hn : 0 < n) (hA : A = some ⟨b, o, none⟩) (ha : At y g 44 (bkA d (.slice B n1 c1) (.slice C n2 c2))) : b ≠ g := by
  rintro rfl
  obtain ⟨b1, o1, hl, e, _, hr⟩ := h.rc hn
  rw [hA] at e
  injection e with e
  injection e with e1 e2
  subst e1 e2
  have h0 : y.cell? ⟨b, o + 0 * 4 + 0, none⟩ = some (.int .u32 ((l[0].x : Nat) : Int)) := hr 0 _ rfl
  have hc := ha.cell (o + 0 * 4 + 0)
  rw [h0] at hc
  have : ∀ j, (bkA d (.slice B n1 c1) (.slice C n2 c2))[j]? ≠ some (Value.int .u32 ((l[0].x : Nat) : Int)) := fun j => by
    match j with
    | 0 => simp [bkA]
    | 1 => simp [bkA]
    | 2 => simp [bkA]
    | 3 => simp [bkA]
    | 4 => simp [bkA]
    | 5 => simp [bkA]
    | j + 6 => rw [Array.getElem?_eq_none (by simp [bkA])]; exact fun e => by cases e
  exact this _ hc.symm
theorem MdS.off (h : MdS w gB d ps pn rs rn PA pc RA rc A7 y) {A : Option Addr} {n : Nat} {l : List Rc} (hl : Lz NoX y 4 A n (rcsL l)) : Lz (MdX gB) y 4 A n (rcsL l) := by
  refine ⟨hl.len, fun hn => ?_⟩
  obtain ⟨b, o, hA, _, hb, hr⟩ := hl.spot hn
  exact ⟨b, o, hA, fun hx => Lz.off hl hn hA h.box hx, hb, hr⟩
/-- A new region in a box of its own, made since y0. -/
structure BkN (y0 : World) (g : Nat) (d : Bx) (ps : List Int) (pn : Nat) (rs : List Rc) (rn : Nat) (PA : Option Addr) (pc : Nat) (RA : Option Addr) (rc : Nat) (y : World) : Prop where
  ge : y0.heap.size ≤ g
  box : At y g 44 (bkA d (.slice PA pn pc) (.slice RA rn rc))
  nums : y.ownsRow y0.heap.size 3 1 (.slice PA pn pc) pn (ICs ps)
  recs : y.ownsRow y0.heap.size 50 4 (.slice RA rn rc) rn (rcsL rs)
  bel : Below y0.heap.size y0 y
theorem BkN.call {y0 : World} {g : Nat} (h : BkN y0 g d ps pn rs rn PA pc RA rc y) (hb : Below y.heap.size y z) : BkN y0 g d ps pn rs rn PA pc RA rc z :=
  ⟨h.ge, h.box.under hb h.box.lt, own_under h.nums hb (Nat.le_refl _), own_under h.recs hb (Nat.le_refl _), h.bel.trans (hb.mono h.bel.size)⟩
/-- It is put into its box. -/
theorem BkN.put {y0 y1 : World} {g : Nat} {cs : Array Value} (hb : Below y0.heap.size y0 y) (h0 : y0.heap.size ≤ y1.heap.size) (h1 : y.ownsRow y1.heap.size 3 1 (.slice PA pn pc) pn (ICs ps)) (h2 : y.ownsRow y1.heap.size 50 4 (.slice RA rn rc) rn (rcsL rs)) (hg : y0.heap.size ≤ g) (ho : At y g 44 cs)
    (ha : At z g 44 (bkA d (.slice PA pn pc) (.slice RA rn rc))) (hz : y.grownBy z (some g)) : BkN y0 g d ps pn rs rn PA pc RA rc z := by
  have k : ∀ {b e s v m xs}, y.ownsRow b e s v m xs → 44 ≠ e → z.ownsRow b e s v m xs := fun {b e s v m xs} hw hne => by
    refine hw.kept hz ?_
    cases hv : v.ownBlock with
    | none => exact .inl rfl
    | some k => exact .inr fun e1 => own_ne hw ho hne (by rw [hv, e1])
  exact ⟨hg, ha, own_base (k h1 (by decide)) h0, own_base (k h2 (by decide)) h0, hb.grown hz hb.size (fun j e => by injection e with e; omega)⟩
/-- The law takes the new region and the new reference over. -/
theorem MdS.take {y0 : World} {g rn' pc' rc' : Nat} {rs' : List Rc} {PA' RA' A9 : Option Addr} (h : MdS w gB d ps pn rs rn PA pc RA rc A7 y0) (hn : BkN y0 g d ps pn rs' rn' PA' pc' RA' rc' y) (hr : Lz NoX y 4 A9 rn' (rcsL rs'))
    (ha : At z gB 44 (bkA d (.slice PA' pn pc') (.slice RA' rn' rc'))) (hz : y.grownBy z (some gB)) : MdS w gB d ps pn rs' rn' PA' pc' RA' rc' A9 z := by
  have h1 := h.call (z := y) hn.bel
  have hm : Mod (MdX gB) y z := (Mod.refl _ y).grown hz (fun k e => .inl (by injection e with e; exact e.symm))
  refine ⟨h.ge, ha, ?_, ?_, (h1.off hr).kept hm, ?_, ?_⟩
  · exact (Lz.of_own hn.nums (fun k hk => h.lt k hk)).kept hm
  · exact (Lz.of_own hn.recs (fun k hk => h.lt k hk)).kept hm
  · obtain ⟨A, c, e, h3, _⟩ := pl_own_slice hn.recs
    injection e with _ e1 e2
    omega
  · exact h1.bel.grown hz h1.bel.size (fun j e => by injection e with e; have := h.ge; omega)
/-- What the law held before stays as it was. -/
structure WasS (gB : Nat) (g : Nat) (d : Bx) (pn : Nat) (rs : List Rc) (rn : Nat) (PA : Option Addr) (pc : Nat) (RA : Option Addr) (rc : Nat) (A7 : Option Addr) (y : World) : Prop where
  ge : gB < g
  box : At y g 44 (bkA d (.slice PA pn pc) (.slice RA rn rc))
  recs : Lz (MdX gB) y 4 RA rn (rcsL rs)
  ref : Lz (MdX gB) y 4 A7 rn (rcsL rs)
theorem WasS.call {g : Nat} (h : WasS gB g d pn rs rn PA pc RA rc A7 y) (hb : Below y.heap.size y z) : WasS gB g d pn rs rn PA pc RA rc A7 z := ⟨h.ge, h.box.under hb h.box.lt, h.recs.below hb, h.ref.below hb⟩
theorem WasS.store {g : Nat} (h : WasS gB g d pn rs rn PA pc RA rc A7 y) (hz : y.grownBy z (some gB)) : WasS gB g d pn rs rn PA pc RA rc A7 z := by
  have hm : Mod (MdX gB) y z := (Mod.refl _ y).grown hz (fun k e => .inl (by injection e with e; exact e.symm))
  exact ⟨h.ge, h.box.grown hz (fun e => by have := h.ge; injection e with e; omega), h.recs.kept hm, h.ref.kept hm⟩
theorem MdS.was (h : MdS w gB d ps pn rs rn PA pc RA rc A7 y) : WasS gB y.heap.size d pn rs rn PA pc RA rc A7 (y.alloc (.cells (bkA d (.slice PA pn pc) (.slice RA rn rc)) 44)) :=
  ⟨h.box.lt, At.new _ _ _, h.recs.alloc _, h.ref.alloc _⟩
theorem MdS.start (hb : Below w.heap.size w y) (hP : Lz NoX y 1 PA pn (ICs ps)) : MdS w y.heap.size d ps pn [] 0 PA pc none 0 none (y.alloc (.cells (bkA d (.slice PA pn pc) (.slice none 0 0)) 44)) :=
  ⟨hb.size, At.new _ _ _, (hP.mono fun k hk hx => absurd hk (by rw [show k = y.heap.size from hx]; exact Nat.lt_irrefl _)).alloc _, Lz.empty, Lz.empty, Nat.le_refl _, hb.alloc hb.size _⟩
end
/-- A new region and a code, by names. -/
def RetBN (w : World) (d : Bx) (ps : List Int) (pn : Nat) (rs : List Rc) (n : Nat) (x : Value) (e : Ending) (z : World) : Prop := ∃ A5 c5 A6 c6, e = .returned (.tuple #[.agg (bkA d (.slice A5 pn c5) (.slice A6 n c6)), x]) ∧ z.ownsRow w.heap.size 3 1 (.slice A5 pn c5) pn (ICs ps) ∧ z.ownsRow w.heap.size 50 4 (.slice A6 n c6) n (rcsL rs) ∧ Below w.heap.size w z
theorem RetBC.named {w z : World} {d : Bx} {ps : List Int} {pn n : Nat} {rs rs' : List Rc} {x x' : Value} {e : Ending} (h : RetBC w d ps pn rs x e z) (h1 : rs = rs') (h2 : rs'.length = n) (h3 : x = x') : RetBN w d ps pn rs' n x' e z := by
  subst h1 h2 h3
  obtain ⟨v, rfl, A5, c5, A6, c6, rfl, a, b, c⟩ := h
  exact ⟨A5, c5, A6, c6, rfl, a, b, c⟩
def RetRN (w : World) (l : List Rc) (n : Nat) (x : Value) (e : Ending) (z : World) : Prop := ∃ A c, e = .returned (.tuple #[.slice A n c, x]) ∧ Lz NoX z 4 A n (rcsL l) ∧ n ≤ c ∧ Below w.heap.size w z
theorem RetRA.named {w z : World} {n : Nat} {rs rs' : List Rc} {x x' : Value} {e : Ending} (h : RetRA w rs x e z) (h1 : rs = rs') (h2 : rs'.length = n) (h3 : x = x') : RetRN w rs' n x' e z := by
  subst h1 h2 h3
  exact h
theorem zerosI (n : Nat) : (madeCells (Value.int .i64 0).cells (n * 1)).toList = ICs (List.replicate n 0) := by
  rw [show (Value.int .i64 0).cells = #[Value.int .i64 0] from rfl, toList_madeCells_one, Nat.mul_one]
  unfold ICs
  rw [List.map_replicate]
theorem exec_build_b1 {w : World} {op : Oper} {a : Act} (y : Operand) (ho : op.op = .build 44 #[(1, y)]) (A : Option Addr) (n c : Nat) (hy : a.eval y = .slice A n c) : (execOp a.eval op).run Try.prog w = .ok (.value (.agg (bkA zbx (.slice A n c) (.slice none 0 0)))) w := by
  have h0 : (Instr.build 44 #[(1, .slice A n c)]).run Try.prog w = .ok (.agg (bkA zbx (.slice A n c) (.slice none 0 0))) w := by
    go_simp
    rfl
  unfold execOp
  simp [ho, hy, h0, Result.andThen]
end Go.Proofs.Ytgjkbnplpioloaa
