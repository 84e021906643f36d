/-
  What made keeps: two boxes of its own, rows outside them.
  Conditions: none beyond those that each theorem names.
-/
import Derived.Test.YtpffnjnncgmgnaaB22
import Derived.Test.YtpffnjnncgmgnaaB30
namespace Go.Proofs.Ytpffnjnncgmgnaa
open Go.RowKit
attribute [local go_sem] Oper.semAt_some
set_option maxRecDepth 20000

def MdX (w : World) : Nat → Prop := fun k => k = w.heap.size ∨ k = w.heap.size + 1
/-- The law's bucket and its reference in the midst of acts. -/
structure MdS (w : World) (d : Int) (ps : List Int) (pn : Nat) (rs : List Rc) (rn : Nat) (PA : Option Addr) (pc : Nat) (RA : Option Addr) (rc : Nat) (A7 : Option Addr) (y : World) : Prop where
  box : At y w.heap.size 29 (bkA d (.slice PA pn pc) (.slice RA rn rc))
  res : At y (w.heap.size + 1) 29 zbk
  nums : Lz (MdX w) y 1 PA pn (ICs ps)
  recs : Lz (MdX w) y 6 RA rn (rcsL rs)
  ref : Lz (MdX w) y 6 A7 rn (rcsL rs)
  cap : rn ≤ rc
  bel : Below w.heap.size w y
section
variable {w y z : World} {d : Int} {ps : List Int} {pn rn pc rc : Nat} {rs : List Rc} {PA RA A7 : Option Addr}
theorem MdS.call (h : MdS w d ps pn rs rn PA pc RA rc A7 y) (hb : Below y.heap.size y z) : MdS w d ps pn rs rn PA pc RA rc A7 z :=
  ⟨h.box.under hb h.box.lt, h.res.under hb h.res.lt, h.nums.below hb, h.recs.below hb, h.ref.below hb, h.cap, h.bel.trans (hb.mono h.bel.size)⟩
theorem Lz.any {X : Nat → Prop} {w : World} {size n : Nat} {A : Option Addr} {xs : List Value} (h : Lz X w size A n xs) : Lz NoX w size A n xs := h.mono fun _ _ h => h.elim
theorem MdS.bk (h : MdS w d ps pn rs rn PA pc RA rc A7 y) : BkL y PA pn RA rn ps rs := ⟨h.nums.any, h.recs.any⟩
theorem MdS.lt (h : MdS w d ps pn rs rn PA pc RA rc A7 y) : ∀ k, MdX w k → k < y.heap.size := fun k hk => by
  have := h.res.lt
  rcases hk with hk | hk <;> omega
/-- A row of records lies in no bucket's box. -/
theorem Lz.off {n g c1 c2 n1 n2 : Nat} {A B C : Option Addr} {l : List Rc} {b : Nat} {o : Nat} (h : Lz NoX y 6 A n (rcsL l)) (hn : 0 < n) (hA : A = some ⟨b, o, none⟩) (ha : At y g 29 (bkA d (.slice B n1 c1) (.slice C n2 c2))) : b ≠ g := by
  rintro rfl
  obtain ⟨b1, o1, hl, e, _, hr⟩ := h.rc hn
  rw [hA] at e
  injection e with e
  injection e with e1 e2
  subst e1 e2
  have h0 : y.cell? ⟨b, o + 0 * 6 + 0, none⟩ = some (.int .u64 ((l[0].id : Nat) : Int)) := hr 0 _ rfl
  have hc := ha.cell (o + 0 * 6 + 0)
  rw [h0] at hc
  have : ∀ j, (bkA d (.slice B n1 c1) (.slice C n2 c2))[j]? ≠ some (Value.int .u64 ((l[0].id : Nat) : Int)) := fun j => by
    match j with
    | 0 => simp [bkA]
    | 1 => simp [bkA]
    | 2 => simp [bkA]
    | j + 3 => rw [Array.getElem?_eq_none (by simp [bkA])]; exact fun e => by cases e
  exact this _ hc.symm
theorem MdS.off (h : MdS w d ps pn rs rn PA pc RA rc A7 y) {A : Option Addr} {n : Nat} {l : List Rc} (hl : Lz NoX y 6 A n (rcsL l)) : Lz (MdX w) y 6 A n (rcsL l) := by
  refine ⟨hl.len, fun hn => ?_⟩
  obtain ⟨b, o, hA, _, hb, hr⟩ := hl.spot hn
  refine ⟨b, o, hA, fun hx => ?_, hb, hr⟩
  rcases hx with hx | hx
  · exact Lz.off hl hn hA h.box hx
  · exact Lz.off hl hn hA (show At y (w.heap.size + 1) 29 (bkA 0 (.slice none 0 0) (.slice none 0 0)) from h.res) hx
/-- A new bucket in a box of its own, made since y0. -/
structure BkN (y0 : World) (g : Nat) (d : Int) (ps : List Int) (pn : Nat) (rs : List Rc) (rn : Nat) (PA : Option Addr) (pc : Nat) (RA : Option Addr) (rc : Nat) (y : World) : Prop where
  ge : y0.heap.size ≤ g
  box : At y g 29 (bkA d (.slice PA pn pc) (.slice RA rn rc))
  nums : y.ownsRow y0.heap.size 3 1 (.slice PA pn pc) pn (ICs ps)
  recs : y.ownsRow y0.heap.size 52 6 (.slice RA rn rc) rn (rcsL rs)
  bel : Below y0.heap.size y0 y
theorem BkN.call {y0 : World} {g : Nat} (h : BkN y0 g d ps pn rs rn PA pc RA rc y) (hb : Below y.heap.size y z) : BkN y0 g d ps pn rs rn PA pc RA rc z :=
  ⟨h.ge, h.box.under hb h.box.lt, own_under h.nums hb (Nat.le_refl _), own_under h.recs hb (Nat.le_refl _), h.bel.trans (hb.mono h.bel.size)⟩
/-- It is put into its box. -/
theorem BkN.put {y0 y1 : World} {g : Nat} {cs : Array Value} (hb : Below y0.heap.size y0 y) (h0 : y0.heap.size ≤ y1.heap.size) (h1 : y.ownsRow y1.heap.size 3 1 (.slice PA pn pc) pn (ICs ps)) (h2 : y.ownsRow y1.heap.size 52 6 (.slice RA rn rc) rn (rcsL rs)) (hg : y0.heap.size ≤ g) (ho : At y g 29 cs)
    (ha : At z g 29 (bkA d (.slice PA pn pc) (.slice RA rn rc))) (hz : y.grownBy z (some g)) : BkN y0 g d ps pn rs rn PA pc RA rc z := by
  have k : ∀ {b e s v m xs}, y.ownsRow b e s v m xs → 29 ≠ e → z.ownsRow b e s v m xs := fun {b e s v m xs} hw hne => by
    refine hw.kept hz ?_
    cases hv : v.ownBlock with
    | none => exact .inl rfl
    | some k => exact .inr fun e1 => own_ne hw ho hne (by rw [hv, e1])
  exact ⟨hg, ha, own_base (k h1 (by decide)) h0, own_base (k h2 (by decide)) h0, hb.grown hz hb.size (fun j e => by injection e with e; omega)⟩
/-- The law takes the new bucket and the new reference over. -/
theorem MdS.take {y0 : World} {g rn' pc' rc' : Nat} {rs' : List Rc} {PA' RA' A9 : Option Addr} (h : MdS w d ps pn rs rn PA pc RA rc A7 y0) (hn : BkN y0 g d ps pn rs' rn' PA' pc' RA' rc' y) (hr : Lz NoX y 6 A9 rn' (rcsL rs'))
    (ha : At z w.heap.size 29 (bkA d (.slice PA' pn pc') (.slice RA' rn' rc'))) (hz : y.grownBy z (some w.heap.size)) : MdS w d ps pn rs' rn' PA' pc' RA' rc' A9 z := by
  have h1 := h.call (z := y) hn.bel
  have hm : Mod (MdX w) y z := (Mod.refl _ y).grown hz (fun k e => .inl (.inl (by injection e with e; exact e.symm)))
  refine ⟨ha, ?_, ?_, ?_, (h1.off hr).kept hm, ?_, ?_⟩
  · exact h1.res.grown hz (fun e => by injection e with e; omega)
  · exact (Lz.of_own hn.nums (fun k hk => h.lt k hk)).kept hm
  · exact (Lz.of_own hn.recs (fun k hk => h.lt k hk)).kept hm
  · obtain ⟨A, c, e, h3, _⟩ := pl_own_slice hn.recs
    injection e with _ e1 e2
    omega
  · exact h1.bel.grown hz h1.bel.size (fun j e => by injection e with e; omega)
/-- What the law held before stays as it was. -/
structure WasS (w : World) (g : Nat) (d : Int) (pn : Nat) (rs : List Rc) (rn : Nat) (PA : Option Addr) (pc : Nat) (RA : Option Addr) (rc : Nat) (A7 : Option Addr) (y : World) : Prop where
  ge : w.heap.size + 2 ≤ g
  box : At y g 29 (bkA d (.slice PA pn pc) (.slice RA rn rc))
  recs : Lz (MdX w) y 6 RA rn (rcsL rs)
  ref : Lz (MdX w) y 6 A7 rn (rcsL rs)
theorem WasS.call {g : Nat} (h : WasS w g d pn rs rn PA pc RA rc A7 y) (hb : Below y.heap.size y z) : WasS w g d pn rs rn PA pc RA rc A7 z := ⟨h.ge, h.box.under hb h.box.lt, h.recs.below hb, h.ref.below hb⟩
theorem WasS.store {g : Nat} (h : WasS w g d pn rs rn PA pc RA rc A7 y) (hz : y.grownBy z (some w.heap.size)) : WasS w g d pn rs rn PA pc RA rc A7 z := by
  have hm : Mod (MdX w) y z := (Mod.refl _ y).grown hz (fun k e => .inl (.inl (by injection e with e; exact e.symm)))
  exact ⟨h.ge, h.box.grown hz (fun e => by have := h.ge; injection e with e; omega), h.recs.kept hm, h.ref.kept hm⟩
theorem MdS.was (h : MdS w d ps pn rs rn PA pc RA rc A7 y) : WasS w y.heap.size d pn rs rn PA pc RA rc A7 (y.alloc (.cells (bkA d (.slice PA pn pc) (.slice RA rn rc)) 29)) :=
  ⟨by have := h.res.lt; omega, At.new _ _ _, h.recs.alloc _, h.ref.alloc _⟩
end
/-- A new bucket and a code, by names. -/
def RetBN (w : World) (d : Int) (ps : List Int) (pn : Nat) (rs : List Rc) (n : Nat) (x : Value) (e : Ending) (z : World) : Prop := ∃ A5 c5 A6 c6, e = .returned (.tuple #[.agg (bkA d (.slice A5 pn c5) (.slice A6 n c6)), x]) ∧ z.ownsRow w.heap.size 3 1 (.slice A5 pn c5) pn (ICs ps) ∧ z.ownsRow w.heap.size 52 6 (.slice A6 n c6) n (rcsL rs) ∧ Below w.heap.size w z
theorem RetBC.named {w z : World} {d : Int} {ps : List Int} {pn n : Nat} {rs rs' : List Rc} {x x' : Value} {e : Ending} (h : RetBC w d ps pn rs x e z) (h1 : rs = rs') (h2 : rs'.length = n) (h3 : x = x') : RetBN w d ps pn rs' n x' e z := by
  subst h1 h2 h3
  obtain ⟨v, rfl, A5, c5, A6, c6, rfl, a, b, c⟩ := h
  exact ⟨A5, c5, A6, c6, rfl, a, b, c⟩
def RetRN (w : World) (l : List Rc) (n : Nat) (x : Value) (e : Ending) (z : World) : Prop := ∃ A c, e = .returned (.tuple #[.slice A n c, x]) ∧ Lz NoX z 6 A n (rcsL l) ∧ n ≤ c ∧ Below w.heap.size w z
theorem RetRA.named {w z : World} {n : Nat} {rs rs' : List Rc} {x x' : Value} {e : Ending} (h : RetRA w rs x e z) (h1 : rs = rs') (h2 : rs'.length = n) (h3 : x = x') : RetRN w rs' n x' e z := by
  subst h1 h2 h3
  exact h
theorem results_at3 {fn : Func} {p t u : Tmp} {ty : TypeId} {tmps : Array Value} {w : World} {g n : Nat} {cs : Array Value} {v x : Value} (hp : tmps.getD p undef = .pointer (some ⟨g, 0, none⟩)) (hc : At w g ty cs) (hs : Str ty n) (hn : cs.size = n)
    (h : fn.results = #[.cell p ty, .tmp t, .tmp u]) (hv : tmps.getD t undef = v) (hx : tmps.getD u undef = x) : (results fn tmps).run Try.prog w = .ok (.tuple #[.agg cs, v, x]) w := by
  obtain ⟨ds, h1, h2, h3⟩ := hs
  have hp' : tmps[p]?.getD undef = .pointer (some ⟨g, 0, none⟩) := by simpa using hp
  have hv' : tmps[t]?.getD undef = v := by simpa using hv
  have hx' : tmps[u]?.getD undef = x := by simpa using hx
  have hl := run_loadVar_row w g ty ty cs (0, 0) ds hc h1 (by cases ds <;> first | rfl | cases h2) (by rw [hn]; exact h3)
  simp [results, h, hp', hv', hx', asAddr, hl]
/-- What made hands back. -/
def RetMd (w : World) (d : Int) (ps : List Int) (pn : Nat) (rs : List Rc) (rn : Nat) (e : Ending) (z : World) : Prop := ∃ PA pc RA rc A7 c7, e = .returned (.tuple #[.agg (bkA d (.slice PA pn pc) (.slice RA rn rc)), .slice A7 rn c7, .bool true]) ∧ BkL z PA pn RA rn ps rs ∧ rn ≤ rc ∧ Lz NoX z 6 A7 rn (rcsL rs) ∧ rn ≤ c7 ∧ Below w.heap.size w z
end Go.Proofs.Ytpffnjnncgmgnaa
