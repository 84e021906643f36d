/-
  Rows of records and of numbers; the steps of a drawn region, what is asked paid at once.
  Conditions: none beyond those that each theorem names.
-/
import Derived.Test.YtgjkbnplpioloaaEA
import Derived.Test.YtgjkbnplpioloaaPB
import Derived.Test.YtgjkbnplpioloaaLit
import Derived.StillTailTactics
import Derived.Deep.Cut
import Derived.Deep.CutRange
import Derived.Deep.CutBlock
import Derived.BigQuiet
import Derived.Deep.Slices
import Derived.OwnWalk
namespace Go.Proofs.Ytgjkbnplpioloaa
open Go.RowKit
set_option maxRecDepth 20000


section
variable {P : Program} {ops : Array Oper} {Q : Exit → Act → World → Prop} {md : Region.Mode} {S : World → Prop}
/-- The same, what is asked paid at once. -/
theorem tkS {d : Nat} {oi : Oper} {v : Value} {fuel : Nat} {listed : Array Bool} {ts ts' : Array Value} {ds : List Deferred} {w : World} (i : Nat) (hS : S w)
    (h : wpAnyH P md ops Q S fuel (listed.setIfInBounds i true) ⟨ts', ds⟩ w)
    (hi : ops[i]? = some oi := by exact rfl) (hs : Region.noSelect ops = true := by kernel_rfl) (hf : Region.free md ops listed i = true := by kernel_rfl) (hr : (Region.ready md ops listed).contains i = true := by kernel_rfl)
    (hQ : ∀ c a w, Q (.panic c) (a.put oi.dst v) w → Q (.panic c) a w := by exact fun _ _ _ h => h) (hd : oi.dst = some d := by exact rfl) (hw : Region.wanted oi (yielded ops ts) = true := by rfl)
    (hy : ∀ w, S w → (execOp (Act.eval ⟨ts, ds⟩) oi).run P w = .ok (.value v) w := by intro wz hz; go_simp <;> with_reducible rfl)
    (ht : ts.setIfInBounds d v = ts' := by simp only [List.setIfInBounds_toArray, List.set_cons_zero, List.set_cons_succ] <;> rfl) : wpAnyH P md ops Q S (fuel + 1) listed ⟨ts, ds⟩ w :=
  takeH hi hs hf hr hQ hd hw hy hS (ht ▸ h)
theorem skS {d : Nat} {oi : Oper} {fuel : Nat} {listed : Array Bool} {ts ts' : Array Value} {ds : List Deferred} {w : World} (i : Nat) (hS : S w)
    (h : wpAnyH P md ops Q S fuel (listed.setIfInBounds i true) ⟨ts', ds⟩ w)
    (hi : ops[i]? = some oi := by exact rfl) (hs : Region.noSelect ops = true := by kernel_rfl) (hf : Region.free md ops listed i = true := by kernel_rfl) (hr : (Region.ready md ops listed).contains i = true := by kernel_rfl)
    (hQ : ∀ c a w, Q (.panic c) (a.put oi.dst undef) w → Q (.panic c) a w := by exact fun _ _ _ h => h) (hd : oi.dst = some d := by exact rfl) (hw : Region.wanted oi (yielded ops ts) = false := by rfl)
    (ht : ts.setIfInBounds d undef = ts' := by simp only [List.setIfInBounds_toArray, List.set_cons_zero, List.set_cons_succ] <;> rfl) : wpAnyH P md ops Q S (fuel + 1) listed ⟨ts, ds⟩ w :=
  skipH hi hs hf hr hQ hd hw hS (ht ▸ h)
end

theorem rcL_length (r : Rc) : (rcL r).length = 4 := rfl
def rcA (r : Rc) : Array Value := (rcL r).toArray
theorem rcA_size (r : Rc) : (rcA r).size = 4 := rfl
theorem rcA_one (r : Rc) : (rcA r).all (·.oneCell') = true := by simp [rcA, rcL, Value.oneCell']
/-- Records as they lie. -/
def rcsL (l : List Rc) : List Value := l.flatMap rcL
theorem rcsL_append (a b : List Rc) : rcsL (a ++ b) = rcsL a ++ rcsL b := by simp [rcsL]
theorem rcsL_one (r : Rc) : rcsL [r] = rcL r := by simp [rcsL]
theorem rcsL_length : ∀ l : List Rc, (rcsL l).length = l.length * 4
  | [] => rfl
  | a :: l => by
    show (rcL a ++ rcsL l).length = _
    rw [List.length_append, rcsL_length l, rcL_length]
    simp
    omega
theorem rcsL_cell (l : List Rc) : ∀ u ∈ rcsL l, u.oneCell' = true := fun u hu => by
  obtain ⟨r, _, h⟩ := List.mem_flatMap.1 hu
  simp only [rcL, List.mem_cons, List.not_mem_nil, or_false] at h
  rcases h with rfl | rfl | rfl | rfl <;> rfl
theorem rcsL_get : ∀ (l : List Rc) (k : Nat) (h : k < l.length) (j : Nat) (u : Value), (rcL l[k])[j]? = some u → (rcsL l)[k * 4 + j]? = some u
  | a :: l, 0, _, j, u, hu => by
    show (rcL a ++ rcsL l)[0 * 4 + j]? = _
    rw [Nat.zero_mul, Nat.zero_add]
    have hj : j < (rcL a).length := (List.getElem?_eq_some_iff.1 hu).1
    rw [List.getElem?_append_left hj]
    exact hu
  | a :: l, k + 1, h, j, u, hu => by
    show (rcL a ++ rcsL l)[(k + 1) * 4 + j]? = _
    rw [List.getElem?_append_right (by rw [rcL_length]; omega), rcL_length]
    have := rcsL_get l k (by simpa using h) j u hu
    rwa [show (k + 1) * 4 + j - 4 = k * 4 + j by omega]
theorem Lz.rc {X : Nat → Prop} {w : World} {A : Option Addr} {n k : Nat} {l : List Rc} (h : Lz X w 4 A n (rcsL l)) (hk : k < n) : ∃ b o, ∃ hl : k < l.length, A = some ⟨b, o, none⟩ ∧ b < w.heap.size ∧ w.rangeAt b (o + k * 4) (rcL l[k]) := by
  have hl : k < l.length := by have := h.len; rw [rcsL_length] at this; omega
  obtain ⟨b, o, h1, _, h3, h4⟩ := h.spot (by omega)
  refine ⟨b, o, hl, h1, h3, fun j u hu => ?_⟩
  rw [Nat.add_assoc]
  exact h4 (k * 4 + j) u (rcsL_get l k hl j u hu)
theorem Lz.rclen {X : Nat → Prop} {w : World} {A : Option Addr} {n : Nat} {l : List Rc} (h : Lz X w 4 A n (rcsL l)) : l.length = n := by
  have := h.len
  rw [rcsL_length] at this
  omega
/-- Numbers as they lie. -/
def ICs (l : List Int) : List Value := l.map (.int .i64)
theorem ICs_length (l : List Int) : (ICs l).length = l.length := by simp [ICs]
theorem ICs_append (a b : List Int) : ICs (a ++ b) = ICs a ++ ICs b := by simp [ICs]
theorem ICs_cell (l : List Int) : ∀ u ∈ ICs l, u.oneCell' = true := fun u hu => by
  obtain ⟨n, _, rfl⟩ := List.mem_map.1 hu
  rfl
theorem Lz.ic {X : Nat → Prop} {w : World} {A : Option Addr} {n k : Nat} {l : List Int} (h : Lz X w 1 A n (ICs l)) (hk : k < n) : ∃ b o, ∃ hl : k < l.length, A = some ⟨b, o, none⟩ ∧ b < w.heap.size ∧ w.cell? ⟨b, o + k, none⟩ = some (.int .i64 l[k]) := by
  have hl : k < l.length := by have := h.len; rw [ICs_length] at this; omega
  obtain ⟨b, o, h1, _, h3, h4⟩ := h.spot (by omega)
  exact ⟨b, o, hl, h1, h3, h4 k _ (by simp [ICs, hl])⟩
theorem Lz.iclen {X : Nat → Prop} {w : World} {A : Option Addr} {n : Nat} {l : List Int} (h : Lz X w 1 A n (ICs l)) : l.length = n := by
  have := h.len
  rw [ICs_length] at this
  omega
/-- The address kept outside. -/
abbrev NoX : Nat → Prop := fun _ => False
theorem rc_info : ∃ i, Try.prog.info? 50 = some i ∧ i.zero = some (.agg (rcA zrc)) ∧ i.size = 4 ∧ i.bytes = 24 := ⟨_, rfl, by kernel_rfl, rfl, rfl⟩
theorem int_info : ∃ i, Try.prog.info? 3 = some i ∧ i.zero = some (.int .i64 0) ∧ i.size = 1 ∧ i.bytes = 8 := ⟨_, rfl, rfl, rfl, rfl⟩
theorem strBk : Str 44 6 := ⟨_, Try.underlying44, rfl, by kernel_rfl⟩
theorem own_cells {w : World} {base : Nat} {e : TypeId} {size : Nat} {v : Value} {n : Nat} {xs : List Value} (h : w.ownsRow base e size v n xs) {g : Nat} (hg : v.ownBlock = some g) : base ≤ g ∧ ∃ cur, w.heap[g]? = some (.cells cur e (0, 0)) := by
  rcases h.2 with ⟨rfl, _⟩ | ⟨g', cap, cur, hv, hbg, hg', _⟩
  · cases hg
  · rw [hv] at hg
    injection hg with hg
    subst hg
    exact ⟨hbg, cur, hg'⟩
/-- A block of cells of one type is not the row of another. -/
theorem own_ne {w : World} {base : Nat} {e : TypeId} {size : Nat} {v : Value} {n : Nat} {xs : List Value} (h : w.ownsRow base e size v n xs) {g : Nat} {t : TypeId} {cs : Array Value} (ha : At w g t cs) (ht : t ≠ e) : some g ≠ v.ownBlock := by
  intro hg
  obtain ⟨_, cur, hc⟩ := own_cells h hg.symm
  rw [show w.heap[g]? = some (.cells cs t (0, 0)) from ha] at hc
  injection hc with hc
  injection hc with _ hc
  exact ht hc

theorem row_ne {W : World} {B B' s s' m m' : Nat} {e e' : TypeId} {v v' : Value} {xs xs' : List Value} (h : W.ownsRow B e s v m xs) (h' : W.ownsRow B' e' s' v' m' xs') (hne : e ≠ e') {k : Nat} (hk : v.ownBlock = some k) : v'.ownBlock ≠ some k := fun hk' => by
  obtain ⟨_, cur, h1⟩ := own_cells h hk
  obtain ⟨_, cur', h2⟩ := own_cells h' hk'
  rw [h1] at h2
  injection h2 with h2
  injection h2 with _ h2
  exact hne h2
end Go.Proofs.Ytgjkbnplpioloaa
