/-
  A map in memory by its keys: what a look-up, a store and a delete make of it.
  Conditions: none beyond those that each theorem names.
-/
import Derived.Maps.RangeWalk
import Derived.DeepKeys4
import Derived.WalkKit
import Derived.Lib.Hide
namespace Go.Proofs.Ytnkphpjnhjbokaa
open Go.RowKit Go.MapKept
open Go.ChangeMaps (setBlock heap_setBlock_same heap_setBlock_other)
open Go.Maps (Keyed)

/-- A key's type, and the plain keys that it is read by. -/
structure KeyT (P : Program) (k : TypeId) {α : Type} (key : α → Value) (ok : α → Prop) : Prop where
  K : Keyed P k
  inj : ∀ a b, key a = key b → a = b
  lit : ∀ a, ok a → ∃ l, keyOf P k (key a) = some l
/-- What the entries give, each by its place. -/
structure Ents {α : Type} (key : α → Value) (ok : α → Prop) (es : Array MapEntry) (f : α → Option Value) : Prop where
  back : ∀ (i : Nat) e, es[i]? = some e → ∃ a, ok a ∧ e.key = key a ∧ f a = some e.val
  there : ∀ a v, f a = some v → ∃ (i : Nat) (e : MapEntry), es[i]? = some e ∧ e.key = key a
  once : ∀ (i j : Nat) (x y : MapEntry), es[i]? = some x → es[j]? = some y → x.key = y.key → i = j
/-- Block b holds a map that gives f. -/
def MapAt {α : Type} (key : α → Value) (ok : α → Prop) (w : World) (b : Nat) (f : α → Option Value) : Prop :=
  ∃ (es : Array MapEntry) (clock : Nat), w.heap[b]? = some (.map es clock) ∧ Stamped es clock ∧ Ents key ok es f
def updF {α β : Type} [DecidableEq α] (f : α → Option β) (a : α) (b : Option β) : α → Option β := fun x => if x = a then b else f x
def lookV (z : Value) : Option Value → Bool → Value
  | some v, c => if c then .tuple #[v, .bool true] else v
  | none, c => if c then .tuple #[z, .bool false] else z
section
variable {P : Program} {k t e : TypeId} {α : Type} {key : α → Value} {ok : α → Prop} {w w' : World} {b : Nat} {f : α → Option Value}
theorem MapAt.lt (h : MapAt key ok w b f) : b < w.heap.size := by
  obtain ⟨es, clock, hb, _⟩ := h
  exact (Array.getElem?_eq_some_iff.1 hb).1
theorem MapAt.move (h : MapAt key ok w b f) (hb : w'.heap[b]? = w.heap[b]?) : MapAt key ok w' b f := by
  obtain ⟨es, clock, h1, h2⟩ := h
  exact ⟨es, clock, hb.trans h1, h2⟩
theorem MapAt.kept {row : Option Nat} (h : MapAt key ok w b f) (hg : w.grownBy w' row) (hne : some b ≠ row) : MapAt key ok w' b f := h.move (hg.block b h.lt hne)
theorem MapAt.made (w : World) : MapAt key ok (w.alloc (.map #[] 0)) w.heap.size fun _ => none :=
  ⟨#[], 0, heap_alloc_new w _, stamped_empty 0, ⟨fun i e h => (by simp at h), fun a v h => (by cases h), fun i j x y h => (by simp at h)⟩⟩
theorem MapAt.ext {g : α → Option Value} (h : MapAt key ok w b f) (hg : ∀ a, f a = g a) : MapAt key ok w b g := by rwa [← funext hg]
theorem mem_at {es : Array MapEntry} {x : MapEntry} (hx : x ∈ es.toList) : ∃ i : Nat, es[i]? = some x := by
  obtain ⟨i, hi, rfl⟩ := List.getElem_of_mem hx
  exact ⟨i, by simp at hi; simp [hi]⟩
/-- A key is found where it is, and nowhere else. -/
theorem Ents.find (T : KeyT P k key ok) {es : Array MapEntry} (h : Ents key ok es f) (w : World) {a : α} (ha : ok a) :
    ((Instr.findKey k (key a) es.toList).run P w = .ok none w ∧ f a = none ∧ ∀ (i : Nat) e, es[i]? = some e → e.key ≠ key a) ∨
    ∃ j e0, (Instr.findKey k (key a) es.toList).run P w = .ok (some (j, e0.val)) w ∧ es[j]? = some e0 ∧ e0.key = key a ∧ f a = some e0.val := by
  obtain ⟨l, hl⟩ := T.lit a ha
  have hkeys : ∀ e ∈ es.toList, ∃ l, keyOf P k e.key = some l := fun x hx => by
    obtain ⟨i, hi⟩ := mem_at hx
    obtain ⟨a', h1, h2, _⟩ := h.back i x hi
    rw [h2]
    exact T.lit a' h1
  rcases T.K.find w hl es.toList hkeys with ⟨r1, r2⟩ | ⟨j, e0, r1, r2, r3⟩
  · refine .inl ⟨r1, ?_, fun i e hi => r2 e (by simpa using Array.mem_of_getElem? hi)⟩
    cases hf : f a with
    | none => rfl
    | some v =>
      obtain ⟨i, e, hi, hk⟩ := h.there a v hf
      exact absurd hk (r2 e (by simpa using Array.mem_of_getElem? hi))
  · have hj : es[j]? = some e0 := by simpa using r2
    obtain ⟨a', _, h2, h3⟩ := h.back j e0 hj
    have : a' = a := T.inj _ _ (by rw [← h2, r3])
    rw [this] at h3
    exact .inr ⟨j, e0, r1, hj, r3, h3⟩
theorem MapAt.look (T : KeyT P k key ok) (ht : P.underlying t = some (.map k e)) {z : Value} (hz : (zeroValue e).run P w = .ok z w) (h : MapAt key ok w b f) (c : Bool) {a : α} (ha : ok a) :
    (Instr.lookup t (.map (some b)) (key a) c).run P w = .ok (lookV z (f a) c) w := by
  obtain ⟨es, clock, hb, _, h1⟩ := h
  obtain ⟨l, hl⟩ := T.lit a ha
  rcases h1.find T w ha with ⟨r1, r2, _⟩ | ⟨j, e0, r1, _, _, r2⟩
  · rw [r2]
    cases c <;> simp [Instr.lookup, run_underlying ht, MapKept.run_getObj_map hb, T.K.check w _ hl, r1, hz, Result.andThen, lookV]
  · rw [r2]
    cases c <;> simp [Instr.lookup, run_underlying ht, MapKept.run_getObj_map hb, T.K.check w _ hl, r1, Result.andThen, lookV]
theorem set_grown (w : World) {b : Nat} {es : Array MapEntry} {clock : Nat} (hb : w.heap[b]? = some (.map es clock)) (o : Obj) : w.grownBy (setBlock w b o) (some b) :=
  ⟨rfl, rfl, rfl, Nat.le_of_eq (by simp [setBlock]), fun i _ hi => heap_setBlock_other hb _ fun e => hi (congrArg some e)⟩
variable [DecidableEq α]
theorem Ents.push {es : Array MapEntry} (h : Ents key ok es f) {a : α} (ha : ok a) (hn : ∀ (i : Nat) e, es[i]? = some e → e.key ≠ key a) (v : Value) (n : Nat) : Ents key ok (es.push ⟨key a, v, n⟩) (updF f a (some v)) := by
  have at_ : ∀ (i : Nat) x, (es.push ⟨key a, v, n⟩)[i]? = some x → es[i]? = some x ∨ (i = es.size ∧ x = ⟨key a, v, n⟩) := fun i x hx => by
    rw [Array.getElem?_push] at hx
    split at hx
    · next e => exact .inr ⟨e, (Option.some.inj hx).symm⟩
    · exact .inl hx
  have on : ∀ (i : Nat) x, es[i]? = some x → (es.push ⟨key a, v, n⟩)[i]? = some x := fun i x hx => by
    have := (Array.getElem?_eq_some_iff.1 hx).1
    rw [Array.getElem?_push, if_neg (by omega), hx]
  refine ⟨fun i x hx => ?_, fun a' u hu => ?_, fun i j x y hx hy he => ?_⟩
  · rcases at_ i x hx with hx | ⟨_, rfl⟩
    · obtain ⟨a', q1, q2, q3⟩ := h.back i x hx
      exact ⟨a', q1, q2, by unfold updF; rw [if_neg fun e => hn i x hx (by rw [q2, e])]; exact q3⟩
    · exact ⟨a, ha, rfl, by simp [updF]⟩
  · by_cases e : a' = a
    · exact ⟨es.size, ⟨key a, v, n⟩, by simp, by rw [e]⟩
    · unfold updF at hu
      rw [if_neg e] at hu
      obtain ⟨i, x, hx, hk⟩ := h.there a' u hu
      exact ⟨i, x, on i x hx, hk⟩
  · rcases at_ i x hx with hx | ⟨rfl, rfl⟩ <;> rcases at_ j y hy with hy | ⟨rfl, rfl⟩
    · exact h.once i j x y hx hy he
    · exact absurd he (hn i x hx)
    · exact absurd he.symm (hn j y hy)
    · rfl
theorem Ents.put (T : KeyT P k key ok) {es : Array MapEntry} (h : Ents key ok es f) {a : α} (ha : ok a) {j : Nat} {e0 : MapEntry} (hj : es[j]? = some e0) (hk : e0.key = key a) (v : Value) (g : MapEntry → MapEntry) (hg : g e0 = { e0 with key := key a, val := v }) : Ents key ok (es.modify j g) (updF f a (some v)) := by
  have at_ : ∀ (i : Nat) x, (es.modify j g)[i]? = some x → (i = j ∧ x = g e0) ∨ (i ≠ j ∧ es[i]? = some x) := fun i x hx => by
    rw [Array.getElem?_modify] at hx
    by_cases e : j = i
    · subst e
      rw [if_pos rfl, hj] at hx
      exact .inl ⟨rfl, (Option.some.inj hx).symm⟩
    · rw [if_neg e] at hx
      exact .inr ⟨Ne.symm e, hx⟩
  have off : ∀ (i : Nat) x, i ≠ j → es[i]? = some x → x.key ≠ key a := fun i x hi hx e => hi (h.once i j x e0 hx hj (by rw [e, hk]))
  refine ⟨fun i x hx => ?_, fun a' u hu => ?_, fun i i' x y hx hy he => ?_⟩
  · rcases at_ i x hx with ⟨rfl, rfl⟩ | ⟨hi, hx⟩
    · exact ⟨a, ha, by rw [hg], by rw [hg]; simp [updF]⟩
    · obtain ⟨a', q1, q2, q3⟩ := h.back i x hx
      exact ⟨a', q1, q2, by unfold updF; rw [if_neg fun e => off i x hi hx (by rw [q2, e])]; exact q3⟩
  · by_cases e : a' = a
    · exact ⟨j, g e0, by rw [Array.getElem?_modify, if_pos rfl, hj]; rfl, by rw [hg, e]⟩
    · unfold updF at hu
      rw [if_neg e] at hu
      obtain ⟨i, x, hx, hk'⟩ := h.there a' u hu
      refine ⟨i, x, ?_, hk'⟩
      rw [Array.getElem?_modify, if_neg, hx]
      rintro rfl
      rw [hj] at hx
      cases hx
      exact e (T.inj _ _ (by rw [← hk', hk]))
  · rcases at_ i x hx with ⟨rfl, rfl⟩ | ⟨hi, hx2⟩ <;> rcases at_ i' y hy with ⟨rfl, rfl⟩ | ⟨hi', hy2⟩
    · rfl
    · rw [hg] at he
      exact absurd he.symm (off i' y hi' hy2)
    · rw [hg] at he
      exact absurd he (off i x hi hx2)
    · exact h.once i i' x y hx2 hy2 he
theorem Ents.del (T : KeyT P k key ok) {es : Array MapEntry} (h : Ents key ok es f) {a : α} {j : Nat} {e0 : MapEntry} (hj : es[j]? = some e0) (hk : e0.key = key a) : Ents key ok (es.eraseIdxIfInBounds j) (updF f a none) := by
  have hjs := (Array.getElem?_eq_some_iff.1 hj).1
  have get : ∀ i : Nat, (es.eraseIdxIfInBounds j)[i]? = if i < j then es[i]? else es[i + 1]? := fun i => by
    unfold Array.eraseIdxIfInBounds
    rw [dif_pos hjs, Array.getElem?_eraseIdx]
  have at_ : ∀ (i : Nat) x, (es.eraseIdxIfInBounds j)[i]? = some x → ∃ i', i' ≠ j ∧ es[i']? = some x ∧ i' = if i < j then i else i + 1 := fun i x hx => by
    rw [get] at hx
    by_cases e : i < j
    · rw [if_pos e] at hx
      exact ⟨i, by omega, hx, by rw [if_pos e]⟩
    · rw [if_neg e] at hx
      exact ⟨i + 1, by omega, hx, by rw [if_neg e]⟩
  have off : ∀ (i : Nat) x, i ≠ j → es[i]? = some x → x.key ≠ key a := fun i x hi hx e => hi (h.once i j x e0 hx hj (by rw [e, hk]))
  refine ⟨fun i x hx => ?_, fun a' u hu => ?_, fun i i' x y hx hy he => ?_⟩
  · obtain ⟨i', hi', hx', _⟩ := at_ i x hx
    obtain ⟨a', q1, q2, q3⟩ := h.back i' x hx'
    exact ⟨a', q1, q2, by unfold updF; rw [if_neg fun e => off i' x hi' hx' (by rw [q2, e])]; exact q3⟩
  · by_cases e : a' = a
    · unfold updF at hu
      rw [if_pos e] at hu
      cases hu
    · unfold updF at hu
      rw [if_neg e] at hu
      obtain ⟨i, x, hx, hk'⟩ := h.there a' u hu
      have hij : i ≠ j := by
        rintro rfl
        rw [hj] at hx
        cases hx
        exact e (T.inj _ _ (by rw [← hk', hk]))
      by_cases hl : i < j
      · exact ⟨i, x, by rw [get, if_pos hl, hx], hk'⟩
      · refine ⟨i - 1, x, ?_, hk'⟩
        rw [get, if_neg (by omega), show i - 1 + 1 = i by omega, hx]
  · obtain ⟨p, _, hp, ep⟩ := at_ i x hx
    obtain ⟨q, _, hq, eq⟩ := at_ i' y hy
    have := h.once p q x y hp hq he
    split at ep <;> split at eq <;> omega
theorem MapAt.store (T : KeyT P k key ok) (ht : P.underlying t = some (.map k e)) (h : MapAt key ok w b f) {a : α} (ha : ok a) (v : Value) :
    ∃ w', (Instr.mapUpdate t (.map (some b)) (key a) v).run P w = .ok () w' ∧ MapAt key ok w' b (updF f a (some v)) ∧ w.grownBy w' (some b) := by
  obtain ⟨es, clock, hb, hst, h1⟩ := h
  obtain ⟨l, hl⟩ := T.lit a ha
  rcases h1.find T w ha with ⟨r1, _, r2⟩ | ⟨j, e0, r1, hj, r3, _⟩
  · refine ⟨setBlock w b (.map (es.push ⟨key a, v, clock⟩) (clock + 1)), ?_, ⟨_, _, heap_setBlock_same hb _, stamped_push hst fun x hx => ?_, h1.push ha r2 v clock⟩, set_grown w hb _⟩
    · simp [Instr.mapUpdate, run_underlying ht, MapKept.run_getObj_map hb, T.K.check w false hl, r1, MapKept.run_setObj_map _ hb, Result.andThen, setBlock]
    · obtain ⟨i, hi⟩ := mem_at hx
      exact r2 i x hi
  · refine ⟨setBlock w b (.map (es.modify j fun x => { x with key := key a, val := v }) clock), ?_, ⟨_, _, heap_setBlock_same hb _, stamped_modify hst _ _ (fun _ _ => rfl) (fun x _ hx => ?_), h1.put T ha hj r3 v _ rfl⟩, set_grown w hb _⟩
    · simp [Instr.mapUpdate, run_underlying ht, MapKept.run_getObj_map hb, T.K.check w false hl, r1, hj, r3, T.K.stays w hl, MapKept.run_setObj_map _ hb, Result.andThen, setBlock]
    · rw [hj] at hx
      cases hx
      exact r3.symm
theorem MapAt.drop (T : KeyT P k key ok) (ht : P.underlying t = some (.map k e)) (h : MapAt key ok w b f) {a : α} (ha : ok a) (ty : TypeId) :
    ∃ w', (Builtin.delete_ #[t, k] ty #[.map (some b), key a]).run P w = .ok (.tuple #[]) w' ∧ MapAt key ok w' b (updF f a none) ∧ w.grownBy w' (some b) := by
  obtain ⟨es, clock, hb, hst, h1⟩ := h
  obtain ⟨l, hl⟩ := T.lit a ha
  rcases h1.find T w ha with ⟨r1, r0, _⟩ | ⟨j, e0, r1, hj, r3, _⟩
  · refine ⟨setBlock w b (.map es clock), ?_, ⟨_, _, heap_setBlock_same hb _, hst, ?_⟩, set_grown w hb _⟩
    · simp [Builtin.delete_, run_underlying ht, MapKept.run_getObj_map hb, T.K.check w _ hl, r1, MapKept.run_setObj_map _ hb, Result.andThen, setBlock]
    · have : updF f a none = f := by
        funext x
        unfold updF
        split
        · next e => rw [e, r0]
        · rfl
      rw [this]
      exact h1
  · refine ⟨setBlock w b (.map (es.eraseIdxIfInBounds j) clock), ?_, ⟨_, _, heap_setBlock_same hb _, stamped_erase hst j, h1.del T hj r3⟩, set_grown w hb _⟩
    simp [Builtin.delete_, run_underlying ht, MapKept.run_getObj_map hb, T.K.check w _ hl, r1, MapKept.run_setObj_map _ hb, Result.andThen, setBlock]
end
section
variable {P : Program} {k t e : TypeId} {α : Type} {key : α → Value} {ok : α → Prop} {w : World} {b : Nat} {f : α → Option Value}
variable {ops : Array Oper} {rest : List Oper} {o : Oper} {a : Act} {Q : Exit → Act → World → Prop}
theorem wpList_look (hg : o.guard = none) (d : Nat) (hd : o.dst = some d) (m x : Operand) (c : Bool) (hop : o.op = Op.lookup t m x c) (T : KeyT P k key ok) (ht : P.underlying t = some (.map k e)) (z : Value) (hz : (zeroValue e).run P w = .ok z w)
    (hm : a.eval m = .map (some b)) (h : MapAt key ok w b f) (i : α) (hx : a.eval x = key i) (hi : ok i) (v : Value) (hv : lookV z (f i) c = v)
    (hK : wpList P ops Q rest (a.put (some d) v) w) : wpList P ops Q (o :: rest) a w := by
  refine wpList_plain hg fun K' hK' => ?_
  have hrun := h.look T ht hz c hi
  rw [hv] at hrun
  unfold Oper.wp
  simp [execOp, hop, hm, hx, hrun, Result.andThen]
  exact hK' _ _ (by rw [hd]; exact hK)
variable [DecidableEq α]
theorem wpList_mapStore (hg : o.guard = none) (m x y : Operand) (hop : o.op = Op.mapUpdate t m x y) (T : KeyT P k key ok) (ht : P.underlying t = some (.map k e))
    (hm : a.eval m = .map (some b)) (h : MapAt key ok w b f) (i : α) (hx : a.eval x = key i) (hi : ok i) (v : Value) (hv : a.eval y = v)
    (hK : ∀ w', MapAt key ok w' b (updF f i (some v)) → w.grownBy w' (some b) → wpList P ops Q rest (a.put o.dst undef) w') : wpList P ops Q (o :: rest) a w := by
  refine wpList_plain hg fun K' hK' => ?_
  obtain ⟨w', hrun, r1, r2⟩ := h.store T ht hi v
  unfold Oper.wp
  simp [execOp, hop, hm, hx, hv, hrun, Result.andThen]
  exact hK' _ _ (hK w' r1 r2)
theorem wpList_mapDrop (hg : o.guard = none) (m x : Operand) (hop : o.op = Op.call { callee := Callee.builtin Builtin.delete, args := #[m, x], argTypes := #[t, k] }) (T : KeyT P k key ok) (ht : P.underlying t = some (.map k e))
    (hm : a.eval m = .map (some b)) (h : MapAt key ok w b f) (i : α) (hx : a.eval x = key i) (hi : ok i)
    (hK : ∀ w', MapAt key ok w' b (updF f i none) → w.grownBy w' (some b) → wpList P ops Q rest (a.put o.dst (.tuple #[])) w') : wpList P ops Q (o :: rest) a w := by
  refine wpList_plain hg fun K' hK' => ?_
  obtain ⟨w', hrun, r1, r2⟩ := h.drop T ht hi o.type
  unfold Oper.wp
  simp [execOp, hop, resolve, invoke, builtin, hm, hx, hrun, Result.andThen]
  exact hK' _ _ (hK w' r1 r2)
end
end Go.Proofs.Ytnkphpjnhjbokaa
