/-
  The iterator of maps.Keys over a map of numbers: each key once.
  Conditions: none beyond those that each theorem names.
-/
import Derived.Test.YtnkphpjnhjbokaaSR
import Derived.Test.YtnkphpjnhjbokaaSM
import Derived.RangeFuncNested
import Derived.RangeFuncBound
import Derived.RangeFuncCalls
import Derived.RangeFuncLeaves
import Derived.Sort.MapsRangeIn
import Derived.OwnWalkIn
import Derived.TacticsInMore
import Derived.RegionIn
import Derived.LoopNIn
import Derived.LoopIn
namespace Go.Proofs.Ytnkphpjnhjbokaa
open Go.RowKit Go.Shelf
open Go.MapKept (Stamped stamped_iff)
open Go.ChangeMaps (setBlock)
attribute [local go_sem] Oper.semAt_some
set_option maxRecDepth 20000

/-- A range over the map at b under way: block r is its iterator; ks: the keys that have come. -/
def RgS (w : World) (b r : Nat) (f : Nat → Option Value) (ks : List Nat) : Prop :=
  ∃ (es : Array MapEntry) (clock since : Nat) (seen : Array Nat) (c0 : Nat), w.heap[b]? = some (.map es clock) ∧ Stamped es clock ∧ Ents u64V U64 es f ∧ w.heap[r]? = some (.mapIter (some b) since seen c0) ∧ (∀ x ∈ es.toList, x.born < since) ∧ since ≤ c0 ∧ since ≤ clock ∧
    ks.Nodup ∧ (∀ x ∈ es.toList, seen.contains x.born = true ↔ ∃ a ∈ ks, x.key = u64V a) ∧ ∀ a ∈ ks, ∃ x ∈ es.toList, x.key = u64V a
theorem RgS.walks {w w' : World} {b r : Nat} {f : Nat → Option Value} {ks : List Nat} (h : RgS w b r f ks) (hk : KeepsWalks w w') : RgS w' b r f ks ∧ w'.rangeLeft b r = w.rangeLeft b r := by
  obtain ⟨es, clock, since, seen, c0, h1, h2, h3, h4, h5⟩ := h
  have e1 := hk.same b _ h1 rfl
  have e4 := hk.same r _ h4 rfl
  refine ⟨⟨es, clock, since, seen, c0, e1, h2, h3, e4, h5⟩, ?_⟩
  simp only [World.rangeLeft, e1, e4, h1, h4]
theorem RgS.iter {w : World} {b r : Nat} {f : Nat → Option Value} {ks : List Nat} (h : RgS w b r f ks) : ∃ o : Obj, w.heap[r]? = some o ∧ o.isWalk = true := by
  obtain ⟨es, clock, since, seen, c0, _, _, _, h4, _⟩ := h
  exact ⟨_, h4, rfl⟩
theorem MapAt.range {w : World} {b : Nat} {f : Nat → Option Value} (h : MapAt u64V U64 w b f) {t k e : TypeId} (ht : Try.prog.underlying t = some (.map k e)) :
    ∃ w', (Instr.range t (.map (some b))).run Try.prog w = .ok (.pointer (some ⟨w.heap.size, 0, none⟩)) w' ∧ RgS w' b w.heap.size f [] ∧ w.grownBy w' none ∧ w'.heap.size = w.heap.size + 1 := by
  have hlt := h.lt
  obtain ⟨es, clock, hb, hs, he⟩ := h
  refine ⟨_, run_range_map w t k e b es clock ht hb, ⟨es, clock, clock, #[], clock, ((MapKept.heap_alloc w _).2 b hlt).trans hb, hs, he, (MapKept.heap_alloc w _).1, ?_, Nat.le_refl _, Nat.le_refl _, List.nodup_nil, fun x _ => by simp, fun a ha => by simp at ha⟩, World.grownBy_alloc w _ none, by simp⟩
  exact ((stamped_iff es clock).1 hs).1
theorem RgS.next {w : World} {b r : Nat} {f : Nat → Option Value} {ks : List Nat} (h : RgS w b r f ks) (ty : TypeId) :
    ((∀ a, a ∈ ks ↔ (f a).isSome = true) ∧ ks.Nodup ∧ (Instr.next (.pointer (some ⟨r, 0, none⟩)) false ty).run Try.prog w = .ok (.tuple #[.bool false]) w) ∨
    ∃ a v w', (f a).isSome = true ∧ (ks ++ [a]).Nodup ∧ (∀ x ∈ ks, (f x).isSome = true) ∧ (Instr.next (.pointer (some ⟨r, 0, none⟩)) false ty).run Try.prog w = .ok (.tuple #[.bool true, u64V a, v]) w' ∧ RgS w' b r f (ks ++ [a]) ∧ w'.rangeLeft b r < w.rangeLeft b r ∧ w.grownBy w' (some r) ∧
      (Instr.entry (.pointer (some ⟨r, 0, none⟩))).run Try.prog w' = .ok (.tuple #[u64V a, v]) w' := by
  obtain ⟨es, clock, since, seen, c0, hb, hs, he, hr, hold, hsc, hsk, hn, hs1, hs2⟩ := h
  have hne : r ≠ b := fun e => by rw [e, hb] at hr; cases hr
  have inj : ∀ a b : Nat, u64V a = u64V b → a = b := keyT_u64.inj
  have some_of : ∀ a, (∃ x ∈ es.toList, x.key = u64V a) → (f a).isSome = true := fun a ⟨x, hx, hk⟩ => by
    obtain ⟨i, hi⟩ := mem_at hx
    obtain ⟨a', _, q2, q3⟩ := he.back i x hi
    have : a' = a := inj _ _ (by rw [← q2, hk])
    rw [← this, q3]
    rfl
  rcases run_next_at (P := Try.prog) w ty r b since c0 seen es clock hr hb hold hsc with ⟨h0, hrun⟩ | ⟨e, hel, w1, hal, hrun⟩
  · refine .inl ⟨fun a => ⟨fun ha => some_of a (hs2 a ha), fun ha => ?_⟩, hn, hrun⟩
    cases hf : f a with
    | none => rw [hf] at ha; cases ha
    | some v =>
      obtain ⟨i, x, hi, hk⟩ := he.there a v hf
      have hx : x ∈ es.toList := by simpa using Array.mem_of_getElem? hi
      obtain ⟨a', ha', hk'⟩ := (hs1 x hx).1 (by simpa using all_seen es seen h0 x hx)
      rw [inj a a' (by rw [← hk, hk'])]
      exact ha'
  · obtain ⟨hem, hes⟩ := mem_left hel
    obtain ⟨i, hi⟩ := mem_at hem
    obtain ⟨a, _, q2, q3⟩ := he.back i e hi
    have hst := (stamped_iff es clock).1 hs
    have hnew : a ∉ ks := fun ha => by
      have := (hs1 e hem).2 ⟨a, ha, q2⟩
      rw [hes] at this
      cases this
    have hr1 : w1.heap[r]? = some (.mapIter (some b) since seen c0) := by rcases hal with rfl | rfl <;> exact hr
    have hb1 : w1.heap[b]? = some (.map es clock) := by rcases hal with rfl | rfl <;> exact hb
    have hset := Go.MapKept.heap_set (o' := .mapIter (some b) since (seen.push e.born) clock) hr1
    have hrs : (setBlock w1 r (.mapIter (some b) since (seen.push e.born) clock)).heap[r]? = some (.mapIter (some b) since (seen.push e.born) clock) := hset.1
    have hbs : (setBlock w1 r (.mapIter (some b) since (seen.push e.born) clock)).heap[b]? = some (.map es clock) := (hset.2 b (fun e1 => hne e1.symm)).trans hb1
    refine .inr ⟨a, e.val, _, by rw [q3]; rfl, List.nodup_append.2 ⟨hn, by simp, fun x hx y hy => by simp at hy; subst hy; exact fun e2 => hnew (e2 ▸ hx)⟩, fun x hx => some_of x (hs2 x hx), by rw [← q2]; exact hrun, ⟨es, clock, since, seen.push e.born, clock, hbs, hs, he, hrs, hold, hsk, hsk, ?_, fun x hx => ?_, fun x hx => ?_⟩, ?_, ?_, ?_⟩
    · exact List.nodup_append.2 ⟨hn, by simp, fun x hx y hy => by simp at hy; subst hy; exact fun e2 => hnew (e2 ▸ hx)⟩
    · rw [contains_push]
      constructor
      · intro h
        rw [Bool.or_eq_true] at h
        rcases h with h | h
        · obtain ⟨a', h1, h2⟩ := (hs1 x hx).1 h
          exact ⟨a', List.mem_append_left _ h1, h2⟩
        · have hb : x.born = e.born := by simpa using h
          have := born_inj hst.2.1 hx hem hb
          subst this
          exact ⟨a, by simp, q2⟩
      · rintro ⟨a', h1, h2⟩
        rcases List.mem_append.1 h1 with h1 | h1
        · rw [(hs1 x hx).2 ⟨a', h1, h2⟩]
          rfl
        · have : a' = a := by simpa using h1
          subst this
          obtain ⟨j, hj⟩ := mem_at hx
          have hij := he.once j i x e hj hi (by rw [h2, q2])
          subst hij
          rw [hj] at hi
          cases hi
          simp
    · rcases List.mem_append.1 hx with h1 | h1
      · exact hs2 x h1
      · have : x = a := by simpa using h1
        subst this
        exact ⟨e, hem, q2⟩
    · simp only [World.rangeLeft, hbs, hrs, hb, hr]
      exact left_shrinks es seen e hel
    · rcases hal with rfl | rfl <;> exact ⟨rfl, rfl, rfl, by simp [setBlock], fun i _ hi => hset.2 i (fun e1 => hi (by rw [e1]))⟩
    · rw [← q2]
      exact run_entry_at _ r b since seen es clock e hrs hbs hem hst.2.1
end Go.Proofs.Ytnkphpjnhjbokaa
