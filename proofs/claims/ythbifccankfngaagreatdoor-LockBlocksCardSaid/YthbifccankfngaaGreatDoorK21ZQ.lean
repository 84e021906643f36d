/-
  slices.SortFunc on a row of resources of the call's own: it holds the same, rising.
  Conditions: fewer than 2^62 elements.
-/
import Derived.Test.YthbifccankfngaaGreatDoorK20ZQ
namespace Go.Proofs.YthbifccankfngaaGreatDoor
open Go.RowKit Go.Shelf
set_option maxRecDepth 20000

theorem cmp_lt (a b : Rs) : ltOf cmpR a b = ltR a b := by
  obtain ⟨a1, a2⟩ := a
  obtain ⟨b1, b2⟩ := b
  unfold ltOf cmpR ltR cmpZ
  by_cases h1 : a1 < b1
  · simp [h1]
  · by_cases h2 : b1 < a1
    · have h3 : ¬ a1 = b1 := by omega
      simp [h1, h2, h3]
    · have h3 : a1 = b1 := by omega
      subst h3
      by_cases h4 : a2 < b2
      · have h5 : (a2 : Int) < (b2 : Int) := by omega
        simp [h4]
      · by_cases h5 : b2 < a2
        · simp [h4, h5]
        · simp [h4, h5]
theorem swo_R : Sort.SWO (ltOf cmpR) where
  irrefl x := by rw [cmp_lt]; exact ltR_irrefl x
  trans x y z h1 h2 := by rw [cmp_lt] at *; exact ltR_trans h1 h2
  ntrans x y z h1 h2 := by
    rw [cmp_lt] at *
    cases h : ltR x z with
    | false => rfl
    | true =>
      exfalso
      by_cases e : x = y
      · subst e; rw [h] at h2; cases h2
      · rcases ltR_total e with h3 | h3
        · rw [h3] at h1; cases h1
        · have := ltR_trans h3 h
          rw [this] at h2; cases h2
theorem flat_rs (l : List Rs) : Sort.flatK encR 2 l.toArray = (rsL l).toArray := by
  refine Sort.ext_get! (by simp [rsL_length]) fun t ht => ?_
  have ht2 : t < l.length * 2 := by simpa using ht
  rw [Sort.get_flatK encR 2 l.toArray t (by simpa using ht2)]
  have hk : t / 2 < l.length := by omega
  have hg := flat2_get (l.map rsP) (t / 2) (by simpa using hk)
  have e1 : l.toArray[t / 2]! = l[t / 2] := by simp [hk]
  rw [e1]
  have hlen : t < (rsL l).length := by rw [rsL_length]; exact ht2
  have e2 : (rsL l).toArray[t]! = (rsL l)[t] := by simp [hlen]
  rw [e2]
  rcases Nat.mod_two_eq_zero_or_one t with h | h
  · have ht3 : t / 2 * 2 = t := by omega
    have h3 := hg.1
    rw [ht3] at h3
    have h4 : (rsL l)[t]? = some (rsP l[t / 2]).1 := by simpa [rsL] using h3
    rw [List.getElem?_eq_getElem hlen] at h4
    rw [Option.some.inj h4, h]
    rfl
  · have ht3 : t / 2 * 2 + 1 = t := by omega
    have h3 := hg.2
    rw [ht3] at h3
    have h4 : (rsL l)[t]? = some (rsP l[t / 2]).2 := by simpa [rsL] using h3
    rw [List.getElem?_eq_getElem hlen] at h4
    rw [Option.some.inj h4, h]
    rfl
theorem put_take (F cur : Array Value) (h : F.size ≤ cur.size) : (Sort.putCells id 0 F cur).toList.take F.size = F.toList ∧ (Sort.putCells id 0 F cur).size = cur.size := by
  refine ⟨?_, by simp [Sort.putCells]⟩
  apply List.ext_getElem?
  intro k
  rw [List.getElem?_take]
  by_cases hk : k < F.size
  · rw [if_pos hk]
    have hc : k < cur.size := by omega
    simp [Sort.putCells, hk, hc]
  · rw [if_neg hk]
    simp
    omega
/-- The row of the call's own behind the sort. -/
theorem sort_world {w : World} {B g cap : Nat} {cur : List Value} (hb : Bk w B 33 g cap cur) {l l' : List Rs} (hc : l.length ≤ cap) (hl : l'.length = l.length) (n : Nat) (os : Array Obj) :
    (sortWorldK encR 2 w g 0 n l'.toArray os).ownsRow B 33 2 (.slice (some ⟨g, 0, none⟩) l.length cap) l.length (rsL l') ∧ w.grownBy (sortWorldK encR 2 w g 0 n l'.toArray os) (some g) := by
  have hF : (rsL l').toArray.size ≤ cur.toArray.size := by simp [rsL_length, hb.len, hl]; omega
  obtain ⟨h1, h2⟩ := put_take (rsL l').toArray cur.toArray hF
  have hlt := hb.cells.lt
  have hcells : (sortWorldK encR 2 w g 0 n l'.toArray os).heap[g]? = some (.cells (Sort.putCells id 0 (rsL l').toArray cur.toArray) 33 (0, 0)) := by
    unfold sortWorldK
    rw [Sort.heap_grow_old _ _ (by simpa [Sort.putRowK, Sort.putRow, Sort.mapBlock, Sort.ahead] using hlt)]
    unfold Sort.putRowK Sort.putRow Sort.mapBlock
    rw [flat_rs]
    simp only [Array.getElem?_modify, if_true]
    have : (Sort.ahead w n).heap[g]? = some (.cells cur.toArray 33 (0, 0)) := hb.cells
    rw [this]
    rfl
  refine ⟨⟨by rw [rsL_length, hl], .inr ⟨g, cap, _, rfl, hb.base, hcells, hc, hb.capm, ?_, ?_⟩⟩, ⟨rfl, rfl, rfl, ?_, fun k hk hne => ?_⟩⟩
  · rw [h2]
    simpa using hb.len
  · have e : (rsL l').toArray.size = l.length * 2 := by simp [rsL_length, hl]
    rw [e] at h1
    exact h1
  · simp [sortWorldK, Sort.putRowK, Sort.putRow, Sort.mapBlock, Sort.ahead]
  · unfold sortWorldK
    rw [Sort.heap_grow_old _ _ (by simpa [Sort.putRowK, Sort.putRow, Sort.mapBlock, Sort.ahead] using hk)]
    unfold Sort.putRowK Sort.putRow Sort.mapBlock
    have : g ≠ k := fun e => hne (by rw [e])
    simp only [Array.getElem?_modify, if_neg this]
    rfl
theorem ent_cmp : ∀ args w, (callFunc 23 args).run Tryz.prog w = .ok (.enter 23 args) w := enters_of Tryz.func23 (by kernel_rfl) rfl
theorem aggR : ∀ w, (isAgg 33).run Tryz.prog w = .ok true w := fun w => by kernel_rfl
theorem sizeR : ∀ w, (Go.sizeOf 33).run Tryz.prog w = .ok 2 w := fun w => by kernel_rfl
/-- A row of resources, sorted. -/
def SortR (B : Nat) (v : Value) (l : List Rs) (w : World) (e : Ending) (w' : World) : Prop :=
  e = .returned (.tuple #[]) ∧ ∃ l', l'.Perm l ∧ (l'.Pairwise fun a b => ltR b a = false) ∧ w'.ownsRow B 33 2 v l.length (rsL l') ∧ w.grownBy w' v.ownBlock
theorem sort_any (B : Nat) (v : Value) (l : List Rs) (w : World) (hown : w.ownsRow B 33 2 v l.length (rsL l)) (hn : l.length ≤ 100000) :
    Calls Tryz.prog 47 #[v, .func (.func 23) #[] #[]] w (SortR B v l w) := by
  by_cases h0 : l.length = 0
  · have hl : l = [] := List.eq_nil_of_length_eq_zero h0
    subst hl
    obtain ⟨A, c, rfl, _⟩ := pl_own_slice hown
    have := AnyF.slices_SortFunc_none (P := Tryz.prog) (ρ := laySort_ren) laySort A c (.func (.func 23) #[] #[]) w
    refine (show Calls Tryz.prog 47 _ _ _ from this).mono ?_
    rintro e w' ⟨rfl, rfl⟩
    exact ⟨rfl, [], List.Perm.refl _, List.Pairwise.nil, hown, ⟨rfl, rfl, rfl, Nat.le_refl _, fun _ _ _ => rfl⟩⟩
  · obtain ⟨g, cap, cur, rfl, hbk, hcap, hcur⟩ := own_bk hown (by omega)
    have hH : Sort.HoldsK encR 2 w g 0 l.toArray := by
      intro j hj
      rw [flat_rs] at hj ⊢
      have hj2 : j < (rsL l).length := by simpa using hj
      refine ⟨?_, hbk.cells.frozen _⟩
      have := (hbk.range hcur) j (rsL l)[j] (by rw [List.getElem?_eq_getElem hj2])
      rw [this]
      simp [hj2]
    have hcmp : CmpLays Tryz.prog 23 #[] encR 2 cmpR g 0 l.toArray.size w := fun m os dk _ x y => compare_any x y _
    have hsz : l.toArray.size < 4611686018427387904 := by simp; omega
    have hcon := AnyQ.slices_SortFunc (P := Tryz.prog) (ρ := laySort_ren) laySort 2 aggR sizeR encR (fun _ => rfl) (fun x v hv => by simp [encR] at hv; rcases hv with rfl | rfl <;> rfl) cmpR swo_R 23 #[] g 0 cap l.toArray w ent_cmp hcmp hH hbk.cells.lt hsz
    refine (show Calls Tryz.prog 47 _ _ _ from hcon).mono ?_
    rintro e w' ⟨rfl, d', n, os, hp, hs, rfl⟩
    obtain ⟨hp1, _, hp3⟩ := hp
    obtain ⟨l', rfl⟩ : ∃ l' : List Rs, d' = l'.toArray := ⟨d'.toList, by simp⟩
    have hl : l'.length = l.length := by simpa using hp1
    have hperm : l'.Perm l := by
      have e1 : (l'.toArray.extract 0 l.toArray.size).toList = l' := by simp [← hl]
      have e2 : (l.toArray.extract 0 l.toArray.size).toList = l := by simp
      rw [e1, e2] at hp3
      exact hp3
    have hpw : l'.Pairwise fun a b => ltR b a = false := by
      rw [List.pairwise_iff_getElem]
      intro i j hi hj hij
      have := hs i j (Nat.zero_le _) hij (by simp; omega)
      rw [cmp_lt] at this
      simpa [hi, hj] using this
    obtain ⟨hw1, hw2⟩ := sort_world hbk hcap hl n os
    exact ⟨rfl, l', hperm, hpw, hw1, hw2⟩
end Go.Proofs.YthbifccankfngaaGreatDoor
