/-
  slices.SortFunc, slices.Clone at arcs; graphOf.
  Conditions: at most 100000 arcs.
-/
import Derived.Test.YtnkphpjnhjbokaaSB
import Derived.Test.YtnkphpjnhjbokaaCI
import Derived.Lib.SmallJoins
namespace Go.Proofs.Ytnkphpjnhjbokaa
open Go.RowKit Go.Shelf
attribute [local go_sem] Oper.semAt_some
set_option maxRecDepth 20000

structure Bk (w : World) (B : Nat) (e : TypeId) (g cap : Nat) (cur : List Value) : Prop where
  base : B ≤ g
  cells : At w g e cur.toArray
  capm : cap ≤ maxLen
  len : cur.length = cap * 2
theorem own_bk {w : World} {B n : Nat} {e : TypeId} {xs : List Value} {v : Value} (h : w.ownsRow B e 2 v n xs) (hn : 0 < n) : ∃ g cap cur, v = .slice (some ⟨g, 0, none⟩) n cap ∧ Bk w B e g cap cur ∧ n ≤ cap ∧ cur.take (n * 2) = xs := by
  rcases h.2 with ⟨_, h0⟩ | ⟨g, cap, cur, rfl, hb, hg, hc, hm, hs, ht⟩
  · omega
  · exact ⟨g, cap, cur.toList, rfl, ⟨hb, hg, hm, by simpa using hs⟩, hc, ht⟩
def ltA (a b : Ar) : Bool := decide (a.1 < b.1) || (a.1 == b.1 && decide (a.2 < b.2))
theorem ltA_iff {a b : Ar} : ltA a b = true ↔ a.1 < b.1 ∨ (a.1 = b.1 ∧ a.2 < b.2) := by simp [ltA]
theorem ltA_not {a b : Ar} (h : ltA b a = false) : arLe a b := by
  have : ¬ (b.1 < a.1 ∨ (b.1 = a.1 ∧ b.2 < a.2)) := fun hh => by
    rw [ltA_iff.2 hh] at h
    cases h
  unfold arLe
  omega
theorem cmp_lt (a b : Ar) : ltOf cmpA a b = ltA a b := by
  obtain ⟨a1, a2⟩ := a
  obtain ⟨b1, b2⟩ := b
  unfold ltOf cmpA ltA cmpZ
  by_cases h1 : a1 < b1
  · have : (a1 : Int) < (b1 : Int) := by omega
    simp [h1]
  · by_cases h2 : b1 < a1
    · have h3 : ¬ a1 = b1 := by omega
      simp [h1, h2, h3]
    · have h3 : a1 = b1 := by omega
      subst h3
      by_cases h4 : a2 < b2
      · simp [h4]
      · by_cases h5 : b2 < a2
        · simp [h4, h5]
        · simp [h4, h5]
theorem swo_A : Sort.SWO (ltOf cmpA) where
  irrefl x := by
    rw [cmp_lt]
    cases h : ltA x x with
    | false => rfl
    | true =>
      have := ltA_iff.1 h
      omega
  trans x y z h1 h2 := by
    rw [cmp_lt] at *
    have h3 := ltA_iff.1 h1
    have h4 := ltA_iff.1 h2
    exact ltA_iff.2 (by omega)
  ntrans x y z h1 h2 := by
    rw [cmp_lt] at *
    cases h : ltA x z with
    | false => rfl
    | true =>
      have h3 := ltA_iff.1 h
      have h4 : ¬ _ := fun hh => by rw [ltA_iff.2 hh] at h1; cases h1
      have h5 : ¬ _ := fun hh => by rw [ltA_iff.2 hh] at h2; cases h2
      omega
theorem flat_ar (l : List Ar) : Sort.flatK arV 2 l.toArray = (arL l).toArray := by
  refine Sort.ext_get! (by simp [arL_length]) fun t ht => ?_
  have ht2 : t < l.length * 2 := by simpa using ht
  rw [Sort.get_flatK arV 2 l.toArray t (by simpa using ht2)]
  have hk : t / 2 < l.length := by omega
  have e1 : l.toArray[t / 2]! = l[t / 2] := by simp [hk]
  rw [e1]
  have hlen : t < (arL l).length := by rw [arL_length]; exact ht2
  have e2 : (arL l).toArray[t]! = (arL l)[t] := by simp [hlen]
  rw [e2]
  rcases Nat.mod_two_eq_zero_or_one t with h | h
  · have h4 := arL_get l (t / 2) hk 0 _ rfl
    rw [show t / 2 * 2 + 0 = t by omega, List.getElem?_eq_getElem hlen] at h4
    rw [Option.some.inj h4, h]
    rfl
  · have h4 := arL_get l (t / 2) hk 1 _ rfl
    rw [show t / 2 * 2 + 1 = t by omega, List.getElem?_eq_getElem hlen] at h4
    rw [Option.some.inj h4, h]
    rfl
theorem put_take (F cur : Array Value) (h : F.size ≤ cur.size) : (Sort.putCells id 0 F cur).toList.take F.size = F.toList ∧ (Sort.putCells id 0 F cur).size = cur.size := by
  refine ⟨?_, by simp [Sort.putCells]⟩
  apply List.ext_getElem?
  intro k
  rw [List.getElem?_take]
  by_cases hk : k < F.size
  · rw [if_pos hk]
    have hc : k < cur.size := by omega
    simp [Sort.putCells, hk, hc]
  · rw [if_neg hk]
    simp
    omega
/-- The row of the call's own behind the sort. -/
theorem sort_world {w : World} {B g cap : Nat} {cur : List Value} (hb : Bk w B 40 g cap cur) {l l' : List Ar} (hc : l.length ≤ cap) (hl : l'.length = l.length) (n : Nat) (os : Array Obj) :
    (sortWorldK arV 2 w g 0 n l'.toArray os).ownsRow B 40 2 (.slice (some ⟨g, 0, none⟩) l.length cap) l.length (arL l') ∧ w.grownBy (sortWorldK arV 2 w g 0 n l'.toArray os) (some g) := by
  have hF : (arL l').toArray.size ≤ cur.toArray.size := by simp [arL_length, hb.len, hl]; omega
  obtain ⟨h1, h2⟩ := put_take (arL l').toArray cur.toArray hF
  have hlt := hb.cells.lt
  have hcells : (sortWorldK arV 2 w g 0 n l'.toArray os).heap[g]? = some (.cells (Sort.putCells id 0 (arL l').toArray cur.toArray) 40 (0, 0)) := by
    unfold sortWorldK
    rw [Sort.heap_grow_old _ _ (by simpa [Sort.putRowK, Sort.putRow, Sort.mapBlock, Sort.ahead] using hlt)]
    unfold Sort.putRowK Sort.putRow Sort.mapBlock
    rw [flat_ar]
    simp only [Array.getElem?_modify, if_true]
    have : (Sort.ahead w n).heap[g]? = some (.cells cur.toArray 40 (0, 0)) := hb.cells
    rw [this]
    rfl
  refine ⟨⟨by rw [arL_length, hl], .inr ⟨g, cap, _, rfl, hb.base, hcells, hc, hb.capm, ?_, ?_⟩⟩, ⟨rfl, rfl, rfl, ?_, fun k hk hne => ?_⟩⟩
  · rw [h2]
    simpa using hb.len
  · have e : (arL l').toArray.size = l.length * 2 := by simp [arL_length, hl]
    rw [e] at h1
    exact h1
  · simp [sortWorldK, Sort.putRowK, Sort.putRow, Sort.mapBlock, Sort.ahead]
  · unfold sortWorldK
    rw [Sort.heap_grow_old _ _ (by simpa [Sort.putRowK, Sort.putRow, Sort.mapBlock, Sort.ahead] using hk)]
    unfold Sort.putRowK Sort.putRow Sort.mapBlock
    have : g ≠ k := fun e => hne (by rw [e])
    simp only [Array.getElem?_modify, if_neg this]
    rfl
theorem ent_cmp : ∀ args w, (callFunc 35 args).run Try.prog w = .ok (.enter 35 args) w := enters_of Try.func35 (by kernel_rfl) rfl
theorem aggA : ∀ w, (isAgg 40).run Try.prog w = .ok true w := fun w => by kernel_rfl
theorem sizeA : ∀ w, (Go.sizeOf 40).run Try.prog w = .ok 2 w := fun w => by kernel_rfl
/-- A row of arcs, sorted. -/
def SortA (B : Nat) (v : Value) (l : List Ar) (w : World) (e : Ending) (w' : World) : Prop :=
  e = .returned (.tuple #[]) ∧ ∃ l', l'.Perm l ∧ l'.Pairwise arLe ∧ w'.ownsRow B 40 2 v l.length (arL l') ∧ w.grownBy w' v.ownBlock
theorem sort_any (B : Nat) (v : Value) (l : List Ar) (w : World) (hown : w.ownsRow B 40 2 v l.length (arL l)) (hn : l.length ≤ 100000) :
    Calls Try.prog 34 #[v, .func (.func 35) #[] #[]] w (SortA B v l w) := by
  by_cases h0 : l.length = 0
  · have hl : l = [] := List.eq_nil_of_length_eq_zero h0
    subst hl
    obtain ⟨A, c, rfl, _⟩ := own_slice hown
    have := AnyF.slices_SortFunc_none (P := Try.prog) (ρ := laySort_ren) laySort A c (.func (.func 35) #[] #[]) w
    refine (show Calls Try.prog 34 _ _ _ from this).mono ?_
    rintro e w' ⟨rfl, rfl⟩
    exact ⟨rfl, [], List.Perm.refl _, List.Pairwise.nil, hown, ⟨rfl, rfl, rfl, Nat.le_refl _, fun _ _ _ => rfl⟩⟩
  · obtain ⟨g, cap, cur, rfl, hbk, hcap, hcur⟩ := own_bk hown (by omega)
    have hH : Sort.HoldsK arV 2 w g 0 l.toArray := by
      intro j hj
      rw [flat_ar] at hj ⊢
      have hj2 : j < (arL l).length := by simpa using hj
      refine ⟨?_, hbk.cells.frozen _⟩
      rw [Nat.zero_add, hbk.cells.cell j, ← hcur]
      have hj3 : j < (cur.take (l.length * 2)).length := by rw [hcur]; exact hj2
      rw [List.getElem?_toArray, getElem!_pos _ j (by simpa using hj3)]
      have hj4 : j < cur.length := by
        rw [List.length_take] at hj3
        omega
      simp [hj4]
    have hcmp : CmpLays Try.prog 35 #[] arV 2 cmpA g 0 l.toArray.size w := fun m os dk _ x y => compare_any x y _
    have hsz : l.toArray.size < 4611686018427387904 := by simp; omega
    have hcon := AnyQ.slices_SortFunc (P := Try.prog) (ρ := laySort_ren) laySort 2 aggA sizeA arV (fun _ => rfl) (fun x v hv => by simp [arV] at hv; rcases hv with rfl | rfl <;> rfl) cmpA swo_A 35 #[] g 0 cap l.toArray w ent_cmp hcmp hH hbk.cells.lt hsz
    refine (show Calls Try.prog 34 _ _ _ from hcon).mono ?_
    rintro e w' ⟨rfl, d', n, os, hp, hs, rfl⟩
    obtain ⟨hp1, _, hp3⟩ := hp
    obtain ⟨l', rfl⟩ : ∃ l' : List Ar, d' = l'.toArray := ⟨d'.toList, by simp⟩
    have hl : l'.length = l.length := by simpa using hp1
    have hperm : l'.Perm l := by
      have e1 : (l'.toArray.extract 0 l.toArray.size).toList = l' := by simp [← hl]
      have e2 : (l.toArray.extract 0 l.toArray.size).toList = l := by simp
      rw [e1, e2] at hp3
      exact hp3
    have hpw : l'.Pairwise arLe := by
      rw [List.pairwise_iff_getElem]
      intro i j hi hj hij
      have := hs i j (Nat.zero_le _) hij (by simp; omega)
      rw [cmp_lt] at this
      exact ltA_not (by simpa [hi, hj] using this)
    obtain ⟨hw1, hw2⟩ := sort_world hbk hcap hl n os
    exact ⟨rfl, l', hperm, hpw, hw1, hw2⟩

theorem arL_one (l : List Ar) : ∀ u ∈ arL l, u.oneCell' = true := by
  intro u hu
  obtain ⟨a, _, ha⟩ := List.mem_flatMap.1 hu
  simp [arV] at ha
  rcases ha with rfl | rfl <;> rfl
theorem a_info : ∃ i z, Try.prog.info? 40 = some i ∧ i.zero = some z ∧ i.size = 2 ∧ i.bytes = 16 ∧ z.cells.size = 2 := ⟨_, _, rfl, rfl, rfl, rfl, rfl⟩
/-- A row of arcs of the call's own. -/
def RetA (w : World) (l : List Ar) (e : Ending) (w' : World) : Prop := ∃ A c, e = .returned (.slice A l.length c) ∧ w'.ownsRow w.heap.size 40 2 (.slice A l.length c) l.length (arL l) ∧ Below w.heap.size w w'
theorem RetA.mk {w w' : World} {l : List Ar} {v : Value} {n : Nat} (hn : l.length = n) (h : w'.ownsRow w.heap.size 40 2 v n (arL l)) (hb : Below w.heap.size w w') : RetA w l (.returned v) w' := by
  subst hn
  obtain ⟨A, c, rfl, _⟩ := own_slice h
  exact ⟨A, c, rfl, h, hb⟩
end Go.Proofs.Ytnkphpjnhjbokaa
