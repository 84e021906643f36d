/-
  Set and Take, the program's and the reference's, each in one contract for all inputs.
  Conditions: at most 120 pages; the slices read as the lists.
-/
import Derived.Test.YtfmjnjhocpoafaaE2
namespace Go.Proofs.Ytfmjnjhocpoafaa
open Go.RowKit

/-- What the reference's Set returns. -/
def RSetR (w : World) (l : List Bool) (i : Int) (t : Bool) (e : Ending) (w' : World) : Prop :=
  ∃ A c, e = .returned (.tuple #[.slice A l.length c, .bool (setB l i t)]) ∧ Lies w' w'.heap.size 1 A l.length (BL (setL l i t)) ∧ Below w.heap.size w w'
theorem refSet_any (l : List Bool) (i : Int) (t : Bool) (A : Option Addr) (cap : Nat) (hm : l.length ≤ 120) (w : World) (hL : Lies w w.heap.size 1 A l.length (BL l)) :
    Calls Try.prog 9 #[.slice A l.length cap, .int .i64 i, .bool t] w (RSetR w l i t) := by
  cases hb : inB l i
  · refine (refSet_out l i t A cap hb w).mono ?_
    rintro e w' ⟨rfl, rfl⟩
    unfold RSetR setB setL
    rw [hb]
    exact ⟨A, cap, rfl, hL, Below.refl _ _⟩
  · have hb' := hb
    unfold inB at hb'
    simp at hb'
    obtain ⟨k, rfl⟩ : ∃ k : Nat, i = (k : Int) := ⟨i.toNat, by omega⟩
    refine (refSet_in l k t A cap (by omega) hm w hL).mono ?_
    rintro e w' ⟨g, c, rfl, hl, hbel⟩
    refine ⟨_, c, ?_, hl.is ?_, hbel⟩
    · unfold setB
      rw [hb]
      rfl
    · unfold setL
      rw [hb]
      by_cases ht : tk l (k : Int) = t
      · rw [show (tk l (k : Int) != t) = false from by simp [ht]]
        congr 1
        have hk : k < l.length := by omega
        have : l[k] = t := by
          rw [tk_nat, List.getD_eq_getElem?_getD, List.getElem?_eq_getElem hk, Option.getD_some] at ht
          exact ht
        rw [← this]
        exact List.set_getElem_self hk
      · rw [show (tk l (k : Int) != t) = true from by simp [ht]]
        rfl
/-- The map, the pages and the code that Take returns. -/
def takeT (l : List Bool) (i : Int) : List Bool := if i < 0 then l else if ((fr l).length : Int) < i then l else takeL l i.toNat
def takeF (l : List Bool) (i : Int) : List Nat := if i < 0 then [] else if ((fr l).length : Int) < i then [] else (fr l).take i.toNat
def takeE (l : List Bool) (i : Int) : Int := if i < 0 then 1 else if ((fr l).length : Int) < i then 6 else 0
theorem takeT_length (l : List Bool) (i : Int) : (takeT l i).length = l.length := by
  unfold takeT
  split
  · rfl
  · split
    · rfl
    · exact takeL_length _ _
theorem takeF_length (l : List Bool) (i : Int) : (takeF l i).length ≤ l.length := by
  unfold takeF
  split
  · simp
  · split
    · simp
    · have : (fr l).length ≤ l.length := pg_le l false l.length
      rw [List.length_take]
      omega
/-- The pages lie in a block of their own that is as new as B, or there are none. -/
def RowX (B : Nat) (W : World) (A : Option Addr) (F : List Nat) : Prop := F = [] ∨ ∃ b, A = some ⟨b, 0, none⟩ ∧ B ≤ b ∧ Row W b 3 (IN F)
section
variable {B : Nat} {W W' : World} {A : Option Addr} {F : List Nat}
theorem RowX.below (h : RowX B W A F) (hb : Below W.heap.size W W') : RowX B W' A F := by
  rcases h with h | ⟨b, h1, h2, h3⟩
  · exact .inl h
  · exact .inr ⟨b, h1, h2, h3.below hb⟩
theorem RowX.alloc (h : RowX B W A F) (o : Obj) : RowX B (W.alloc o) A F := h.below ((Below.refl _ _).alloc (Nat.le_refl _) o)
theorem RowX.store {c : Nat} (h : RowX B W A F) (hc : c < B) (x y z : Value) : RowX B (((W.setCell ⟨c, 0, none⟩ x).setCell ⟨c, 1, none⟩ y).setCell ⟨c, 2, none⟩ z) A F := by
  rcases h with h | ⟨b, h1, h2, h3⟩
  · exact .inl h
  · exact .inr ⟨b, h1, h2, h3.other3 (by omega) _ _ _⟩
theorem RowX.lies (h : RowX B W A F) : Lies W W.heap.size 1 A F.length (IN F) := by
  rcases h with rfl | ⟨b, rfl, _, h3⟩
  · exact Lies.empty
  · exact lies_row h3 (by rw [List.take_of_length_le (by rw [IN_length]; exact Nat.le_refl _)]) (by rw [IN_length]; exact Nat.le_refl _)
theorem RowX.mono {B' : Nat} (h : RowX B W A F) (hB : B' ≤ B) : RowX B' W A F := by
  rcases h with h | ⟨b, h1, h2, h3⟩
  · exact .inl h
  · exact .inr ⟨b, h1, by omega, h3⟩
end
def TakeP (w : World) (T : List Bool) (F : List Nat) (c : Int) (e : Ending) (w' : World) : Prop :=
  ∃ A cp, e = .returned (.tuple #[.agg #[.int .i64 (T.length : Nat), .int .u64 (lo T : Nat), .int .u64 (hi T : Nat)], .slice A F.length cp, .int .i64 c]) ∧ RowX w.heap.size w' A F ∧ Below w.heap.size w w'
def TakeQ (w : World) (n : Nat) (T : List Bool) (F : List Nat) (c : Int) (e : Ending) (w' : World) : Prop :=
  ∃ A cp A2 cp2, e = .returned (.tuple #[.slice A n cp, .slice A2 F.length cp2, .int .i64 c]) ∧ Lies w' w'.heap.size 1 A n (BL T) ∧ Lies w' w'.heap.size 1 A2 F.length (IN F) ∧ (∀ a, A2 = some a → w.heap.size ≤ a.block) ∧ Below w.heap.size w w'
theorem take_any (l : List Bool) (i : Int) (hm : l.length ≤ 120) (w : World) : Calls Try.prog 10 #[.agg #[.int .i64 (l.length : Nat), .int .u64 (lo l : Nat), .int .u64 (hi l : Nat)], .int .i64 i] w (TakeP w (takeT l i) (takeF l i) (takeE l i)) := by
  unfold takeT takeF takeE
  by_cases h0 : i < 0
  · simp only [if_pos h0]
    refine (take_neg l i h0 w).mono ?_
    rintro e w' ⟨rfl, hb⟩
    exact ⟨none, 0, rfl, .inl rfl, hb⟩
  · simp only [if_neg h0]
    by_cases h1 : ((fr l).length : Int) < i
    · simp only [if_pos h1]
      refine (take_full l i hm h1 w).mono ?_
      rintro e w' ⟨rfl, hb⟩
      exact ⟨none, 0, rfl, .inl rfl, hb⟩
    · simp only [if_neg h1]
      obtain ⟨k, rfl⟩ : ∃ k : Nat, i = (k : Int) := ⟨i.toNat, by omega⟩
      have hk : k ≤ (fr l).length := by omega
      have hfl : ((fr l).take k).length = k := by rw [List.length_take]; omega
      refine (take_ok l k hm hk w).mono ?_
      rintro e w' ⟨b, rfl, hwb, hr, hb⟩
      refine ⟨some ⟨b, 0, none⟩, k, ?_, .inr ⟨b, rfl, hwb, hr⟩, hb⟩
      simp only [Int.toNat_natCast, hfl]
theorem refTake_any (l : List Bool) (A : Option Addr) (cap : Nat) (i : Int) (hm : l.length ≤ 120) (w : World) (hL : Lies w w.heap.size 1 A l.length (BL l)) :
    Calls Try.prog 11 #[.slice A l.length cap, .int .i64 i] w (TakeQ w l.length (takeT l i) (takeF l i) (takeE l i)) := by
  unfold takeT takeF takeE
  by_cases h0 : i < 0
  · simp only [if_pos h0]
    refine (refTake_neg l A cap i h0 w).mono ?_
    rintro e w' ⟨rfl, hb⟩
    exact ⟨A, cap, none, 0, rfl, hL.below hb, Lies.empty, (fun a h => by cases h), hb⟩
  · simp only [if_neg h0]
    by_cases h1 : ((fr l).length : Int) < i
    · simp only [if_pos h1]
      refine (refTake_full l A cap i hm h1 w hL).mono ?_
      rintro e w' ⟨rfl, hb⟩
      exact ⟨A, cap, none, 0, rfl, hL.below hb, Lies.empty, (fun a h => by cases h), hb⟩
    · simp only [if_neg h1]
      obtain ⟨k, rfl⟩ : ∃ k : Nat, i = (k : Int) := ⟨i.toNat, by omega⟩
      have hk : k ≤ (fr l).length := by omega
      have hfl : ((fr l).take k).length = k := by rw [List.length_take]; omega
      refine (refTake_ok l A cap k hm hk w hL).mono ?_
      rintro e w' ⟨A1, c1, A2, c2, rfl, h1, h2, h3, hb⟩
      refine ⟨A1, c1, A2, c2, ?_, h1, ?_, h3, hb⟩
      · simp only [Int.toNat_natCast, hfl]
      · simp only [Int.toNat_natCast]
        rw [hfl]
        exact h2

theorem refSet_n {l c' : List Bool} {i : Int} {t bb : Bool} {n : Nat} (hl : setL l i t = c') (hb : setB l i t = bb) (hn : l.length = n) (A : Option Addr) (cap : Nat) (hm : l.length ≤ 120) (w : World) (hL : Lies w w.heap.size 1 A n (BL l)) :
    Calls Try.prog 9 #[.slice A n cap, .int .i64 i, .bool t] w fun e w' => ∃ A' cp, e = .returned (.tuple #[.slice A' n cp, .bool bb]) ∧ Lies w' w'.heap.size 1 A' n (BL c') ∧ Below w.heap.size w w' := by
  subst hl
  subst hb
  subst hn
  exact refSet_any l i t A cap hm w hL
theorem take_n {l T : List Bool} {i : Int} {F : List Nat} {c : Int} (hT : takeT l i = T) (hF : takeF l i = F) (hc : takeE l i = c) (hm : l.length ≤ 120) (w : World) : Calls Try.prog 10 #[.agg #[.int .i64 (l.length : Nat), .int .u64 (lo l : Nat), .int .u64 (hi l : Nat)], .int .i64 i] w (TakeP w T F c) := by
  subst hT
  subst hF
  subst hc
  exact take_any l i hm w
theorem refTake_n {l T : List Bool} {i : Int} {F : List Nat} {c : Int} {n : Nat} (hT : takeT l i = T) (hF : takeF l i = F) (hc : takeE l i = c) (hn : l.length = n) (A : Option Addr) (cap : Nat) (hm : l.length ≤ 120) (w : World) (hL : Lies w w.heap.size 1 A n (BL l)) :
    Calls Try.prog 11 #[.slice A n cap, .int .i64 i] w (TakeQ w n T F c) := by
  subst hT
  subst hF
  subst hc
  subst hn
  exact refTake_any l A cap i hm w hL
theorem same_n {l : List Bool} {n : Nat} (hn : l.length = n) (A : Option Addr) (cap : Nat) (hm : l.length ≤ 120) (w : World) (hL : Lies w w.heap.size 1 A n (BL l)) :
    Calls Try.prog 13 #[.agg #[.int .i64 (l.length : Nat), .int .u64 (lo l : Nat), .int .u64 (hi l : Nat)], .slice A n cap] w fun e w' => e = .returned (.bool true) ∧ Below w.heap.size w w' := by
  subst hn
  exact same_any l A cap hm w hL
end Go.Proofs.Ytfmjnjhocpoafaa
