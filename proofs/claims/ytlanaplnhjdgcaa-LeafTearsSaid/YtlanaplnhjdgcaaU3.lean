/-
  Lists of sectors: what a write leaves where it wrote and beside it; a byte set in a row of sectors.
  Conditions: none beyond those that each theorem names.
-/
import Derived.Test.YtlanaplnhjdgcaaU1
import Derived.Test.YtlanaplnhjdgcaaU2
namespace Go.Proofs.Ytlanaplnhjdgcaa
open Go.RowKit

theorem fill_ok (a b : Int) (ha : 0 ≤ a) (ha2 : a < 256) (hb : 0 ≤ b) (hb2 : b < 256) : Okb (fillP a b).toList := by
  rw [fillP_toList]
  intro x hx
  rw [fillL, List.mem_cons] at hx
  rcases hx with rfl | hx
  · exact ⟨ha, ha2⟩
  · rw [List.eq_of_mem_replicate hx]
    exact ⟨hb, hb2⟩
theorem GotV_puts (p : Pg) (n : Nat) (hn : n < 18446744073709551616) : GotV (puts p n) = .tuple #[.agg (pgA p), .int .u64 n, .bool true] := by
  rw [GotV, getP_puts p n hn, getM_puts p n hn, whole_puts p n hn]
theorem ReadV_puts (p : Pg) (n : Nat) (hn : n < 18446744073709551616) : ReadV (puts p n) = .tuple #[.agg (pgA p), .int .u64 n, .bool true, .int .i64 0] := by
  rw [ReadV, getP_puts p n hn, getM_puts p n hn, whole_puts p n hn]
theorem ReadV_no (l : List Sect) (h : whole l = false) : ReadV l = .tuple #[.agg (pgA zpg), .int .u64 0, .bool false, .int .i64 0] := by simp [ReadV, getP, getM, h]
theorem upd_here (S : List Sect) (p : Nat) (l : List Sect) (h : p + l.length ≤ S.length) : ((upd S p l (fun _ => true)).drop p).take l.length = l := by
  rw [← upd_full S p l _ (fun _ _ => rfl) h]
  have hl : (S.take p).length = p := by rw [List.length_take]; omega
  unfold splice
  rw [List.drop_append_of_le_length (by omega), List.drop_of_length_le (by omega), List.nil_append, List.take_append_of_le_length (Nat.le_refl _), List.take_length]
theorem upd_there (S : List Sect) (p : Nat) (l : List Sect) (kf : Nat → Bool) (q m : Nat) (h : q + m ≤ p ∨ p + l.length ≤ q) : ((upd S p l kf).drop q).take m = (S.drop q).take m := by
  apply List.ext_getElem?
  intro i
  rw [List.getElem?_take, List.getElem?_take, List.getElem?_drop, List.getElem?_drop]
  by_cases hi : i < m
  · rw [if_pos hi, if_pos hi]
    by_cases hs : q + i < S.length
    · rw [upd_get _ _ _ _ _ hs, if_neg (by omega), getD_get S _ hs]
    · rw [List.getElem?_eq_none (by rw [upd_length]; omega), List.getElem?_eq_none (by omega)]
  · rw [if_neg hi, if_neg hi]
/-- What a torn write of four sectors leaves where it wrote. -/
theorem upd_torn (S : List Sect) (p : Nat) (l : List Sect) (kf : Nat → Bool) (i : Nat) (hl : l.length = 4) (h : p + 4 ≤ S.length) (hi : i < 4) :
    (((upd S p l kf).drop p).take 4)[i]? = if kf i = true then l[i]? else ((S.drop p).take 4)[i]? := by
  rw [List.getElem?_take, if_pos hi, List.getElem?_drop, upd_get _ _ _ _ _ (by omega), List.getElem?_take, if_pos hi, List.getElem?_drop, show p + i - p = i by omega]
  by_cases hk : kf i = true
  · rw [if_pos ⟨by omega, by omega, hk⟩, if_pos hk, getD_get l i (by omega)]
  · rw [if_neg (fun hh => hk hh.2.2), if_neg hk, getD_get S _ (by omega)]

theorem own_set {w : World} {base n c : Nat} {A : Option Addr} {L : List Int} (h : w.ownsRow base 45 64 (.slice A n c) n (CL L)) (k : Nat) (hk : k < L.length) (x : Int) :
    ∃ gL, A = some ⟨gL, 0, none⟩ ∧ base ≤ gL ∧ gL < w.heap.size ∧ w.cell? ⟨gL, k, none⟩ = some (.int .u8 L[k]) ∧ w.frozen? ⟨gL, k, none⟩ = false ∧
      Lz (fun _ => False) (w.setCell ⟨gL, k, none⟩ (.int .u8 x)) 64 A n (CL (L.set k x)) := by
  have hlen := h.1
  rw [CL_length] at hlen
  rcases h.2 with ⟨_, h0⟩ | ⟨gL, cap, cur, hv, hb, hg, _, _, hcs, htk⟩
  · omega
  injection hv with hA
  subst hA
  have hlt := (Array.getElem?_eq_some_iff.1 hg).1
  have key : ∀ j, j < L.length → cur[j]? = (CL L)[j]? := fun j hj => by
    rw [← htk, List.getElem?_take, if_pos (by omega), Array.getElem?_toList]
  refine ⟨gL, rfl, hb, hlt, ?_, frozen_of_row w gL k _ _ hg, ?_⟩
  · rw [cell_of_row w gL k _ _ _ hg, key k hk, CL_get L k hk]
  · refine ⟨by rw [CL_length, List.length_set, hlen], fun _ => ⟨gL, 0, rfl, fun h => h, by simpa [World.setCell] using hlt, fun j v hv => ?_⟩⟩
    have hg2 := heap_setCell_same w gL k cur 45 (.int .u8 x) hg
    rw [cell_of_row _ gL _ _ _ _ hg2, Nat.zero_add, Array.getElem?_setIfInBounds, ← hv, ← CL_set]
    have hj : j < L.length := by
      have := (List.getElem?_eq_some_iff.1 hv).1
      rwa [CL_length, List.length_set] at this
    by_cases e : k = j
    · subst e
      have hkc : k < cur.size := by
        have := key k hk
        rw [CL_get L k hk] at this
        exact (Array.getElem?_eq_some_iff.1 this).1
      rw [if_pos rfl, if_pos hkc, List.getElem?_set_self (by rw [CL_length]; exact hk)]
    · rw [if_neg e, key j hj, List.getElem?_set_ne e]

/-! ### The example's torn page -/
def spoilt (p : Pg) (n : Nat) : List Sect := [lay p n 0, lay p n 1, (lay p n 2).set 60 9, lay p n 3]
theorem byt_spoilt (p : Pg) (n : Nat) : (byt (puts p n)).set 188 9 = byt (spoilt p n) := by
  simp only [puts, spoilt, byt, List.set_append, Vector.length_toList, Vector.toList_set]
  rfl
theorem mark_spoilt (p : Pg) : markI ((lay p 77 2).set 60 9) = 150995021 := by
  rw [markI, markL, Vector.toList_set, lay_toList p 77 2 (by omega), layL, List.set_append, if_neg (by simp), List.drop_append_of_le_length (by simp), List.drop_of_length_le (by simp)]
  simp
  decide
theorem whole_spoilt (p : Pg) : whole (spoilt p 77) = false := by
  refine whole_no _ 2 (by simp [spoilt]) ?_
  rw [show (spoilt p 77)[2]'(by simp [spoilt]) = (lay p 77 2).set 60 9 from rfl, mark_spoilt, show (spoilt p 77).headD zsec = lay p 77 0 from rfl, mark_lay p 77 0 (by omega) (by omega)]
  omega
theorem oks_spoilt (p : Pg) (n : Nat) (hp : Okb p.toList) : Oks (spoilt p n) := by
  have h := oks_puts p n hp
  intro s hs
  simp only [spoilt, List.mem_cons, List.not_mem_nil, or_false] at hs
  rcases hs with rfl | rfl | rfl | rfl
  · exact h _ (by simp [puts])
  · exact h _ (by simp [puts])
  · rw [Vector.toList_set]
    intro x hx
    rcases List.mem_or_eq_of_mem_set hx with hx | rfl
    · exact h (lay p n 2) (by simp [puts]) x hx
    · omega
  · exact h _ (by simp [puts])
end Go.Proofs.Ytlanaplnhjdgcaa
