/-
  The walks of the reference's Set and Free, over every list of bools.
  Conditions: at most 120 of them; the slice reads as the list.
-/
import Derived.Test.YtfmjnjhocpoafaaC2
import Derived.OwnWalk
import Derived.BigQuiet
namespace Go.Proofs.Ytfmjnjhocpoafaa
open Go.RowKit

theorem add_plain (b o n : Nat) : (⟨b, o, none⟩ : Addr).add n = ⟨b, o + n, none⟩ := Addr.add_mid b o n
theorem lies_row {w : World} {g : Nat} {t : TypeId} {cs xs : List Value} {n : Nat} (h : Row w g t cs) (ht : cs.take n = xs) (hn : n ≤ cs.length) : Lies w w.heap.size 1 (some ⟨g, 0, none⟩) n xs := by
  refine ⟨by rw [← ht, List.length_take]; omega, fun _ => ⟨_, rfl, h.lt, fun j u hu => ?_⟩⟩
  rw [add_plain, Nat.zero_add, h.cell j]
  rw [← ht, List.getElem?_take] at hu
  split at hu
  · exact hu
  · cases hu
theorem Lies.head {w : World} {B n : Nat} {A : Option Addr} {xs : List Value} (h : Lies w B 1 A n xs) {k : Nat} (hk : k ≤ n) : Lies w B 1 A k (xs.take k) := by
  refine ⟨by rw [List.length_take, h.len]; omega, fun hn => ?_⟩
  obtain ⟨a, ha, hb, hx⟩ := h.spot (by omega)
  refine ⟨a, ha, hb, fun j u hu => ?_⟩
  rw [List.getElem?_take] at hu
  split at hu
  · exact hx j u hu
  · cases hu
theorem Lies.below {w w' : World} {n : Nat} {A : Option Addr} {xs : List Value} (h : Lies w w.heap.size 1 A n xs) (hb : Below w.heap.size w w') : Lies w' w'.heap.size 1 A n xs := (h.under hb).up hb.size
theorem Lies.is {w : World} {B n : Nat} {A : Option Addr} {xs ys : List Value} (h : Lies w B 1 A n xs) (e : xs = ys) : Lies w B 1 A n ys := e ▸ h

theorem own_split {w : World} {base k n : Nat} {e : TypeId} {v : Value} {xs : List Value} (h : w.ownsRow base e 1 v k xs) (hk : k = n) (hn : 0 < n) :
    ∃ g c cur, v = .slice (some ⟨g, 0, none⟩) n c ∧ base ≤ g ∧ Row w g e cur ∧ cur.length = c ∧ n ≤ c ∧ c ≤ maxLen ∧ cur.take n = xs := by
  subst hk
  rcases h.2 with ⟨_, h0⟩ | ⟨g, cap, cur, hv, hb, hg, hc, hm, hs, ht⟩
  · omega
  · exact ⟨g, cap, cur.toList, hv, hb, hg, by simpa using hs, hc, hm, by simpa using ht⟩
theorem below_n (B : Nat) (w : World) (n : Nat) : Below B w (w.drewN n) := ⟨rfl, rfl, rfl, Nat.le_refl _, fun _ _ => rfl⟩
theorem grown_below {w w' : World} (h : w.grownBy w' none) : Below w.heap.size w w' := ⟨h.os, h.tape, h.output, h.size, fun k hk => h.block k hk (by simp)⟩
set_option maxHeartbeats 800000 in
theorem refSet_out (l : List Bool) (i : Int) (t : Bool) (A : Option Addr) (cap : Nat) (hib : inB l i = false) (w : World) :
    Calls Try.prog 9 #[.slice A l.length cap, .int .i64 i, .bool t] w fun e w' => e = .returned (.tuple #[.slice A l.length cap, .bool false]) ∧ w = w' := by
  unfold inB at hib
  simp at hib
  by_cases h0 : i < 0
  · have d0 : decide (i < 0) = true := by simpa using h0
    go_enter Try.func9, Try.ntmps9
    go_wp2_with fail
    go_ret2
    exact ⟨rfl, rfl⟩
  · have h1 : (l.length : Int) ≤ i := hib (by omega)
    have d0 : decide (i < 0) = false := by simp; omega
    have d1 : decide ((l.length : Int) ≤ i) = true := by simpa using h1
    clear hib
    go_enter Try.func9, Try.ntmps9
    go_wp2_with fail
    go_ret2
    exact ⟨rfl, rfl⟩

/-- What the reference's Set returns for a page that exists. -/
def RSet (w : World) (l : List Bool) (i : Nat) (t : Bool) (e : Ending) (w' : World) : Prop :=
  ∃ g c, e = .returned (.tuple #[.slice (some ⟨g, 0, none⟩) l.length c, .bool (tk l i != t)]) ∧ Lies w' w'.heap.size 1 (some ⟨g, 0, none⟩) l.length (BL (l.set i t)) ∧ Below w.heap.size w w'
set_option maxHeartbeats 1000000 in
theorem refSet_in (l : List Bool) (i : Nat) (t : Bool) (A : Option Addr) (cap : Nat) (hi : i < l.length) (hm : l.length ≤ 120) (w : World) (hL : Lies w w.heap.size 1 A l.length (BL l)) :
    Calls Try.prog 9 #[.slice A l.length cap, .int .i64 i, .bool t] w (RSet w l i t) := by
  obtain ⟨i0, hi0, hz0, hz1, hz2⟩ := info_parts bool_info
  obtain ⟨a, rfl, hab, hcs⟩ := hL.spot (by omega)
  have hci := hcs i _ (BL_get l i hi)
  have d0 : decide ((i : Int) < 0) = false := by simp
  have d1 : decide ((l.length : Int) ≤ (i : Int)) = false := by simp; omega
  have d2 : decide (l.length ≤ i) = false := by simp; omega
  have HC := Lib.hid hcs
  clear hcs hL
  go_enter Try.func9, Try.ntmps9
  go_wp2_with (at_builtin; refine wpList_append_own _ rfl _ _ 31 rfl w.heap.size 4 i0 (.bool false) 1 1 Try.underlying31 hi0 hz0 hz1 hz2 rfl (by decide) (.slice none 0 0) 0 [] rfl (World.ownsRow_nil w w.heap.size 4 1) a l.length cap (BL l) rfl (by rw [BL_length]; omega) HC.out (BL_one l) (by unfold maxLen; omega) (by omega) (Nat.le_refl _) ?_; intro v' w2 hown hgrow hnil; clear hnil; have hB2 := Lib.hid (grown_below hgrow); clear hgrow; obtain ⟨g, c, cur, rfl, hbg, hrow, hcl, hlc, hcm, htk⟩ := own_split hown (Nat.zero_add _) (by omega); clear hown; have HR := Lib.hid hrow; have HT := Lib.hid htk; have HCL := Lib.hid hcl; clear hrow htk hcl; have fg := HR.out.frozen i; have cg := (HR.out.cell i).trans (List.getElem?_eq_getElem (show i < cur.length by have := HCL.out; omega)))
  have HS := Lib.hid (show Row (w2.setCell ⟨g, i, none⟩ (.bool t)) g 4 (cur.set i (.bool t)) from HR.out.set i _)
  have hB3 := Lib.hid (show Below w.heap.size w (w2.setCell ⟨g, i, none⟩ (.bool t)) from hB2.out.setCell (by exact hbg) _)
  have hc3 : (w2.setCell ⟨g, i, none⟩ (.bool t)).cell? (a.add i) = some (.bool (tk l i)) := (hB3.out.cell (by rw [add_block]; exact hab)).trans hci
  clear hB2 fg cg HR hci
  generalize w2.setCell ⟨g, i, none⟩ (.bool t) = w3 at HS hB3 hc3 ⊢
  go_quiet (fail)
  go_wp2_with fail
  go_ret2
  refine ⟨g, c, rfl, ?_, hB3.out.trans (below_n _ _ _)⟩
  have h := lies_row (n := l.length) HS.out rfl (by rw [List.length_set, HCL.out]; exact hlc)
  rw [List.take_set, HT.out, List.nil_append, BL_set] at h
  exact h.below (below_n _ _ _)

/-- A row of the call's own holds the numbers xs; what lay below B lies on. -/
structure Owned (w0 : World) (B : Nat) (u : Value) (xs : List Nat) (w : World) : Prop where
  row : w.ownsRow B 3 1 u xs.length (IN xs)
  old : Below B w0 w
  low : B ≤ w.heap.size
def FrR (w0 : World) (l : List Bool) (u i : Value) (w : World) : Prop :=
  ∃ k : Nat, k ≤ l.length ∧ i = .int .i64 k ∧ Hid (Owned w0 w0.heap.size u (pg l false k) w)
/-- What the reference's Free returns. -/
def RFree (w : World) (L : List Nat) (e : Ending) (w' : World) : Prop :=
  ∃ A c, e = .returned (.slice A L.length c) ∧ L.length ≤ c ∧ c ≤ maxLen ∧ Lies w' w'.heap.size 1 A L.length (IN L) ∧ Below w.heap.size w w' ∧ ∀ a, A = some a → w.heap.size ≤ a.block
theorem own_new {w : World} {base n c : Nat} {e : TypeId} {A : Option Addr} {xs : List Value} (h : w.ownsRow base e 1 (.slice A n c) n xs) : ∀ a, A = some a → base ≤ a.block := by
  rintro a rfl
  rcases h.2 with ⟨hv, _⟩ | ⟨g, cap, cur, hv, hb, _⟩
  · cases hv
  · cases hv
    exact hb
theorem IN_snoc (l : List Nat) (k : Nat) : IN (l ++ [k]) = IN l ++ [.int .i64 (k : Int)] := by simp [IN]
set_option maxHeartbeats 1000000 in
theorem refFree_any (l : List Bool) (A : Option Addr) (cap : Nat) (hm : l.length ≤ 120) (w : World) (hL : Lies w w.heap.size 1 A l.length (BL l)) :
    Calls Try.prog 21 #[.slice A l.length cap] w (RFree w (fr l)) := by
  obtain ⟨i0, hi0, hz0, hz1, hz2⟩ := info_parts int_info
  have HL := Lib.hid hL
  clear hL
  go_enter Try.func21, Try.ntmps21
  go_wp2_with fail
  go_loopw [3, 4] (fun u i wr => FrR w l u i wr) (fun _ i _ => l.length - (intOf i).toNat)
  case atStart => exact ⟨0, by omega, rfl, Lib.hid ⟨World.ownsRow_nil w w.heap.size 3 1, Below.refl _ _, Nat.le_refl _⟩⟩
  case round =>
    obtain ⟨k, hk, rfl, ho⟩ := hrel
    by_cases hlt : k < l.length
    · obtain ⟨a, u, rfl, hab, hu, hcu⟩ := (HL.out.under ho.out.old).get hlt
      rw [BL_get l k hlt] at hu
      cases hu
      have hle := pg_le l false k
      cases hs : tk l (k : Int)
      · have E := Lib.hid (pg_yes hs)
        have HS := Lib.hid hs
        rw [hs] at hcu
        clear hs
        have hlow := ho.out.low
        go_wp2_with (at_builtin; refine wpList_append_own _ rfl _ _ 38 rfl w.heap.size 3 i0 (.int .i64 0) 1 8 Try.underlying38 hi0 hz0 hz1 hz2 rfl (by decide) u3 _ _ rfl (ho.out.row.alloc _) ⟨wr.heap.size, 0, none⟩ 1 1 [.int .i64 (k : Int)] rfl rfl (cell_one_new _ _ _) (by simp [Value.oneCell']) (by unfold maxLen; omega) (by omega) (by simp; omega) ?_; intro v' w2 hown hgrow hblk)
        refine ⟨⟨k + 1, by omega, by go_num, Lib.hid ?_⟩, by simp [intOf]; omega⟩
        rw [E.out]
        refine ⟨by rw [IN_snoc, List.length_append]; exact hown, Below.grown (ho.out.old.alloc hlow _) hgrow (by simp; omega) fun j hj => (ho.out.row.lt j hj).1, ?_⟩
        have := hgrow.size
        simp at this
        omega
      · have E := Lib.hid (pg_no (t := false) hs)
        rw [hs] at hcu
        clear hs
        go_wp2_with fail
        refine ⟨⟨k + 1, by omega, by go_num, Lib.hid ?_⟩, by simp [intOf]; omega⟩
        rw [E.out]
        exact ho.out
    · obtain rfl : k = l.length := by omega
      obtain ⟨A', c', rfl, h1, h2⟩ := own_slice ho.out.row
      go_wp2_with fail
      go_ret
      exact ⟨A', c', rfl, h1, h2, Lies.of_own ho.out.row, ho.out.old, own_new ho.out.row⟩
end Go.Proofs.Ytfmjnjhocpoafaa
