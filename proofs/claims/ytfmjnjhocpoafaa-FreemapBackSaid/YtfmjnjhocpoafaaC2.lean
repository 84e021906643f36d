/-
  The walk of Of, over every number of pages and every list of pages.
  Conditions: the slice reads as a list of numbers.
-/
import Derived.Test.YtfmjnjhocpoafaaC1
namespace Go.Proofs.Ytfmjnjhocpoafaa
open Go.RowKit

/-- Numbers as cells. -/
def IL (L : List Int) : List Value := L.map (.int .i64)
theorem IL_length (L : List Int) : (IL L).length = L.length := by simp [IL]
theorem IL_get (L : List Int) (k : Nat) (h : k < L.length) : (IL L)[k]? = some (.int .i64 L[k]) := by simp [IL, h]
/-- The pages of a list, taken one after the other; none where one can't be. -/
def ofF (l : List Bool) : List Int → Option (List Bool)
  | [] => some l
  | i :: r => if setB l i true then ofF (setL l i true) r else none
def ofR (n : Int) (L : List Int) : Option (List Bool) := if 1 ≤ n ∧ n ≤ 120 then ofF (List.replicate n.toNat false) L else none
/-- What Of returns. -/
def Ofd (w : World) (res : Option (List Bool)) (e : Ending) (w' : World) : Prop :=
  ((∃ m, res = some m ∧ e = .returned (.tuple #[.agg #[.int .i64 (m.length : Nat), .int .u64 (lo m : Nat), .int .u64 (hi m : Nat)], .bool true])) ∨ (res = none ∧ e = .returned (.tuple #[.agg #[.int .i64 0, .int .u64 0, .int .u64 0], .bool false]))) ∧ Below w.heap.size w w'
/-- Between two rounds of Of's loop. -/
structure OfI (w : World) (n b : Nat) (res : Option (List Bool)) (L : List Int) (m : List Bool) (k : Nat) (W : World) : Prop where
  bx : Row W b 27 (C3 m)
  r : Row W w.heap.size 27 [.int .i64 0, .int .u64 0, .int .u64 0]
  old : Below w.heap.size w W
  len : m.length = n
  is : ofF m (L.drop k) = res
def OfRel (w : World) (n b : Nat) (res : Option (List Bool)) (L : List Int) (v : Value) (W : World) : Prop := ∃ k m, k ≤ L.length ∧ v = .int .i64 ((k : Nat) : Int) ∧ Hid (OfI w n b res L m k W)

set_option maxHeartbeats 800000 in
theorem of_bad (n : Int) (L : List Int) (A : Option Addr) (cap : Nat) (w : World) (h : n < 1 ∨ 120 < n) :
    Calls Try.prog 14 #[.int .i64 n, .slice A L.length cap] w (Ofd w none) := by
  have H := Lib.hid h
  clear h
  go_enter Try.func14, Try.ntmps14
  go_wp2_with fail
  refine (new_bad n _ H.out).mono ?_
  rintro e w1 ⟨rfl, h1⟩
  obtain ⟨hc1, hf1⟩ := keep (N := w.heap.size + 1) h1 (by simp)
  have z1 : w.heap.size + 1 ≤ w1.heap.size := by have := h1.size; simp at this; omega
  have B1 := Lib.hid ((chain ((Below.refl w.heap.size w).alloc (Nat.le_refl _) _) h1 (Nat.le_refl _)).alloc (by omega) (.cells #[.int .i64 0, .int .u64 0, .int .u64 0] 27))
  have R1 := Lib.hid (((Row.new w 27 [.int .i64 0, .int .u64 0, .int .u64 0]).below h1).alloc (.cells #[.int .i64 0, .int .u64 0, .int .u64 0] 27))
  obtain ⟨f0, f1, f2⟩ := R1.out.frozen3
  have r0 := R1.out.cell 0
  have r1 := R1.out.cell 1
  have r2 := R1.out.cell 2
  simp only [List.getElem?_cons_zero, List.getElem?_cons_succ] at r0 r1 r2
  clear h1 hc1 hf1
  go_wp2_with fail
  exact bodyPost_ret (v := .tuple #[.agg #[.int .i64 0, .int .u64 0, .int .u64 0], .bool false]) (by simp [results, Try.results14, go_sem, r0, r1, r2]) rfl
    ⟨.inr ⟨rfl, rfl⟩, ((B1.out.setCell (by simp) _).setCell (by simp) _).setCell (by simp) _⟩

theorem new_is (n : Nat) (Z : List Bool) (hZ : List.replicate n false = Z) (w : World) (h1 : 1 ≤ n) (h2 : n ≤ 120) :
    Calls Try.prog 7 #[.int .i64 n] w fun e w' => e = .returned (.tuple #[.agg #[.int .i64 (Z.length : Nat), .int .u64 (lo Z : Nat), .int .u64 (hi Z : Nat)], .int .i64 0]) ∧ Below w.heap.size w w' := by
  subst hZ
  exact new_ok n w h1 h2
set_option maxHeartbeats 2000000 in
theorem of_good (n : Nat) (L : List Int) (A : Option Addr) (cap : Nat) (w : World) (h1 : 1 ≤ n) (h2 : n ≤ 120) (hL : Lies w w.heap.size 1 A L.length (IL L)) (hm : L.length ≤ maxLen) :
    Calls Try.prog 14 #[.int .i64 n, .slice A L.length cap] w (Ofd w (ofF (List.replicate n false) L)) := by
  have HLI := Lib.hid hL
  clear hL
  unfold maxLen at hm
  obtain ⟨Z, hZ⟩ : ∃ Z, List.replicate n false = Z := ⟨_, rfl⟩
  have hzl : Z.length = n := by rw [← hZ]; simp
  rw [hZ]
  have HZ := Lib.hid hZ
  have HZL := Lib.hid hzl
  clear hZ hzl
  obtain ⟨res, hres⟩ : ∃ res, ofF Z L = res := ⟨_, rfl⟩
  rw [hres]
  have HR := Lib.hid hres
  clear hres
  go_enter Try.func14, Try.ntmps14
  go_wp2_with fail
  refine (new_is n Z HZ.out _ h1 h2).mono ?_
  rintro e w1 ⟨rfl, hb1⟩
  have hI : Hid (OfI w n w1.heap.size res L Z 0 (w1.alloc (.cells #[.int .i64 (Z.length : Nat), .int .u64 (lo Z : Nat), .int .u64 (hi Z : Nat)] 27))) := by
    refine ⟨Row.new3 w1 _, ?_, ?_, HZL.out, by simpa using HR.out⟩
    · refine (Row.below ?_ hb1).alloc _
      exact Row.new w 27 [.int .i64 0, .int .u64 0, .int .u64 0]
    · exact (chain ((Below.refl w.heap.size w).alloc (Nat.le_refl _) _) hb1 (Nat.le_refl _)).alloc (by have := hb1.size; simp at this; omega) _
  have hb0 : w.heap.size + 1 ≤ w1.heap.size := by have := hb1.size; simp at this; omega
  clear hb1
  go_wp2_with fail
  obtain ⟨b, hb⟩ : ∃ b, b = w1.heap.size := ⟨_, rfl⟩
  rw [← hb] at hI hb0 ⊢
  clear hb
  go_loopw [22] (fun v wr => OfRel w n b res L v wr) (fun v _ => L.length - (intOf v).toNat)
  case atStart => exact ⟨0, _, Nat.zero_le _, rfl, hI⟩
  case round =>
    clear hI
    obtain ⟨k, m, hk, rfl, hI⟩ := hrel
    obtain ⟨m0, m1, m2⟩ := hI.out.bx.cells3
    have hn2 : m.length ≤ 120 := by rw [hI.out.len]; exact h2
    by_cases hlt : k < L.length
    · obtain ⟨a, u, rfl, hab, hu, hcu⟩ := (HLI.out.under hI.out.old).get hlt
      rw [IL_get L k hlt] at hu
      cases hu
      have HD := Lib.hid (show ofF m (L[k] :: L.drop (k + 1)) = res by rw [← List.drop_eq_getElem_cons hlt]; exact hI.out.is)
      generalize L[k] = x at hcu HD
      obtain ⟨m', hm'⟩ : ∃ m', setL m x true = m' := ⟨_, rfl⟩
      have HM := Lib.hid hm'
      clear hm'
      cases hs : setB m x true with
      | false =>
        have HS := Lib.hid hs
        clear hs
        go_wp2_with fail
        refine (set_yes HM.out HS.out hn2 _).mono ?_
        rintro e w2 ⟨rfl, hb2⟩
        have B1 := Lib.hid ((chain hI.out.old hb2 (Nat.le_refl _)).alloc (Nat.le_trans hI.out.old.size hb2.size) (.cells #[.int .i64 (m'.length : Nat), .int .u64 (lo m' : Nat), .int .u64 (hi m' : Nat)] 27))
        have R1 := Lib.hid ((hI.out.r.below hb2).alloc (.cells #[.int .i64 (m'.length : Nat), .int .u64 (lo m' : Nat), .int .u64 (hi m' : Nat)] 27))
        obtain ⟨f0, f1, f2⟩ := R1.out.frozen3
        have r0 := R1.out.cell 0
        have r1 := R1.out.cell 1
        have r2 := R1.out.cell 2
        simp only [List.getElem?_cons_zero, List.getElem?_cons_succ] at r0 r1 r2
        clear hb2 m0 m1 m2
        go_wp2_with fail
        refine bodyPost_ret (v := .tuple #[.agg #[.int .i64 0, .int .u64 0, .int .u64 0], .bool false]) (by simp [results, Try.results14, go_sem, r0, r1, r2]) rfl
          ⟨.inr ⟨?_, rfl⟩, ((B1.out.setCell (by simp) _).setCell (by simp) _).setCell (by simp) _⟩
        rw [← HD.out, ofF, HS.out]
        rfl
      | true =>
        have HS := Lib.hid hs
        clear hs
        go_wp2_with fail
        refine (set_yes HM.out HS.out hn2 _).mono ?_
        rintro e w2 ⟨rfl, hb2⟩
        have B1 := Lib.hid ((chain hI.out.old hb2 (Nat.le_refl _)).alloc (Nat.le_trans hI.out.old.size hb2.size) (.cells #[.int .i64 (m'.length : Nat), .int .u64 (lo m' : Nat), .int .u64 (hi m' : Nat)] 27))
        have R1 := Lib.hid ((hI.out.r.below hb2).alloc (.cells #[.int .i64 (m'.length : Nat), .int .u64 (lo m' : Nat), .int .u64 (hi m' : Nat)] 27))
        have M1 := Lib.hid ((hI.out.bx.below hb2).alloc (.cells #[.int .i64 (m'.length : Nat), .int .u64 (lo m' : Nat), .int .u64 (hi m' : Nat)] 27))
        have N1 := Lib.hid (Row.new3 w2 m')
        obtain ⟨g0, g1, g2⟩ := M1.out.frozen3
        obtain ⟨p0, p1, p2⟩ := M1.out.cells3
        have hI2 : Hid (OfI w n b res L m' (k + 1) ((((w2.alloc (.cells #[.int .i64 (m'.length : Nat), .int .u64 (lo m' : Nat), .int .u64 (hi m' : Nat)] 27)).setCell ⟨b, 0, none⟩ (.int .i64 (m'.length : Nat))).setCell ⟨b, 1, none⟩ (.int .u64 (lo m' : Nat))).setCell ⟨b, 2, none⟩ (.int .u64 (hi m' : Nat)))) := by
          refine ⟨M1.out.set3 _, R1.out.other3 (by omega) _ _ _, ((B1.out.setCell (by simp; omega) _).setCell (by simp; omega) _).setCell (by simp; omega) _, ?_, ?_⟩
          · rw [← HM.out, setL_length]; exact hI.out.len
          · rw [← HD.out, ofF, HS.out, HM.out]; rfl
        clear hb2 m0 m1 m2 hI B1 R1 M1
        go_wp2_with fail
        go_roundw
        case rel => exact ⟨k + 1, _, by omega, by go_num, hI2⟩
        case measure => simp [intOf]; omega
    · obtain ⟨f0, f1, f2⟩ := hI.out.r.frozen3
      have r0 := hI.out.r.cell 0
      have r1 := hI.out.r.cell 1
      have r2 := hI.out.r.cell 2
      simp only [List.getElem?_cons_zero, List.getElem?_cons_succ] at r0 r1 r2
      have HRS := Lib.hid (show res = some m by rw [← hI.out.is, show k = L.length by omega, List.drop_length]; rfl)
      go_wp2_with fail
      exact bodyPost_ret (v := .tuple #[.agg #[.int .i64 (m.length : Nat), .int .u64 (lo m : Nat), .int .u64 (hi m : Nat)], .bool true]) (by simp [results, Try.results14, go_sem, r0, r1, r2]) rfl
        ⟨.inl ⟨m, HRS.out, rfl⟩, ((hI.out.old.setCell (by simp) _).setCell (by simp) _).setCell (by simp) _⟩
theorem of_any (n : Int) (L : List Int) (A : Option Addr) (cap : Nat) (w : World) (hL : Lies w w.heap.size 1 A L.length (IL L)) (hm : L.length ≤ maxLen) :
    Calls Try.prog 14 #[.int .i64 n, .slice A L.length cap] w (Ofd w (ofR n L)) := by
  unfold ofR
  split
  · rename_i h
    obtain ⟨k, rfl⟩ : ∃ k : Nat, n = (k : Int) := ⟨n.toNat, by omega⟩
    exact of_good k L A cap w (by omega) (by omega) hL hm
  · exact of_bad n L A cap w (by omega)
end Go.Proofs.Ytfmjnjhocpoafaa
