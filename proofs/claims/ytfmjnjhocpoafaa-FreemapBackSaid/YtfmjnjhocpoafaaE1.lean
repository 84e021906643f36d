/-
  The walk of works, the example that each law asks.
  Conditions: none.
-/
import Derived.Test.YtfmjnjhocpoafaaD2
namespace Go.Proofs.Ytfmjnjhocpoafaa
open Go.RowKit

theorem Row.ca {W w' : World} {g : Nat} {t : TypeId} {cs : List Value} (h : Row W g t cs) (hb : Below W.heap.size W w') (o : Obj) : Row (w'.alloc o) g t cs := (h.below hb).alloc o
theorem below_ca {w W w' : World} (h : Below w.heap.size w W) (hb : Below W.heap.size W w') (o : Obj) : Below w.heap.size w (w'.alloc o) := (chain h hb (Nat.le_refl _)).alloc (Nat.le_trans h.size hb.size) o
theorem new_bad0 (w : World) : Calls Try.prog 7 #[.int .i64 0] w fun e w' => e = .returned (.tuple #[.agg #[.int .i64 0, .int .u64 0, .int .u64 0], .int .i64 2]) ∧ Below w.heap.size w w' := new_bad 0 w (by omega)
theorem of_is {n : Int} {L : List Int} {res : Option (List Bool)} (h : ofR n L = res) (A : Option Addr) (cap : Nat) (w : World) (hL : Lies w w.heap.size 1 A L.length (IL L)) (hm : L.length ≤ maxLen) :
    Calls Try.prog 14 #[.int .i64 n, .slice A L.length cap] w (Ofd w res) := by
  subst h
  exact of_any n L A cap w hL hm
/-- What Take returns, by names. -/
def TookAs (w : World) (T : List Bool) (F : List Nat) (n : Nat) (e : Ending) (w' : World) : Prop :=
  ∃ b, e = .returned (.tuple #[.agg #[.int .i64 (T.length : Nat), .int .u64 (lo T : Nat), .int .u64 (hi T : Nat)], .slice (some ⟨b, 0, none⟩) n n, .int .i64 0]) ∧ w.heap.size ≤ b ∧ Row w' b 3 (IN F) ∧ Below w.heap.size w w'
theorem take_is {l T : List Bool} {F : List Nat} {n : Nat} (hT : takeL l n = T) (hF : (fr l).take n = F) (hn : l.length ≤ 120) (h : n ≤ (fr l).length) (w : World) :
    Calls Try.prog 10 #[.agg #[.int .i64 (l.length : Nat), .int .u64 (lo l : Nat), .int .u64 (hi l : Nat)], .int .i64 n] w (TookAs w T F n) := by
  subst hT
  subst hF
  exact take_ok l n hn h w
/-- What the last statement of works reads. -/
def WkS (w : World) (b1 b8 b14 b : Nat) (M T X : List Bool) (z : World) : Prop :=
  Row z b1 27 (C3 M) ∧ Row z b8 27 (C3 T) ∧ Row z b14 27 (C3 X) ∧ Row z b 3 (IN [0, 1, 2]) ∧ Below w.heap.size w z
theorem WkS.below {w : World} {b1 b8 b14 b : Nat} {M T X : List Bool} {z z' : World} (h : WkS w b1 b8 b14 b M T X z) (hb : Below z.heap.size z z') : WkS w b1 b8 b14 b M T X z' :=
  ⟨h.1.below hb, h.2.1.below hb, h.2.2.1.below hb, h.2.2.2.1.below hb, chain h.2.2.2.2 hb (Nat.le_refl _)⟩

set_option maxRecDepth 8000 in
set_option maxHeartbeats 4000000 in
theorem works_any (w : World) : Calls Try.prog 6 #[] w fun e w' => e = .returned (.bool true) ∧ Below w.heap.size w w' := by
  obtain ⟨Z, hZ⟩ : ∃ Z, List.replicate 70 false = Z := ⟨_, rfl⟩
  obtain ⟨M, hM⟩ : ∃ M, setL Z 65 true = M := ⟨_, rfl⟩
  obtain ⟨T, hT⟩ : ∃ T, takeL M 3 = T := ⟨_, rfl⟩
  obtain ⟨X, hX⟩ : ∃ X, ((List.replicate 5 false).set 1 true).set 3 true = X := ⟨_, rfl⟩
  have H1 := Lib.hid (show setB Z 65 true = true by rw [← hZ]; decide +kernel)
  have H2 := Lib.hid (show setL M 70 true = M by rw [← hM, ← hZ]; decide +kernel)
  have H3 := Lib.hid (show setB M 70 true = false by rw [← hM, ← hZ]; decide +kernel)
  have H4 := Lib.hid (show (fr M).length = 69 by rw [← hM, ← hZ]; decide +kernel)
  have H5 := Lib.hid (show (fr M).take 3 = [0, 1, 2] by rw [← hM, ← hZ]; decide +kernel)
  have H6 := Lib.hid (show (pg T false T.length).length = 66 by rw [← hT, ← hM, ← hZ]; decide +kernel)
  have H7 := Lib.hid (show firstI (pg T false T.length) = 3 by rw [← hT, ← hM, ← hZ]; decide +kernel)
  have H8 := Lib.hid (show tk T 65 = true by rw [← hT, ← hM, ← hZ]; decide +kernel)
  have H9 := Lib.hid (show T.length = 70 by rw [← hT, ← hM, ← hZ]; decide +kernel)
  have H10 := Lib.hid (show ofR 5 [1, 3] = some X by rw [← hX]; decide +kernel)
  have H11 := Lib.hid (show ofR 5 [1, 1] = none by decide +kernel)
  have H12 := Lib.hid (show (pg X false X.length).length = 3 by rw [← hX]; decide +kernel)
  have H13 := Lib.hid (show Z.length ≤ 120 by rw [← hZ]; decide +kernel)
  have H14 := Lib.hid (show M.length ≤ 120 by rw [← hM, ← hZ]; decide +kernel)
  have H15 := Lib.hid (show X.length ≤ 120 by rw [← hX]; decide +kernel)
  have H16 := Lib.hid (show T.length ≤ 120 by rw [H9.out]; omega)
  have HZ := Lib.hid hZ
  have HM := Lib.hid hM
  have HT := Lib.hid hT
  clear hZ hM hT hX
  go_enter Try.func6, Try.ntmps6
  go_wp2_with fail
  refine (new_is 70 Z HZ.out _ (by omega) (by omega)).mono ?_
  rintro e w1 ⟨rfl, hb⟩
  have R1 := Lib.hid (Row.new3 w1 Z)
  have B := Lib.hid (below_ca (Below.refl _ w) hb (.cells #[.int .i64 (Z.length : Nat), .int .u64 (lo Z : Nat), .int .u64 (hi Z : Nat)] 27))
  obtain ⟨b1, hb1⟩ : ∃ b, b = w1.heap.size := ⟨_, rfl⟩
  have hw1 : w.heap.size ≤ b1 := by rw [hb1]; exact hb.size
  have HB1 := Lib.hid hb1
  clear hb hb1
  go_wp2_with fail
  rw [← HB1.out] at R1 ⊢
  clear HB1
  generalize w1.alloc (.cells #[.int .i64 (Z.length : Nat), .int .u64 (lo Z : Nat), .int .u64 (hi Z : Nat)] 27) = W at R1 B ⊢
  refine (new_bad0 W).mono ?_
  rintro e w2 ⟨rfl, hb⟩
  have R1' := Lib.hid (R1.out.ca hb (.cells #[.int .i64 0, .int .u64 0, .int .u64 0] 27))
  have B' := Lib.hid (below_ca B.out hb (.cells #[.int .i64 0, .int .u64 0, .int .u64 0] 27))
  clear hb R1 B
  have R1 := R1'
  have B := B'
  clear R1' B'
  obtain ⟨c0, c1, c2⟩ := R1.out.cells3
  go_wp2_with fail
  generalize w2.alloc (.cells #[.int .i64 0, .int .u64 0, .int .u64 0] 27) = W at R1 B c0 c1 c2 ⊢
  refine (set_yes HM.out H1.out H13.out _).mono ?_
  rintro e w3 ⟨rfl, hb⟩
  have R1' := Lib.hid (R1.out.below hb)
  have B' := Lib.hid (chain B.out hb (Nat.le_refl _))
  clear hb R1 B c0 c1 c2
  obtain ⟨c0, c1, c2⟩ := R1'.out.cells3
  obtain ⟨f0, f1, f2⟩ := R1'.out.frozen3
  have R1 := Lib.hid (R1'.out.set3 M)
  have B := Lib.hid (((B'.out.setCell (p := ⟨b1, 0, none⟩) hw1 (.int .i64 (M.length : Nat))).setCell (p := ⟨b1, 1, none⟩) hw1 (.int .u64 (lo M : Nat))).setCell (p := ⟨b1, 2, none⟩) hw1 (.int .u64 (hi M : Nat)))
  clear R1' B'
  go_wp2_with fail
  generalize ((w3.setCell ⟨b1, 0, none⟩ (.int .i64 (M.length : Nat))).setCell ⟨b1, 1, none⟩ (.int .u64 (lo M : Nat))).setCell ⟨b1, 2, none⟩ (.int .u64 (hi M : Nat)) = W at R1 B ⊢
  clear c0 c1 c2 f0 f1 f2
  refine (set_yes H2.out H3.out H14.out _).mono ?_
  rintro e w4 ⟨rfl, hb⟩
  have R1' := Lib.hid (R1.out.ca hb (.cells #[.int .i64 (M.length : Nat), .int .u64 (lo M : Nat), .int .u64 (hi M : Nat)] 27))
  have B' := Lib.hid (below_ca B.out hb (.cells #[.int .i64 (M.length : Nat), .int .u64 (lo M : Nat), .int .u64 (hi M : Nat)] 27))
  clear hb R1 B
  have R1 := R1'
  have B := B'
  clear R1' B'
  obtain ⟨c0, c1, c2⟩ := R1.out.cells3
  go_wp2_with fail
  generalize w4.alloc (.cells #[.int .i64 (M.length : Nat), .int .u64 (lo M : Nat), .int .u64 (hi M : Nat)] 27) = W at R1 B c0 c1 c2 ⊢
  clear c0 c1 c2
  refine (take_is (n := 3) HT.out H5.out H14.out (by rw [H4.out]; omega) W).mono ?_
  rintro e w5 ⟨b, rfl, hwb, hrb, hb⟩
  have RS := Lib.hid (hrb.alloc (.cells #[.int .i64 (T.length : Nat), .int .u64 (lo T : Nat), .int .u64 (hi T : Nat)] 27))
  have R8 := Lib.hid (Row.new3 w5 T)
  have R1' := Lib.hid (R1.out.ca hb (.cells #[.int .i64 (T.length : Nat), .int .u64 (lo T : Nat), .int .u64 (hi T : Nat)] 27))
  have B' := Lib.hid (below_ca B.out hb (.cells #[.int .i64 (T.length : Nat), .int .u64 (lo T : Nat), .int .u64 (hi T : Nat)] 27))
  clear hb R1 B hwb hrb
  have R1 := R1'
  have B := B'
  clear R1' B'
  obtain ⟨c0, c1, c2⟩ := R1.out.cells3
  obtain ⟨b8, hb8⟩ : ∃ b, b = w5.heap.size := ⟨_, rfl⟩
  have HB8 := Lib.hid hb8
  clear hb8
  go_wp2_with fail
  rw [← HB8.out] at R8 ⊢
  clear HB8
  generalize w5.alloc (.cells #[.int .i64 (T.length : Nat), .int .u64 (lo T : Nat), .int .u64 (hi T : Nat)] 27) = W at R1 R8 RS B c0 c1 c2 ⊢
  clear c0 c1 c2
  refine (take_full M 70 H14.out (by rw [H4.out]; omega) W).mono ?_
  rintro e w6 ⟨rfl, hb⟩
  have R1' := Lib.hid ((R1.out.ca hb (.cells #[.int .i64 (M.length : Nat), .int .u64 (lo M : Nat), .int .u64 (hi M : Nat)] 27)).alloc (.cells #[.int .i64 1, .int .i64 3] 3))
  have R8' := Lib.hid ((R8.out.ca hb (.cells #[.int .i64 (M.length : Nat), .int .u64 (lo M : Nat), .int .u64 (hi M : Nat)] 27)).alloc (.cells #[.int .i64 1, .int .i64 3] 3))
  have RS' := Lib.hid ((RS.out.ca hb (.cells #[.int .i64 (M.length : Nat), .int .u64 (lo M : Nat), .int .u64 (hi M : Nat)] 27)).alloc (.cells #[.int .i64 1, .int .i64 3] 3))
  have B' := Lib.hid ((below_ca B.out hb (.cells #[.int .i64 (M.length : Nat), .int .u64 (lo M : Nat), .int .u64 (hi M : Nat)] 27)).alloc (by have := B.out.size; have := hb.size; simp; omega) (.cells #[.int .i64 1, .int .i64 3] 3))
  have RL := Lib.hid (show Row ((w6.alloc (.cells #[.int .i64 (M.length : Nat), .int .u64 (lo M : Nat), .int .u64 (hi M : Nat)] 27)).alloc (.cells #[.int .i64 1, .int .i64 3] 3)) (w6.heap.size + 1) 3 (IL [1, 3]) by
    have := Row.new (w6.alloc (.cells #[.int .i64 (M.length : Nat), .int .u64 (lo M : Nat), .int .u64 (hi M : Nat)] 27)) 3 (IL [1, 3])
    rwa [World.size_alloc] at this)
  clear hb R1 R8 RS B
  have R1 := R1'
  have R8 := R8'
  have RS := RS'
  have B := B'
  clear R1' R8' RS' B'
  go_wp2_with fail
  generalize (w6.alloc (.cells #[.int .i64 (M.length : Nat), .int .u64 (lo M : Nat), .int .u64 (hi M : Nat)] 27)).alloc (.cells #[.int .i64 1, .int .i64 3] 3) = W at R1 R8 RS RL B ⊢
  refine (of_is (L := [1, 3]) H10.out _ 2 W (lies_row RL.out rfl (by simp [IL])) (by simp [maxLen])).mono ?_
  rintro e w7 ⟨hh, hb⟩
  obtain rfl : e = .returned (.tuple #[.agg #[.int .i64 (X.length : Nat), .int .u64 (lo X : Nat), .int .u64 (hi X : Nat)], .bool true]) := by
    rcases hh with ⟨m, h1, h2⟩ | ⟨h1, h2⟩
    · cases h1; exact h2
    · cases h1
  have R1' := Lib.hid ((R1.out.ca hb (.cells #[.int .i64 (X.length : Nat), .int .u64 (lo X : Nat), .int .u64 (hi X : Nat)] 27)).alloc (.cells #[.int .i64 1, .int .i64 1] 3))
  have R8' := Lib.hid ((R8.out.ca hb (.cells #[.int .i64 (X.length : Nat), .int .u64 (lo X : Nat), .int .u64 (hi X : Nat)] 27)).alloc (.cells #[.int .i64 1, .int .i64 1] 3))
  have RS' := Lib.hid ((RS.out.ca hb (.cells #[.int .i64 (X.length : Nat), .int .u64 (lo X : Nat), .int .u64 (hi X : Nat)] 27)).alloc (.cells #[.int .i64 1, .int .i64 1] 3))
  have R14 := Lib.hid ((Row.new3 w7 X).alloc (.cells #[.int .i64 1, .int .i64 1] 3))
  have B' := Lib.hid ((below_ca B.out hb (.cells #[.int .i64 (X.length : Nat), .int .u64 (lo X : Nat), .int .u64 (hi X : Nat)] 27)).alloc (by have := B.out.size; have := hb.size; simp; omega) (.cells #[.int .i64 1, .int .i64 1] 3))
  clear RL
  have RL := Lib.hid (show Row ((w7.alloc (.cells #[.int .i64 (X.length : Nat), .int .u64 (lo X : Nat), .int .u64 (hi X : Nat)] 27)).alloc (.cells #[.int .i64 1, .int .i64 1] 3)) (w7.heap.size + 1) 3 (IL [1, 1]) by
    have := Row.new (w7.alloc (.cells #[.int .i64 (X.length : Nat), .int .u64 (lo X : Nat), .int .u64 (hi X : Nat)] 27)) 3 (IL [1, 1])
    rwa [World.size_alloc] at this)
  clear hb R1 R8 RS B hh
  have R1 := R1'
  have R8 := R8'
  have RS := RS'
  have B := B'
  clear R1' R8' RS' B'
  obtain ⟨b14, hb14⟩ : ∃ b, b = w7.heap.size := ⟨_, rfl⟩
  have HB14 := Lib.hid hb14
  clear hb14
  go_wp2_with fail
  generalize (w7.alloc (.cells #[.int .i64 (X.length : Nat), .int .u64 (lo X : Nat), .int .u64 (hi X : Nat)] 27)).alloc (.cells #[.int .i64 1, .int .i64 1] 3) = W at R1 R8 R14 RS RL B ⊢
  rw [← HB14.out] at R14 RL ⊢
  clear HB14
  refine (of_is (L := [1, 1]) H11.out _ 2 W (lies_row RL.out rfl (by simp [IL])) (by simp [maxLen])).mono ?_
  rintro e w8 ⟨hh, hb⟩
  obtain rfl : e = .returned (.tuple #[.agg #[.int .i64 0, .int .u64 0, .int .u64 0], .bool false]) := by
    rcases hh with ⟨m, h1, h2⟩ | ⟨h1, h2⟩
    · cases h1
    · exact h2
  have S := Lib.hid (show WkS w b1 b8 b14 b M T X (w8.alloc (.cells #[.int .i64 0, .int .u64 0, .int .u64 0] 27)) from
    ⟨R1.out.ca hb _, R8.out.ca hb _, R14.out.ca hb _, RS.out.ca hb _, below_ca B.out hb _⟩)
  clear hb R1 R8 RS R14 B hh RL
  obtain ⟨q0, q1, q2⟩ := S.out.1.cells3
  obtain ⟨q3, q4, q5⟩ := S.out.2.1.cells3
  obtain ⟨q6, q7, q8⟩ := S.out.2.2.1.cells3
  have q9 := S.out.2.2.2.1.cell 2
  simp only [IN, List.map_cons, List.getElem?_cons_zero, List.getElem?_cons_succ] at q9
  go_wp2_with fail
  clear q9
  refine (free_any T H16.out _).mono ?_
  rw [H6.out]
  rintro e y1 ⟨rfl, hb⟩
  have S' := Lib.hid (S.out.below hb)
  clear hb S q0 q1 q2 q3 q4 q5 q6 q7 q8
  have S := S'
  clear S'
  obtain ⟨q0, q1, q2⟩ := S.out.1.cells3
  obtain ⟨q3, q4, q5⟩ := S.out.2.1.cells3
  obtain ⟨q6, q7, q8⟩ := S.out.2.2.1.cells3
  go_wp2_with fail
  refine (first_any T H16.out _).mono ?_
  rw [H7.out]
  rintro e y2 ⟨rfl, hb⟩
  have S' := Lib.hid (S.out.below hb)
  clear hb S q0 q1 q2 q3 q4 q5 q6 q7 q8
  have S := S'
  clear S'
  obtain ⟨q0, q1, q2⟩ := S.out.1.cells3
  obtain ⟨q3, q4, q5⟩ := S.out.2.1.cells3
  obtain ⟨q6, q7, q8⟩ := S.out.2.2.1.cells3
  go_wp2_with fail
  refine (taken_is H8.out H16.out _).mono ?_
  rintro e y3 ⟨rfl, hb⟩
  have S' := Lib.hid (S.out.below hb)
  clear hb S q0 q1 q2 q3 q4 q5 q6 q7 q8
  have S := S'
  clear S'
  obtain ⟨q0, q1, q2⟩ := S.out.1.cells3
  obtain ⟨q3, q4, q5⟩ := S.out.2.1.cells3
  obtain ⟨q6, q7, q8⟩ := S.out.2.2.1.cells3
  go_wp2_with fail
  refine (free_any X H15.out _).mono ?_
  rw [H12.out]
  rintro e y4 ⟨rfl, hb⟩
  have S' := Lib.hid (S.out.below hb)
  clear hb S q0 q1 q2 q3 q4 q5 q6 q7 q8
  have S := S'
  clear S'
  obtain ⟨q0, q1, q2⟩ := S.out.1.cells3
  obtain ⟨q3, q4, q5⟩ := S.out.2.1.cells3
  obtain ⟨q6, q7, q8⟩ := S.out.2.2.1.cells3
  go_wp2_with fail
  refine (free_any M H14.out _).mono ?_
  rw [show (pg M false M.length).length = 69 from H4.out]
  rintro e y5 ⟨rfl, hb⟩
  have S' := Lib.hid (S.out.below hb)
  clear hb S q0 q1 q2 q3 q4 q5 q6 q7 q8
  have S := S'
  clear S'
  obtain ⟨q0, q1, q2⟩ := S.out.1.cells3
  obtain ⟨q3, q4, q5⟩ := S.out.2.1.cells3
  obtain ⟨q6, q7, q8⟩ := S.out.2.2.1.cells3
  go_wp2_with fail
  refine (len_any T _).mono ?_
  rw [H9.out]
  rintro e y6 ⟨rfl, hb⟩
  have S' := Lib.hid (S.out.below hb)
  clear hb S q0 q1 q2 q3 q4 q5 q6 q7 q8
  have S := S'
  clear S'
  obtain ⟨q0, q1, q2⟩ := S.out.1.cells3
  obtain ⟨q3, q4, q5⟩ := S.out.2.1.cells3
  obtain ⟨q6, q7, q8⟩ := S.out.2.2.1.cells3
  go_wp2_with fail
  go_ret
  exact ⟨rfl, S.out.2.2.2.2⟩
end Go.Proofs.Ytfmjnjhocpoafaa
