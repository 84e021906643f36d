/-
  The walk of the law FreemapGives.
  Conditions: the slice reads as a list of numbers.
-/
import Derived.Test.YtfmjnjhocpoafaaG0
namespace Go.Proofs.Ytfmjnjhocpoafaa
open Go.RowKit

/-- What the law's boxes hold. -/
structure GvS (w : World) (b9 b11 bs : Nat) (m t : List Bool) (G : List Nat) (W : World) : Prop where
  m : Row W b9 27 (C3 m)
  t : Row W b11 27 (C3 t)
  s : Row W bs 3 (IN G)
  old : Below w.heap.size w W
section
variable {w : World} {b9 b11 bs : Nat} {m t : List Bool} {G : List Nat} {W W' : World}
theorem GvS.below (h : GvS w b9 b11 bs m t G W) (hb : Below W.heap.size W W') : GvS w b9 b11 bs m t G W' := ⟨h.m.below hb, h.t.below hb, h.s.below hb, chain h.old hb (Nat.le_refl _)⟩
theorem GvS.drew (h : GvS w b9 b11 bs m t G W) : GvS w b9 b11 bs m t G W.drew := h.below ((Below.refl _ _).drew)
theorem GvS.lts (h : GvS w b9 b11 bs m t G W) : b9 < W.heap.size ∧ b11 < W.heap.size ∧ bs < W.heap.size ∧ w.heap.size ≤ W.heap.size := ⟨h.m.lt, h.t.lt, h.s.lt, h.old.size⟩
theorem GvS.store {c : Nat} (h : GvS w b9 b11 bs m t G W) (hc : b9 < c ∧ b11 < c ∧ bs < c ∧ w.heap.size ≤ c) (x y z : Value) : GvS w b9 b11 bs m t G (((W.setCell ⟨c, 0, none⟩ x).setCell ⟨c, 1, none⟩ y).setCell ⟨c, 2, none⟩ z) :=
  ⟨h.m.other3 (by omega) _ _ _, h.t.other3 (by omega) _ _ _, h.s.other3 (by omega) _ _ _, ((h.old.setCell (by simp; omega) _).setCell (by simp; omega) _).setCell (by simp; omega) _⟩
theorem GvS.alloc (h : GvS w b9 b11 bs m t G W) (o : Obj) : GvS w b9 b11 bs m t G (W.alloc o) := h.below ((Below.refl _ _).alloc (Nat.le_refl _) o)
end
set_option maxHeartbeats 1000000 in
theorem gives_none (n : Int) (L : List Int) (A : Option Addr) (cap : Nat) (many : Int) (turn : Bool) (w : World) (hL : Lies w w.heap.size 1 A L.length (IL L)) (hm : L.length ≤ maxLen) (hr : ofR n L = none) :
    Calls Try.prog 5 #[.int .i64 n, .slice A L.length cap, .int .i64 many, .bool turn] w fun e w' => e = .returned (.bool true) ∧ Below w.heap.size w w' := by
  have HL := Lib.hid hL
  have HM := Lib.hid hm
  have HR := Lib.hid hr
  clear hL hm hr
  go_enter Try.func5, Try.ntmps5
  go_wp2_with fail
  refine (of_is HR.out A cap w HL.out HM.out).mono ?_
  rintro e w1 ⟨hh, hb⟩
  obtain rfl : e = .returned (.tuple #[.agg #[.int .i64 0, .int .u64 0, .int .u64 0], .bool false]) := by
    rcases hh with ⟨m, h1, h2⟩ | ⟨h1, h2⟩
    · cases h1
    · exact h2
  have HB := Lib.hid (below_ca (Below.refl _ w) hb (.cells #[.int .i64 0, .int .u64 0, .int .u64 0] 27))
  clear hh hb
  go_wp2_with fail
  refine (works_any _).mono ?_
  rintro e w2 ⟨rfl, hb2⟩
  have HB2 := Lib.hid (chain HB.out hb2 (Nat.le_refl _))
  clear hb2 HB
  go_wp2_with fail
  go_ret
  exact ⟨rfl, HB2.out⟩

set_option maxHeartbeats 1000000 in
theorem gives_not (n : Int) (L : List Int) (A : Option Addr) (cap : Nat) (many : Int) (turn : Bool) (w : World) (hL : Lies w w.heap.size 1 A L.length (IL L)) (hm : L.length ≤ maxLen) (m : List Bool) (hr : ofR n L = some m)
    (c : Int) (hc : (c == 0) = false) (hT : ∀ W : World, Calls Try.prog 10 #[.agg #[.int .i64 (m.length : Nat), .int .u64 (lo m : Nat), .int .u64 (hi m : Nat)], .int .i64 many] W fun e w' => e = .returned (.tuple #[.agg #[.int .i64 (m.length : Nat), .int .u64 (lo m : Nat), .int .u64 (hi m : Nat)], .slice none 0 0, .int .i64 c]) ∧ Below W.heap.size W w') :
    Calls Try.prog 5 #[.int .i64 n, .slice A L.length cap, .int .i64 many, .bool turn] w fun e w' => e = .returned (.bool true) ∧ Below w.heap.size w w' := by
  have HL := Lib.hid hL
  have HM := Lib.hid hm
  have HR := Lib.hid hr
  have HT := Lib.hid hT
  have hq := eq_map (m.length : Nat) (lo m : Nat) (hi m : Nat)
  clear hL hm hr hT
  go_enter Try.func5, Try.ntmps5
  go_wp2_with fail
  refine (of_is HR.out A cap w HL.out HM.out).mono ?_
  rintro e w1 ⟨hh, hb⟩
  obtain rfl : e = .returned (.tuple #[.agg #[.int .i64 (m.length : Nat), .int .u64 (lo m : Nat), .int .u64 (hi m : Nat)], .bool true]) := by
    rcases hh with ⟨m, h1, h2⟩ | ⟨h1, h2⟩
    · cases h1; exact h2
    · cases h1
  have HB := Lib.hid (below_ca (Below.refl _ w) hb (.cells #[.int .i64 (m.length : Nat), .int .u64 (lo m : Nat), .int .u64 (hi m : Nat)] 27))
  have R9 := Lib.hid (Row.new3 w1 m)
  obtain ⟨c0, c1, c2⟩ := R9.out.cells3
  clear hh hb
  go_wp2_with fail
  clear c0 c1 c2
  generalize w1.alloc (.cells #[.int .i64 (m.length : Nat), .int .u64 (lo m : Nat), .int .u64 (hi m : Nat)] 27) = W at R9 HB ⊢
  generalize w1.heap.size = b9 at R9 ⊢
  refine (HT.out W).mono ?_
  rintro e w2 ⟨rfl, hb⟩
  have R9' := Lib.hid (R9.out.ca hb (.cells #[.int .i64 (m.length : Nat), .int .u64 (lo m : Nat), .int .u64 (hi m : Nat)] 27))
  have HB' := Lib.hid (below_ca HB.out hb (.cells #[.int .i64 (m.length : Nat), .int .u64 (lo m : Nat), .int .u64 (hi m : Nat)] 27))
  have R11 := Lib.hid (Row.new3 w2 m)
  clear hb R9 HB
  obtain ⟨c0, c1, c2⟩ := R9'.out.cells3
  obtain ⟨d0, d1, d2⟩ := R11.out.cells3
  go_wp2_with fail
  refine (works_any _).mono ?_
  rintro e w3 ⟨rfl, hb2⟩
  have HB2 := Lib.hid (chain HB'.out hb2 (Nat.le_refl _))
  clear hb2 HB'
  go_wp2_with fail
  go_ret
  exact ⟨rfl, HB2.out⟩

def GvR1 (w : World) (b9 b11 bs : Nat) (m T : List Bool) (G : List Nat) (v : Value) (W : World) : Prop := ∃ k : Nat, k ≤ G.length ∧ v = .int .i64 (k : Int) ∧ Hid (GvS w b9 b11 bs m T G W)
def GvR2 (w : World) (b9 b11 bs : Nat) (m : List Bool) (G : List Nat) (turn : Bool) (v : Value) (W : World) : Prop :=
  ∃ (i : Nat) (t : List Bool), i ≤ G.length ∧ v = .int .i64 (i : Int) ∧ Hid (GvS w b9 b11 bs m t G W) ∧ Hid (IsT m G (left turn G.length i) t)
set_option maxHeartbeats 4000000 in
theorem gives_ok (n : Int) (L : List Int) (A : Option Addr) (cap : Nat) (many : Nat) (turn : Bool) (w : World) (hL : Lies w w.heap.size 1 A L.length (IL L)) (hm : L.length ≤ maxLen) (m : List Bool) (hr : ofR n L = some m) (hk : many ≤ (fr m).length) :
    Calls Try.prog 5 #[.int .i64 n, .slice A L.length cap, .int .i64 many, .bool turn] w fun e w' => e = .returned (.bool true) ∧ Below w.heap.size w w' := by
  have HL := Lib.hid hL
  have HM := Lib.hid hm
  have HR := Lib.hid hr
  have hm120 : m.length ≤ 120 := by have := ofR_length hr; omega
  have HK := Lib.hid hk
  have hfl : (fr m).length ≤ m.length := pg_le m false m.length
  obtain ⟨T, hT⟩ : ∃ T, takeL m many = T := ⟨_, rfl⟩
  obtain ⟨G, hG⟩ : ∃ G, (fr m).take many = G := ⟨_, rfl⟩
  have hGl : G.length = many := by rw [← hG, List.length_take]; omega
  have hT120 : T.length ≤ 120 := by rw [← hT, takeL_length]; exact hm120
  have HGT := Lib.hid (show Got m G by rw [← hG]; exact got_take m many)
  have HIT := Lib.hid (show IsT m G (fun _ => True) T by rw [← hG, ← hT]; exact isT_take m many hk)
  have HTT := Lib.hid hT
  have HGG := Lib.hid hG
  subst hGl
  have hG120 : G.length ≤ 120 := by omega
  have hq := eq_map (m.length : Nat) (lo m : Nat) (hi m : Nat)
  clear hL hm hr hT hG hk hfl
  go_enter Try.func5, Try.ntmps5
  go_wp2_with fail
  refine (of_is HR.out A cap w HL.out HM.out).mono ?_
  rintro e w1 ⟨hh, hb⟩
  obtain rfl : e = .returned (.tuple #[.agg #[.int .i64 (m.length : Nat), .int .u64 (lo m : Nat), .int .u64 (hi m : Nat)], .bool true]) := by
    rcases hh with ⟨m, h1, h2⟩ | ⟨h1, h2⟩
    · cases h1; exact h2
    · cases h1
  have HB := Lib.hid (below_ca (Below.refl _ w) hb (.cells #[.int .i64 (m.length : Nat), .int .u64 (lo m : Nat), .int .u64 (hi m : Nat)] 27))
  have R9 := Lib.hid (Row.new3 w1 m)
  obtain ⟨c0, c1, c2⟩ := R9.out.cells3
  have hw9 : w.heap.size ≤ w1.heap.size := hb.size
  clear hh hb
  go_wp2_with fail
  clear c0 c1 c2
  generalize w1.alloc (.cells #[.int .i64 (m.length : Nat), .int .u64 (lo m : Nat), .int .u64 (hi m : Nat)] 27) = W at R9 HB ⊢
  generalize w1.heap.size = b9 at R9 hw9 ⊢
  refine (take_is HTT.out HGG.out hm120 HK.out W).mono ?_
  rintro e w2 ⟨bs, rfl, hbs, hrs, hb⟩
  have HI : Hid (GvS w b9 w2.heap.size bs m T G (w2.alloc (.cells #[.int .i64 (T.length : Nat), .int .u64 (lo T : Nat), .int .u64 (hi T : Nat)] 27))) := ⟨R9.out.ca hb _, Row.new3 w2 T, hrs.alloc _, below_ca HB.out hb _⟩
  have hbb : b9 < bs ∧ bs < w2.heap.size := ⟨Nat.lt_of_lt_of_le R9.out.lt hbs, hrs.lt⟩
  clear hb R9 HB hbs hrs
  go_wp2_with fail
  generalize w2.alloc (.cells #[.int .i64 (T.length : Nat), .int .u64 (lo T : Nat), .int .u64 (hi T : Nat)] 27) = W2 at HI ⊢
  generalize w2.heap.size = b11 at HI hbb ⊢
  obtain ⟨hb1, hb2⟩ := hbb
  go_loopw [14] (fun v wr => GvR1 w b9 b11 bs m T G v wr) (fun v _ => G.length - (intOf v).toNat)
  case atStart => exact ⟨0, Nat.zero_le _, rfl, HI⟩
  case round =>
    clear HI
    obtain ⟨k, hk, rfl, HI⟩ := hrel
    by_cases hlt : k < G.length
    · have HGK := Lib.hid (IN_get G k hlt)
      have HX1 := Lib.hid (HGT.out.free k hlt)
      have HX2 := Lib.hid ((HIT.out.2 G[k]).2 (.inr ⟨k, trivial, List.getElem?_eq_getElem hlt⟩))
      generalize G[k] = x at HGK HX1 HX2
      go_wp2_with fail
      refine wp_region_held_drew (S := GvS w b9 b11 bs m T G) (by kernel_rfl) HI.out.drew (fun hS => ?_)
      refine takeH (i := 0) (d := 54) (v := ?va0) rfl (by kernel_rfl) (by kernel_rfl) (by kernel_rfl) (fun _ _ _ h => h) rfl (by rfl) ?ya0 hS ?ra0
      case ya0 => (intro wz hz; obtain ⟨q0, q1, q2⟩ := hz.m.cells3; obtain ⟨q3, q4, q5⟩ := hz.t.cells3; have q9 := hz.s.cell k; rw [HGK.out] at q9; go_simp <;> with_reducible rfl)
      simp only [List.setIfInBounds_toArray, List.set_cons_zero, List.set_cons_succ]
      refine takeH (i := 1) (d := 55) (v := ?va1) rfl (by kernel_rfl) (by kernel_rfl) (by kernel_rfl) (fun _ _ _ h => h) rfl (by rfl) ?ya1 hS ?ra1
      case ya1 => (intro wz hz; obtain ⟨q0, q1, q2⟩ := hz.m.cells3; obtain ⟨q3, q4, q5⟩ := hz.t.cells3; have q9 := hz.s.cell k; rw [HGK.out] at q9; go_simp <;> with_reducible rfl)
      simp only [List.setIfInBounds_toArray, List.set_cons_zero, List.set_cons_succ]
      refine takeH (i := 2) (d := 56) (v := ?va2) rfl (by kernel_rfl) (by kernel_rfl) (by kernel_rfl) (fun _ _ _ h => h) rfl (by rfl) ?ya2 hS ?ra2
      case ya2 => (intro wz hz; obtain ⟨q0, q1, q2⟩ := hz.m.cells3; obtain ⟨q3, q4, q5⟩ := hz.t.cells3; have q9 := hz.s.cell k; rw [HGK.out] at q9; go_simp <;> with_reducible rfl)
      simp only [List.setIfInBounds_toArray, List.set_cons_zero, List.set_cons_succ]
      refine takeH (i := 3) (d := 57) (v := ?va3) rfl (by kernel_rfl) (by kernel_rfl) (by kernel_rfl) (fun _ _ _ h => h) rfl (by rfl) ?ya3 hS ?ra3
      case ya3 => (intro wz hz; obtain ⟨q0, q1, q2⟩ := hz.m.cells3; obtain ⟨q3, q4, q5⟩ := hz.t.cells3; have q9 := hz.s.cell k; rw [HGK.out] at q9; go_simp <;> with_reducible rfl)
      simp only [List.setIfInBounds_toArray, List.set_cons_zero, List.set_cons_succ]
      refine takeH (i := 4) (d := 58) (v := ?va4) rfl (by kernel_rfl) (by kernel_rfl) (by kernel_rfl) (fun _ _ _ h => h) rfl (by rfl) ?ya4 hS ?ra4
      case ya4 => (intro wz hz; obtain ⟨q0, q1, q2⟩ := hz.m.cells3; obtain ⟨q3, q4, q5⟩ := hz.t.cells3; have q9 := hz.s.cell k; rw [HGK.out] at q9; go_simp <;> with_reducible rfl)
      simp only [List.setIfInBounds_toArray, List.set_cons_zero, List.set_cons_succ]
      refine wpAnyH_ready (rs := [5]) (by kernel_rfl) (by simp) ?_
      refine AllReadyH.cons rfl (fun K hK => ?_) AllReadyH.nil
      go_simp
      refine (taken_is HX1.out hm120 _).mono ?_
      rintro e wq ⟨rfl, hq⟩
      refine hK.out _ _ (hS.below hq) (fun hT => ?_)
      clear hK hq hS
      have hS := hT
      clear hT
      refine takeH (i := 6) (d := 60) (v := ?va6) rfl (by kernel_rfl) (by kernel_rfl) (by kernel_rfl) (fun _ _ _ h => h) rfl (by rfl) ?ya6 hS ?ra6
      case ya6 => (intro wz hz; obtain ⟨q0, q1, q2⟩ := hz.m.cells3; obtain ⟨q3, q4, q5⟩ := hz.t.cells3; have q9 := hz.s.cell k; rw [HGK.out] at q9; go_simp <;> with_reducible rfl)
      simp only [List.setIfInBounds_toArray, List.set_cons_zero, List.set_cons_succ]
      refine takeH (i := 7) (d := 61) (v := ?va7) rfl (by kernel_rfl) (by kernel_rfl) (by kernel_rfl) (fun _ _ _ h => h) rfl (by rfl) ?ya7 hS ?ra7
      case ya7 => (intro wz hz; obtain ⟨q0, q1, q2⟩ := hz.m.cells3; obtain ⟨q3, q4, q5⟩ := hz.t.cells3; have q9 := hz.s.cell k; rw [HGK.out] at q9; go_simp <;> with_reducible rfl)
      simp only [List.setIfInBounds_toArray, List.set_cons_zero, List.set_cons_succ]
      refine takeH (i := 8) (d := 62) (v := ?va8) rfl (by kernel_rfl) (by kernel_rfl) (by kernel_rfl) (fun _ _ _ h => h) rfl (by rfl) ?ya8 hS ?ra8
      case ya8 => (intro wz hz; obtain ⟨q0, q1, q2⟩ := hz.m.cells3; obtain ⟨q3, q4, q5⟩ := hz.t.cells3; have q9 := hz.s.cell k; rw [HGK.out] at q9; go_simp <;> with_reducible rfl)
      simp only [List.setIfInBounds_toArray, List.set_cons_zero, List.set_cons_succ]
      refine takeH (i := 9) (d := 63) (v := ?va9) rfl (by kernel_rfl) (by kernel_rfl) (by kernel_rfl) (fun _ _ _ h => h) rfl (by rfl) ?ya9 hS ?ra9
      case ya9 => (intro wz hz; obtain ⟨q0, q1, q2⟩ := hz.m.cells3; obtain ⟨q3, q4, q5⟩ := hz.t.cells3; have q9 := hz.s.cell k; rw [HGK.out] at q9; go_simp <;> with_reducible rfl)
      simp only [List.setIfInBounds_toArray, List.set_cons_zero, List.set_cons_succ]
      refine takeH (i := 10) (d := 64) (v := ?va10) rfl (by kernel_rfl) (by kernel_rfl) (by kernel_rfl) (fun _ _ _ h => h) rfl (by rfl) ?ya10 hS ?ra10
      case ya10 => (intro wz hz; obtain ⟨q0, q1, q2⟩ := hz.m.cells3; obtain ⟨q3, q4, q5⟩ := hz.t.cells3; have q9 := hz.s.cell k; rw [HGK.out] at q9; go_simp <;> with_reducible rfl)
      simp only [List.setIfInBounds_toArray, List.set_cons_zero, List.set_cons_succ]
      refine takeH (i := 11) (d := 65) (v := ?va11) rfl (by kernel_rfl) (by kernel_rfl) (by kernel_rfl) (fun _ _ _ h => h) rfl (by rfl) ?ya11 hS ?ra11
      case ya11 => (intro wz hz; obtain ⟨q0, q1, q2⟩ := hz.m.cells3; obtain ⟨q3, q4, q5⟩ := hz.t.cells3; have q9 := hz.s.cell k; rw [HGK.out] at q9; go_simp <;> with_reducible rfl)
      simp only [List.setIfInBounds_toArray, List.set_cons_zero, List.set_cons_succ]
      refine wpAnyH_ready (rs := [12]) (by kernel_rfl) (by simp) ?_
      refine AllReadyH.cons rfl (fun K hK => ?_) AllReadyH.nil
      go_simp
      refine (taken_is HX2.out hT120 _).mono ?_
      rintro e wq2 ⟨rfl, hq⟩
      refine hK.out _ _ (hS.below hq) (fun hT => ?_)
      clear hK hq hS
      have hS := hT
      clear hT
      refine takeH (i := 13) (d := 67) (v := ?va13) rfl (by kernel_rfl) (by kernel_rfl) (by kernel_rfl) (fun _ _ _ h => h) rfl (by rfl) ?ya13 hS ?ra13
      case ya13 => (intro wz hz; obtain ⟨q0, q1, q2⟩ := hz.m.cells3; obtain ⟨q3, q4, q5⟩ := hz.t.cells3; have q9 := hz.s.cell k; rw [HGK.out] at q9; go_simp <;> with_reducible rfl)
      simp only [List.setIfInBounds_toArray, List.set_cons_zero, List.set_cons_succ]
      refine takeH (i := 14) (d := 68) (v := ?va14) rfl (by kernel_rfl) (by kernel_rfl) (by kernel_rfl) (fun _ _ _ h => h) rfl (by rfl) ?ya14 hS ?ra14
      case ya14 => (intro wz hz; obtain ⟨q0, q1, q2⟩ := hz.m.cells3; obtain ⟨q3, q4, q5⟩ := hz.t.cells3; have q9 := hz.s.cell k; rw [HGK.out] at q9; go_simp <;> with_reducible rfl)
      simp only [List.setIfInBounds_toArray, List.set_cons_zero, List.set_cons_succ]
      refine wpAnyH_done (by kernel_rfl) ?_ _
      have HI2 := Lib.hid hS
      clear hS HI
      go_wp2_with fail
      go_roundw
      case rel => exact ⟨k + 1, by omega, by go_num, HI2⟩
      case measure => simp [intOf]; omega
    · go_wp2_with fail
      go_loopw [15] (fun v wr => GvR2 w b9 b11 bs m G turn v wr) (fun v _ => G.length - (intOf v).toNat)
      case atStart => exact ⟨0, T, Nat.zero_le _, rfl, HI, Lib.hid (HIT.out.mono fun j hj => by unfold left; cases turn <;> simp; exact hj)⟩
      case round =>
        clear HI
        obtain ⟨i, t, hil, rfl, HI, HIS0⟩ := hrel
        by_cases hlt2 : i < G.length
        · obtain ⟨k, hk⟩ : ∃ k, k = nextP turn G.length i := ⟨_, rfl⟩
          have hkl : k < G.length := by rw [hk]; unfold nextP; cases turn <;> simp <;> omega
          have HGK := Lib.hid (IN_get G k hkl)
          have hxt := (HIS0.out.2 G[k]).2 (.inr ⟨k, by rw [hk]; unfold left nextP; cases turn <;> simp; omega, List.getElem?_eq_getElem hkl⟩)
          have hxl := HGT.out.lt k hkl
          have HIS := Lib.hid (HIS0.out.give (q := left turn G.length (i + 1)) HGT.out.nodup hkl hxl (HGT.out.free k hkl) (fun j => by rw [hk]; exact left_step turn G.length i j hlt2))
          have HS := Lib.hid (setLB (b := false) (show G[k] < t.length by rw [HIS0.out.1]; exact hxl) hxt)
          have ht120 : t.length ≤ 120 := by rw [HIS0.out.1]; exact hm120
          generalize G[k] = x at HGK hxt hxl HIS HS
          generalize t.set x false = t' at HIS HS
          clear hxt hxl HIS0
          cases turn with
          | false =>
            have hki : i = k := hk.symm
            clear hk
            subst hki
            go_wp2_with fail
            refine wp_region_held_drew (S := GvS w b9 b11 bs m t G) (by kernel_rfl) (HI.out.drew) (fun hS => ?_)
            refine takeH (i := 0) (d := 83) (v := ?vba0) rfl (by kernel_rfl) (by kernel_rfl) (by kernel_rfl) (fun _ _ _ h => h) rfl (by rfl) ?yba0 hS ?rba0
            case yba0 => (intro wz hz; obtain ⟨q3, q4, q5⟩ := hz.t.cells3; have q9 := hz.s.cell i; rw [HGK.out] at q9; go_simp <;> with_reducible rfl)
            simp only [List.setIfInBounds_toArray, List.set_cons_zero, List.set_cons_succ]
            refine takeH (i := 1) (d := 84) (v := ?vba1) rfl (by kernel_rfl) (by kernel_rfl) (by kernel_rfl) (fun _ _ _ h => h) rfl (by rfl) ?yba1 hS ?rba1
            case yba1 => (intro wz hz; obtain ⟨q3, q4, q5⟩ := hz.t.cells3; have q9 := hz.s.cell i; rw [HGK.out] at q9; go_simp <;> with_reducible rfl)
            simp only [List.setIfInBounds_toArray, List.set_cons_zero, List.set_cons_succ]
            refine takeH (i := 2) (d := 85) (v := ?vba2) rfl (by kernel_rfl) (by kernel_rfl) (by kernel_rfl) (fun _ _ _ h => h) rfl (by rfl) ?yba2 hS ?rba2
            case yba2 => (intro wz hz; obtain ⟨q3, q4, q5⟩ := hz.t.cells3; have q9 := hz.s.cell i; rw [HGK.out] at q9; go_simp <;> with_reducible rfl)
            simp only [List.setIfInBounds_toArray, List.set_cons_zero, List.set_cons_succ]
            refine takeH (i := 3) (d := 86) (v := ?vba3) rfl (by kernel_rfl) (by kernel_rfl) (by kernel_rfl) (fun _ _ _ h => h) rfl (by rfl) ?yba3 hS ?rba3
            case yba3 => (intro wz hz; obtain ⟨q3, q4, q5⟩ := hz.t.cells3; have q9 := hz.s.cell i; rw [HGK.out] at q9; go_simp <;> with_reducible rfl)
            simp only [List.setIfInBounds_toArray, List.set_cons_zero, List.set_cons_succ]
            refine takeH (i := 4) (d := 87) (v := ?vba4) rfl (by kernel_rfl) (by kernel_rfl) (by kernel_rfl) (fun _ _ _ h => h) rfl (by rfl) ?yba4 hS ?rba4
            case yba4 => (intro wz hz; obtain ⟨q3, q4, q5⟩ := hz.t.cells3; have q9 := hz.s.cell i; rw [HGK.out] at q9; go_simp <;> with_reducible rfl)
            simp only [List.setIfInBounds_toArray, List.set_cons_zero, List.set_cons_succ]
            refine wpAnyH_ready (rs := [5, 9]) (by kernel_rfl) (by simp) ?_
            refine AllReadyH.cons rfl (fun K hK => ?_) (AllReadyH.cons rfl (fun K hK => ?_) AllReadyH.nil)
            · go_simp
              refine (set_yes HS.out.1 HS.out.2 ht120 _).mono ?_
              rintro e wq ⟨rfl, hq⟩
              refine hK.out _ _ (hS.below hq) (fun hS1 => ?_)
              clear hK
              have HS1 := Lib.hid hS1
              clear hS
              have hS := hS1
              clear hS1
              refine takeH (i := 6) (d := 82) (v := ?vbb6) rfl (by kernel_rfl) (by kernel_rfl) (by kernel_rfl) (fun _ _ _ h => h) rfl (by rfl) ?ybb6 hS ?rbb6
              case ybb6 => (intro wz hz; go_simp <;> with_reducible rfl)
              simp only [List.setIfInBounds_toArray, List.set_cons_zero, List.set_cons_succ]
              refine takeH (i := 7) (d := 89) (v := ?vbb7) rfl (by kernel_rfl) (by kernel_rfl) (by kernel_rfl) (fun _ _ _ h => h) rfl (by rfl) ?ybb7 hS ?rbb7
              case ybb7 => (intro wz hz; go_simp <;> with_reducible rfl)
              simp only [List.setIfInBounds_toArray, List.set_cons_zero, List.set_cons_succ]
              refine takeH (i := 8) (d := 90) (v := ?vbb8) rfl (by kernel_rfl) (by kernel_rfl) (by kernel_rfl) (fun _ _ _ h => h) rfl (by rfl) ?ybb8 hS ?rbb8
              case ybb8 => (intro wz hz; go_simp <;> with_reducible rfl)
              simp only [List.setIfInBounds_toArray, List.set_cons_zero, List.set_cons_succ]
              refine wpAnyH_ready (rs := [9]) (by kernel_rfl) (by simp) ?_
              refine AllReadyH.cons rfl (fun K hK => ?_) AllReadyH.nil
              go_simp
              refine hK.out _ _ (hS.alloc _) (fun hS2 => ?_)
              clear hK
              clear hS
              have hS := hS2
              clear hS2
              refine wpAnyH_ready (rs := [10]) (by kernel_rfl) (by simp) ?_
              refine AllReadyH.cons rfl (fun K hK => ?_) AllReadyH.nil
              go_simp
              refine hK.out _ _ (HS1.out.alloc _) (fun hS3 => ?_)
              clear hK
              clear hS
              have hS := hS3
              clear hS3
              refine takeH (i := 11) (d := 18) (v := ?vbc11) rfl (by kernel_rfl) (by kernel_rfl) (by kernel_rfl) (fun _ _ _ h => h) rfl (by rfl) ?ybc11 hS ?rbc11
              case ybc11 => (intro wz hz; go_simp <;> with_reducible rfl)
              simp only [List.setIfInBounds_toArray, List.set_cons_zero, List.set_cons_succ]
              refine wpAnyH_done (by kernel_rfl) ?_ _
              have H4 := Lib.hid hS
              have RC := Lib.hid (Row.new3 wq t')
              have hcb := (HS1.out.lts)
              clear hS HS1 hq
              generalize wq.alloc (.cells #[.int .i64 (t'.length : Nat), .int .u64 (lo t' : Nat), .int .u64 (hi t' : Nat)] 27) = W4 at H4 RC ⊢
              generalize wq.heap.size = c at RC hcb ⊢
              obtain ⟨q0, q1, q2⟩ := RC.out.cells3
              obtain ⟨q3, q4, q5⟩ := H4.out.t.cells3
              obtain ⟨q6, q7, q8⟩ := H4.out.t.frozen3
              have HI5 : Hid (GvS w b9 b11 bs m t' G (((W4.setCell ⟨b11, 0, none⟩ (.int .i64 (t'.length : Nat))).setCell ⟨b11, 1, none⟩ (.int .u64 (lo t' : Nat))).setCell ⟨b11, 2, none⟩ (.int .u64 (hi t' : Nat)))) :=
                ⟨H4.out.m.other3 (by omega) _ _ _, H4.out.t.set3 t', H4.out.s.other3 (by omega) _ _ _, ((H4.out.old.setCell (by simp; omega) _).setCell (by simp; omega) _).setCell (by simp; omega) _⟩
              clear H4 RC hcb
              go_wp2_with fail
              go_roundw
              case rel => exact ⟨i + 1, t', by omega, by go_num, HI5, HIS⟩
              case measure => simp [intOf]; omega
            · go_simp
              refine hK.out _ _ (hS.alloc _) (fun hS1 => ?_)
              clear hK
              have HS0 := Lib.hid hS
              clear hS
              have hS := hS1
              clear hS1
              refine wpAnyH_ready (rs := [5]) (by kernel_rfl) (by simp) ?_
              refine AllReadyH.cons rfl (fun K hK => ?_) AllReadyH.nil
              go_simp
              refine (set_yes HS.out.1 HS.out.2 ht120 _).mono ?_
              rintro e wq ⟨rfl, hq⟩
              have RZ := Lib.hid (show Row wq wr.heap.size 27 [.int .i64 0, .int .u64 0, .int .u64 0] from (Row.new wr.drew 27 [.int .i64 0, .int .u64 0, .int .u64 0]).below hq)
              have hcb : b9 < wr.heap.size ∧ b11 < wr.heap.size ∧ bs < wr.heap.size ∧ w.heap.size ≤ wr.heap.size := HS0.out.lts
              have z0 := RZ.out.cell 0
              have z1 := RZ.out.cell 1
              have z2 := RZ.out.cell 2
              simp only [List.getElem?_cons_zero, List.getElem?_cons_succ] at z0 z1 z2
              obtain ⟨y0, y1, y2⟩ := RZ.out.frozen3
              refine hK.out _ _ (hS.below hq) (fun hS1 => ?_)
              clear hK
              clear hS
              have hS := hS1
              clear hS1
              refine takeH (i := 6) (d := 82) (v := ?vbd6) rfl (by kernel_rfl) (by kernel_rfl) (by kernel_rfl) (fun _ _ _ h => h) rfl (by rfl) ?ybd6 hS ?rbd6
              case ybd6 => (intro wz hz; go_simp <;> with_reducible rfl)
              simp only [List.setIfInBounds_toArray, List.set_cons_zero, List.set_cons_succ]
              refine takeH (i := 7) (d := 89) (v := ?vbd7) rfl (by kernel_rfl) (by kernel_rfl) (by kernel_rfl) (fun _ _ _ h => h) rfl (by rfl) ?ybd7 hS ?rbd7
              case ybd7 => (intro wz hz; go_simp <;> with_reducible rfl)
              simp only [List.setIfInBounds_toArray, List.set_cons_zero, List.set_cons_succ]
              refine takeH (i := 8) (d := 90) (v := ?vbd8) rfl (by kernel_rfl) (by kernel_rfl) (by kernel_rfl) (fun _ _ _ h => h) rfl (by rfl) ?ybd8 hS ?rbd8
              case ybd8 => (intro wz hz; go_simp <;> with_reducible rfl)
              simp only [List.setIfInBounds_toArray, List.set_cons_zero, List.set_cons_succ]
              refine wpAnyH_ready (rs := [10]) (by kernel_rfl) (by simp) ?_
              refine AllReadyH.cons rfl (fun K hK => ?_) AllReadyH.nil
              go_simp
              refine hK.out _ _ (hS.store hcb _ _ _) (fun hS3 => ?_)
              clear hK
              clear hS
              have hS := hS3
              clear hS3
              refine takeH (i := 11) (d := 18) (v := ?vbe11) rfl (by kernel_rfl) (by kernel_rfl) (by kernel_rfl) (fun _ _ _ h => h) rfl (by rfl) ?ybe11 hS ?rbe11
              case ybe11 => (intro wz hz; go_simp <;> with_reducible rfl)
              simp only [List.setIfInBounds_toArray, List.set_cons_zero, List.set_cons_succ]
              refine wpAnyH_done (by kernel_rfl) ?_ _
              have H4 := Lib.hid hS
              have RC := Lib.hid (show Row (((wq.setCell ⟨wr.heap.size, 0, none⟩ (.int .i64 (t'.length : Nat))).setCell ⟨wr.heap.size, 1, none⟩ (.int .u64 (lo t' : Nat))).setCell ⟨wr.heap.size, 2, none⟩ (.int .u64 (hi t' : Nat))) wr.heap.size 27 (C3 t') from ((RZ.out.set 0 _).set 1 _).set 2 _)
              clear hS HS0 hq RZ z0 z1 z2 y0 y1 y2
              generalize (((wq.setCell ⟨wr.heap.size, 0, none⟩ (.int .i64 (t'.length : Nat))).setCell ⟨wr.heap.size, 1, none⟩ (.int .u64 (lo t' : Nat))).setCell ⟨wr.heap.size, 2, none⟩ (.int .u64 (hi t' : Nat))) = W4 at H4 RC ⊢
              obtain ⟨c, hcc⟩ : ∃ c, c = wr.heap.size := ⟨_, rfl⟩
              rw [← hcc] at RC ⊢
              rw [← hcc] at hcb
              clear hcc
              obtain ⟨q0, q1, q2⟩ := RC.out.cells3
              obtain ⟨q3, q4, q5⟩ := H4.out.t.cells3
              obtain ⟨q6, q7, q8⟩ := H4.out.t.frozen3
              have HI5 : Hid (GvS w b9 b11 bs m t' G (((W4.setCell ⟨b11, 0, none⟩ (.int .i64 (t'.length : Nat))).setCell ⟨b11, 1, none⟩ (.int .u64 (lo t' : Nat))).setCell ⟨b11, 2, none⟩ (.int .u64 (hi t' : Nat)))) :=
                ⟨H4.out.m.other3 (by omega) _ _ _, H4.out.t.set3 t', H4.out.s.other3 (by omega) _ _ _, ((H4.out.old.setCell (by simp; omega) _).setCell (by simp; omega) _).setCell (by simp; omega) _⟩
              clear H4 RC hcb
              go_wp2_with fail
              go_roundw
              case rel => exact ⟨i + 1, t', by omega, by go_num, HI5, HIS⟩
              case measure => simp [intOf]; omega
          | true =>
            have hki : (G.length : Int) - 1 - (i : Int) = (k : Int) := by unfold nextP at hk; simp at hk; omega
            clear hk
            go_wp2_with fail
            refine wp_region_held_drew (S := GvS w b9 b11 bs m t G) (by kernel_rfl) (HI.out.drew) (fun hS => ?_)
            refine takeH (i := 0) (d := 83) (v := ?vca0) rfl (by kernel_rfl) (by kernel_rfl) (by kernel_rfl) (fun _ _ _ h => h) rfl (by rfl) ?yca0 hS ?rca0
            case yca0 => (intro wz hz; obtain ⟨q3, q4, q5⟩ := hz.t.cells3; have q9 := hz.s.cell k; rw [HGK.out] at q9; go_simp <;> with_reducible rfl)
            simp only [List.setIfInBounds_toArray, List.set_cons_zero, List.set_cons_succ]
            refine takeH (i := 1) (d := 84) (v := ?vca1) rfl (by kernel_rfl) (by kernel_rfl) (by kernel_rfl) (fun _ _ _ h => h) rfl (by rfl) ?yca1 hS ?rca1
            case yca1 => (intro wz hz; obtain ⟨q3, q4, q5⟩ := hz.t.cells3; have q9 := hz.s.cell k; rw [HGK.out] at q9; go_simp <;> with_reducible rfl)
            simp only [List.setIfInBounds_toArray, List.set_cons_zero, List.set_cons_succ]
            refine takeH (i := 2) (d := 85) (v := ?vca2) rfl (by kernel_rfl) (by kernel_rfl) (by kernel_rfl) (fun _ _ _ h => h) rfl (by rfl) ?yca2 hS ?rca2
            case yca2 => (intro wz hz; obtain ⟨q3, q4, q5⟩ := hz.t.cells3; have q9 := hz.s.cell k; rw [HGK.out] at q9; go_simp <;> with_reducible rfl)
            simp only [List.setIfInBounds_toArray, List.set_cons_zero, List.set_cons_succ]
            refine takeH (i := 3) (d := 86) (v := ?vca3) rfl (by kernel_rfl) (by kernel_rfl) (by kernel_rfl) (fun _ _ _ h => h) rfl (by rfl) ?yca3 hS ?rca3
            case yca3 => (intro wz hz; obtain ⟨q3, q4, q5⟩ := hz.t.cells3; have q9 := hz.s.cell k; rw [HGK.out] at q9; go_simp <;> with_reducible rfl)
            simp only [List.setIfInBounds_toArray, List.set_cons_zero, List.set_cons_succ]
            refine takeH (i := 4) (d := 87) (v := ?vca4) rfl (by kernel_rfl) (by kernel_rfl) (by kernel_rfl) (fun _ _ _ h => h) rfl (by rfl) ?yca4 hS ?rca4
            case yca4 => (intro wz hz; obtain ⟨q3, q4, q5⟩ := hz.t.cells3; have q9 := hz.s.cell k; rw [HGK.out] at q9; go_simp <;> with_reducible rfl)
            simp only [List.setIfInBounds_toArray, List.set_cons_zero, List.set_cons_succ]
            refine wpAnyH_ready (rs := [5, 9]) (by kernel_rfl) (by simp) ?_
            refine AllReadyH.cons rfl (fun K hK => ?_) (AllReadyH.cons rfl (fun K hK => ?_) AllReadyH.nil)
            · go_simp
              refine (set_yes HS.out.1 HS.out.2 ht120 _).mono ?_
              rintro e wq ⟨rfl, hq⟩
              refine hK.out _ _ (hS.below hq) (fun hS1 => ?_)
              clear hK
              have HS1 := Lib.hid hS1
              clear hS
              have hS := hS1
              clear hS1
              refine takeH (i := 6) (d := 82) (v := ?vcb6) rfl (by kernel_rfl) (by kernel_rfl) (by kernel_rfl) (fun _ _ _ h => h) rfl (by rfl) ?ycb6 hS ?rcb6
              case ycb6 => (intro wz hz; go_simp <;> with_reducible rfl)
              simp only [List.setIfInBounds_toArray, List.set_cons_zero, List.set_cons_succ]
              refine takeH (i := 7) (d := 89) (v := ?vcb7) rfl (by kernel_rfl) (by kernel_rfl) (by kernel_rfl) (fun _ _ _ h => h) rfl (by rfl) ?ycb7 hS ?rcb7
              case ycb7 => (intro wz hz; go_simp <;> with_reducible rfl)
              simp only [List.setIfInBounds_toArray, List.set_cons_zero, List.set_cons_succ]
              refine takeH (i := 8) (d := 90) (v := ?vcb8) rfl (by kernel_rfl) (by kernel_rfl) (by kernel_rfl) (fun _ _ _ h => h) rfl (by rfl) ?ycb8 hS ?rcb8
              case ycb8 => (intro wz hz; go_simp <;> with_reducible rfl)
              simp only [List.setIfInBounds_toArray, List.set_cons_zero, List.set_cons_succ]
              refine wpAnyH_ready (rs := [9]) (by kernel_rfl) (by simp) ?_
              refine AllReadyH.cons rfl (fun K hK => ?_) AllReadyH.nil
              go_simp
              refine hK.out _ _ (hS.alloc _) (fun hS2 => ?_)
              clear hK
              clear hS
              have hS := hS2
              clear hS2
              refine wpAnyH_ready (rs := [10]) (by kernel_rfl) (by simp) ?_
              refine AllReadyH.cons rfl (fun K hK => ?_) AllReadyH.nil
              go_simp
              refine hK.out _ _ (HS1.out.alloc _) (fun hS3 => ?_)
              clear hK
              clear hS
              have hS := hS3
              clear hS3
              refine takeH (i := 11) (d := 18) (v := ?vcc11) rfl (by kernel_rfl) (by kernel_rfl) (by kernel_rfl) (fun _ _ _ h => h) rfl (by rfl) ?ycc11 hS ?rcc11
              case ycc11 => (intro wz hz; go_simp <;> with_reducible rfl)
              simp only [List.setIfInBounds_toArray, List.set_cons_zero, List.set_cons_succ]
              refine wpAnyH_done (by kernel_rfl) ?_ _
              have H4 := Lib.hid hS
              have RC := Lib.hid (Row.new3 wq t')
              have hcb := (HS1.out.lts)
              clear hS HS1 hq
              generalize wq.alloc (.cells #[.int .i64 (t'.length : Nat), .int .u64 (lo t' : Nat), .int .u64 (hi t' : Nat)] 27) = W4 at H4 RC ⊢
              generalize wq.heap.size = c at RC hcb ⊢
              obtain ⟨q0, q1, q2⟩ := RC.out.cells3
              obtain ⟨q3, q4, q5⟩ := H4.out.t.cells3
              obtain ⟨q6, q7, q8⟩ := H4.out.t.frozen3
              have HI5 : Hid (GvS w b9 b11 bs m t' G (((W4.setCell ⟨b11, 0, none⟩ (.int .i64 (t'.length : Nat))).setCell ⟨b11, 1, none⟩ (.int .u64 (lo t' : Nat))).setCell ⟨b11, 2, none⟩ (.int .u64 (hi t' : Nat)))) :=
                ⟨H4.out.m.other3 (by omega) _ _ _, H4.out.t.set3 t', H4.out.s.other3 (by omega) _ _ _, ((H4.out.old.setCell (by simp; omega) _).setCell (by simp; omega) _).setCell (by simp; omega) _⟩
              clear H4 RC hcb
              go_wp2_with fail
              go_roundw
              case rel => exact ⟨i + 1, t', by omega, by go_num, HI5, HIS⟩
              case measure => simp [intOf]; omega
            · go_simp
              refine hK.out _ _ (hS.alloc _) (fun hS1 => ?_)
              clear hK
              have HS0 := Lib.hid hS
              clear hS
              have hS := hS1
              clear hS1
              refine wpAnyH_ready (rs := [5]) (by kernel_rfl) (by simp) ?_
              refine AllReadyH.cons rfl (fun K hK => ?_) AllReadyH.nil
              go_simp
              refine (set_yes HS.out.1 HS.out.2 ht120 _).mono ?_
              rintro e wq ⟨rfl, hq⟩
              have RZ := Lib.hid (show Row wq wr.heap.size 27 [.int .i64 0, .int .u64 0, .int .u64 0] from (Row.new wr.drew 27 [.int .i64 0, .int .u64 0, .int .u64 0]).below hq)
              have hcb : b9 < wr.heap.size ∧ b11 < wr.heap.size ∧ bs < wr.heap.size ∧ w.heap.size ≤ wr.heap.size := HS0.out.lts
              have z0 := RZ.out.cell 0
              have z1 := RZ.out.cell 1
              have z2 := RZ.out.cell 2
              simp only [List.getElem?_cons_zero, List.getElem?_cons_succ] at z0 z1 z2
              obtain ⟨y0, y1, y2⟩ := RZ.out.frozen3
              refine hK.out _ _ (hS.below hq) (fun hS1 => ?_)
              clear hK
              clear hS
              have hS := hS1
              clear hS1
              refine takeH (i := 6) (d := 82) (v := ?vcd6) rfl (by kernel_rfl) (by kernel_rfl) (by kernel_rfl) (fun _ _ _ h => h) rfl (by rfl) ?ycd6 hS ?rcd6
              case ycd6 => (intro wz hz; go_simp <;> with_reducible rfl)
              simp only [List.setIfInBounds_toArray, List.set_cons_zero, List.set_cons_succ]
              refine takeH (i := 7) (d := 89) (v := ?vcd7) rfl (by kernel_rfl) (by kernel_rfl) (by kernel_rfl) (fun _ _ _ h => h) rfl (by rfl) ?ycd7 hS ?rcd7
              case ycd7 => (intro wz hz; go_simp <;> with_reducible rfl)
              simp only [List.setIfInBounds_toArray, List.set_cons_zero, List.set_cons_succ]
              refine takeH (i := 8) (d := 90) (v := ?vcd8) rfl (by kernel_rfl) (by kernel_rfl) (by kernel_rfl) (fun _ _ _ h => h) rfl (by rfl) ?ycd8 hS ?rcd8
              case ycd8 => (intro wz hz; go_simp <;> with_reducible rfl)
              simp only [List.setIfInBounds_toArray, List.set_cons_zero, List.set_cons_succ]
              refine wpAnyH_ready (rs := [10]) (by kernel_rfl) (by simp) ?_
              refine AllReadyH.cons rfl (fun K hK => ?_) AllReadyH.nil
              go_simp
              refine hK.out _ _ (hS.store hcb _ _ _) (fun hS3 => ?_)
              clear hK
              clear hS
              have hS := hS3
              clear hS3
              refine takeH (i := 11) (d := 18) (v := ?vce11) rfl (by kernel_rfl) (by kernel_rfl) (by kernel_rfl) (fun _ _ _ h => h) rfl (by rfl) ?yce11 hS ?rce11
              case yce11 => (intro wz hz; go_simp <;> with_reducible rfl)
              simp only [List.setIfInBounds_toArray, List.set_cons_zero, List.set_cons_succ]
              refine wpAnyH_done (by kernel_rfl) ?_ _
              have H4 := Lib.hid hS
              have RC := Lib.hid (show Row (((wq.setCell ⟨wr.heap.size, 0, none⟩ (.int .i64 (t'.length : Nat))).setCell ⟨wr.heap.size, 1, none⟩ (.int .u64 (lo t' : Nat))).setCell ⟨wr.heap.size, 2, none⟩ (.int .u64 (hi t' : Nat))) wr.heap.size 27 (C3 t') from ((RZ.out.set 0 _).set 1 _).set 2 _)
              clear hS HS0 hq RZ z0 z1 z2 y0 y1 y2
              generalize (((wq.setCell ⟨wr.heap.size, 0, none⟩ (.int .i64 (t'.length : Nat))).setCell ⟨wr.heap.size, 1, none⟩ (.int .u64 (lo t' : Nat))).setCell ⟨wr.heap.size, 2, none⟩ (.int .u64 (hi t' : Nat))) = W4 at H4 RC ⊢
              obtain ⟨c, hcc⟩ : ∃ c, c = wr.heap.size := ⟨_, rfl⟩
              rw [← hcc] at RC ⊢
              rw [← hcc] at hcb
              clear hcc
              obtain ⟨q0, q1, q2⟩ := RC.out.cells3
              obtain ⟨q3, q4, q5⟩ := H4.out.t.cells3
              obtain ⟨q6, q7, q8⟩ := H4.out.t.frozen3
              have HI5 : Hid (GvS w b9 b11 bs m t' G (((W4.setCell ⟨b11, 0, none⟩ (.int .i64 (t'.length : Nat))).setCell ⟨b11, 1, none⟩ (.int .u64 (lo t' : Nat))).setCell ⟨b11, 2, none⟩ (.int .u64 (hi t' : Nat)))) :=
                ⟨H4.out.m.other3 (by omega) _ _ _, H4.out.t.set3 t', H4.out.s.other3 (by omega) _ _ _, ((H4.out.old.setCell (by simp; omega) _).setCell (by simp; omega) _).setCell (by simp; omega) _⟩
              clear H4 RC hcb
              go_wp2_with fail
              go_roundw
              case rel => exact ⟨i + 1, t', by omega, by go_num, HI5, HIS⟩
              case measure => simp [intOf]; omega
        · have HTM := Lib.hid (HIS0.out.none (fun j hj => by unfold left; cases turn <;> simp <;> omega))
          have HI2 : Hid (GvS w b9 b11 bs m m G wr) := by have := HI; rwa [HTM.out] at this
          obtain ⟨q0, q1, q2⟩ := HI2.out.m.cells3
          obtain ⟨q3, q4, q5⟩ := HI2.out.t.cells3
          clear HI HTM HIS0
          go_wp2_with fail
          refine (works_any _).mono ?_
          rintro e w5 ⟨rfl, hb⟩
          have HB5 := Lib.hid (chain HI2.out.old hb (Nat.le_refl _))
          clear hb HI2
          go_wp2_with fail
          go_ret
          exact ⟨rfl, HB5.out⟩
theorem gives_any (n : Int) (L : List Int) (A : Option Addr) (cap : Nat) (many : Int) (turn : Bool) (w : World) (hL : Lies w w.heap.size 1 A L.length (IL L)) (hm : L.length ≤ maxLen) :
    Calls Try.prog 5 #[.int .i64 n, .slice A L.length cap, .int .i64 many, .bool turn] w fun e w' => e = .returned (.bool true) ∧ Below w.heap.size w w' := by
  cases hr : ofR n L with
  | none => exact gives_none n L A cap many turn w hL hm hr
  | some m =>
    have hm120 : m.length ≤ 120 := by have := ofR_length hr; omega
    by_cases h0 : many < 0
    · exact gives_not n L A cap many turn w hL hm m hr 1 rfl (fun W => take_neg m many h0 W)
    · by_cases h1 : ((fr m).length : Int) < many
      · exact gives_not n L A cap many turn w hL hm m hr 6 rfl (fun W => take_full m many hm120 h1 W)
      · obtain ⟨k, rfl⟩ : ∃ k : Nat, many = (k : Int) := ⟨many.toNat, by omega⟩
        exact gives_ok n L A cap k turn w hL hm m hr (by omega)
end Go.Proofs.Ytfmjnjhocpoafaa
