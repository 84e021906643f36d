/-
  The walk of the law FreemapDoes.
  Conditions: the slice reads as a list of acts.
-/
import Derived.Test.YtfmjnjhocpoafaaH1
import Derived.Deep.Cut
import Derived.Deep.CutRange
namespace Go.Proofs.Ytfmjnjhocpoafaa
open Go.RowKit

/-- A slice of acts: the act at place i. -/
structure Acts (w : World) (B : Nat) (A : Option Addr) (L : List (Int × Int)) : Prop where
  spot : ∀ i (h : i < L.length), ∃ b off, A = some ⟨b, off, none⟩ ∧ b < B ∧ w.cell? ⟨b, off + i * 2, none⟩ = some (.int .i64 L[i].1) ∧ w.cell? ⟨b, off + i * 2 + 1, none⟩ = some (.int .i64 L[i].2)

set_option maxHeartbeats 800000 in
theorem does_big (n : Int) (A : Option Addr) (len cap : Nat) (w : World) (h : 80 < len ∨ 200 < n) :
    Calls Try.prog 3 #[.int .i64 n, .slice A len cap] w fun e w' => e = .returned (.bool true) ∧ Below w.heap.size w w' := by
  by_cases h0 : 80 < len
  · have d0 : decide (80 < len) = true := by simpa using h0
    have d1 : decide ((80 : Int) < (len : Int)) = true := by simp; omega
    clear h
    go_enter Try.func3, Try.ntmps3
    go_wp2_with (go_at_call 6; refine (works_any _).mono ?_; rintro e w' ⟨rfl, hb⟩)
    go_ret
    exact ⟨rfl, hb⟩
  · have d0 : decide (80 < len) = false := by simpa using h0
    have d1 : decide ((80 : Int) < (len : Int)) = false := by simp; omega
    have h1 : 200 < n := by omega
    have d2 : decide (200 < n) = true := by simpa using h1
    clear h
    go_enter Try.func3, Try.ntmps3
    go_wp2_with (go_at_call 6; refine (works_any _).mono ?_; rintro e w' ⟨rfl, hb⟩)
    go_ret
    exact ⟨rfl, hb⟩
set_option maxHeartbeats 800000 in
theorem does_bad (n : Int) (A : Option Addr) (len cap : Nat) (w : World) (h : len ≤ 80) (h2 : n ≤ 200) (hn : n < 1 ∨ 120 < n) :
    Calls Try.prog 3 #[.int .i64 n, .slice A len cap] w fun e w' => e = .returned (.bool true) ∧ Below w.heap.size w w' := by
  have d0 : decide (80 < len) = false := by simp; omega
  have d1 : decide ((80 : Int) < (len : Int)) = false := by simp; omega
  have d2 : decide (200 < n) = false := by simp; omega
  have HN := Lib.hid hn
  by_cases h0 : n < 1
  · have d3 : decide (n < 1) = true := by simpa using h0
    clear hn
    go_enter Try.func3, Try.ntmps3
    go_wp2_with fail
    refine (new_bad n _ HN.out).mono ?_
    rintro e w1 ⟨rfl, hb⟩
    have HB := Lib.hid (below_ca (Below.refl _ w) hb (.cells #[.int .i64 0, .int .u64 0, .int .u64 0] 27))
    clear hb
    go_wp2_with fail
    refine (works_any _).mono ?_
    rintro e w2 ⟨rfl, hb2⟩
    have HB2 := Lib.hid (chain HB.out hb2 (Nat.le_refl _))
    clear hb2 HB
    go_wp2_with fail
    go_ret
    exact ⟨rfl, HB2.out⟩
  · have d3 : decide (n < 1) = false := by simp; omega
    have d4 : decide (120 < n) = true := by simp; omega
    clear hn
    go_enter Try.func3, Try.ntmps3
    go_wp2_with fail
    refine (new_bad n _ HN.out).mono ?_
    rintro e w1 ⟨rfl, hb⟩
    have HB := Lib.hid (below_ca (Below.refl _ w) hb (.cells #[.int .i64 0, .int .u64 0, .int .u64 0] 27))
    clear hb
    go_wp2_with fail
    refine (works_any _).mono ?_
    rintro e w2 ⟨rfl, hb2⟩
    have HB2 := Lib.hid (chain HB.out hb2 (Nat.le_refl _))
    clear hb2 HB
    go_wp2_with fail
    go_ret
    exact ⟨rfl, HB2.out⟩

/-- The law's map and the reference's list, between two rounds. -/
structure DoI (w : World) (b5 : Nat) (n : Nat) (A : Option Addr) (c : List Bool) (W : World) : Prop where
  m : Row W b5 27 (C3 c)
  l : Lies W W.heap.size 1 A n (BL c)
  len : c.length = n
  old : Below w.heap.size w W
theorem DoI.below {w : World} {b5 n : Nat} {A : Option Addr} {c : List Bool} {W W' : World} (h : DoI w b5 n A c W) (hb : Below W.heap.size W W') : DoI w b5 n A c W' := ⟨h.m.below hb, h.l.below hb, h.len, chain h.old hb (Nat.le_refl _)⟩
/-- Within a round: the map, the copy of it, the reference's list. -/
structure DoW (w : World) (b5 B n : Nat) (A : Option Addr) (c : List Bool) (W : World) : Prop where
  m : Row W b5 27 (C3 c)
  was : Row W B 27 (C3 c)
  l : Lies W B 1 A n (BL c)
  old : Below w.heap.size w W
section
variable {w : World} {b5 B n : Nat} {A : Option Addr} {c : List Bool} {W W' : World}
theorem DoW.bnd (h : DoW w b5 B n A c W) : B ≤ W.heap.size := Nat.le_of_lt h.was.lt
theorem DoW.below (h : DoW w b5 B n A c W) (hb : Below W.heap.size W W') : DoW w b5 B n A c W' := ⟨h.m.below hb, h.was.below hb, h.l.under (hb.mono h.bnd), chain h.old hb (Nat.le_refl _)⟩
theorem DoW.drew (h : DoW w b5 B n A c W) : DoW w b5 B n A c W.drew := h.below ((Below.refl _ _).drew)
theorem DoW.alloc (h : DoW w b5 B n A c W) (o : Obj) : DoW w b5 B n A c (W.alloc o) := h.below ((Below.refl _ _).alloc (Nat.le_refl _) o)
theorem DoW.lts (h : DoW w b5 B n A c W) : b5 < W.heap.size ∧ B < W.heap.size ∧ w.heap.size ≤ W.heap.size := ⟨h.m.lt, h.was.lt, h.old.size⟩
theorem DoW.store {d : Nat} (h : DoW w b5 B n A c W) (hc : b5 < d ∧ B < d ∧ w.heap.size ≤ d) (x y z : Value) : DoW w b5 B n A c (((W.setCell ⟨d, 0, none⟩ x).setCell ⟨d, 1, none⟩ y).setCell ⟨d, 2, none⟩ z) :=
  ⟨h.m.other3 (by omega) _ _ _, h.was.other3 (by omega) _ _ _, ((h.l.setCell (by simp; omega) _).setCell (by simp; omega) _).setCell (by simp; omega) _, ((h.old.setCell (by simp; omega) _).setCell (by simp; omega) _).setCell (by simp; omega) _⟩
end
theorem Lies.ne {w : World} {B n g : Nat} {A : Option Addr} {c c2 : List Bool} (h : Lies w B 1 A n (BL c)) (hn : 0 < n) (hr : Row w g 27 (C3 c2)) : ∀ a, A = some a → a.block ≠ g := by
  rintro a rfl e
  obtain ⟨a', u, ha, _, hu, hc⟩ := h.get hn
  cases ha
  have hl : 0 < c.length := by have := h.len; rw [BL_length] at this; omega
  rw [BL_get c 0 hl] at hu
  cases hu
  rw [show a.add 0 = a from by simp [Addr.add]] at hc
  obtain ⟨blk, off, spot⟩ := a
  have hs : spot = none := by simpa using World.cell?_spot hc
  subst hs
  subst e
  rw [hr.cell off] at hc
  match off, hc with
  | 0, hc => simp [C3] at hc
  | 1, hc => simp [C3] at hc
  | 2, hc => simp [C3] at hc
  | k + 3, hc => simp [C3] at hc
theorem Lies.past {w : World} {B n g o : Nat} {A : Option Addr} {xs : List Value} (h : Lies w B 1 A n xs) (hne : 0 < n → ∀ a, A = some a → a.block ≠ g) (v : Value) : Lies (w.setCell ⟨g, o, none⟩ v) B 1 A n xs := by
  refine ⟨h.len, fun hn => ?_⟩
  obtain ⟨a, ha, hb, hx⟩ := h.spot hn
  refine ⟨a, ha, hb, fun j u hu => ?_⟩
  rw [World.cell?_setCell_other]
  · exact hx j u hu
  · intro e
    exact hne hn a ha (by rw [← add_block a j, ← e])
theorem Lies.past3 {w : World} {B n g : Nat} {A : Option Addr} {c c2 : List Bool} (h : Lies w B 1 A n (BL c)) (hr : Row w g 27 (C3 c2)) (x y z : Value) : Lies (((w.setCell ⟨g, 0, none⟩ x).setCell ⟨g, 1, none⟩ y).setCell ⟨g, 2, none⟩ z) B 1 A n (BL c) :=
  ((h.past (fun hn => h.ne hn hr) x).past (fun hn => h.ne hn hr) y).past (fun hn => h.ne hn hr) z
theorem Lies.size3 {w : World} {n g : Nat} {A : Option Addr} {xs : List Value} {x y z : Value} (h : Lies (((w.setCell ⟨g, 0, none⟩ x).setCell ⟨g, 1, none⟩ y).setCell ⟨g, 2, none⟩ z) w.heap.size 1 A n xs) :
    Lies (((w.setCell ⟨g, 0, none⟩ x).setCell ⟨g, 1, none⟩ y).setCell ⟨g, 2, none⟩ z) (((w.setCell ⟨g, 0, none⟩ x).setCell ⟨g, 1, none⟩ y).setCell ⟨g, 2, none⟩ z).heap.size 1 A n xs := h.up (by simp)
/-- At the end of a round: the new map, the old one, both lists. -/
structure DoT (w : World) (b5 B n : Nat) (A A7 : Option Addr) (c' c : List Bool) (W : World) : Prop where
  m : Row W b5 27 (C3 c')
  was : Row W B 27 (C3 c)
  l : Lies W W.heap.size 1 A n (BL c')
  ol : Lies W W.heap.size 1 A7 n (BL c)
  old : Below w.heap.size w W
theorem DoT.below {w : World} {b5 B n : Nat} {A A7 : Option Addr} {c' c : List Bool} {W W' : World} (h : DoT w b5 B n A A7 c' c W) (hb : Below W.heap.size W W') : DoT w b5 B n A A7 c' c W' :=
  ⟨h.m.below hb, h.was.below hb, h.l.below hb, h.ol.below hb, chain h.old hb (Nat.le_refl _)⟩
def DoR (w : World) (b5 n N : Nat) (r i : Value) (W : World) : Prop := ∃ (k : Nat) (c : List Bool) (A : Option Addr) (cp : Nat), k ≤ N ∧ r = .slice A n cp ∧ i = .int .i64 (k : Int) ∧ Hid (DoI w b5 n A c W)
set_option maxRecDepth 8000 in
set_option maxHeartbeats 2000000 in
theorem does_ok (n : Nat) (A : Option Addr) (cap : Nat) (L : List (Int × Int)) (w : World) (h : L.length ≤ 80) (h1 : 1 ≤ n) (h2 : n ≤ 120) (hL : Acts w w.heap.size A L) :
    Calls Try.prog 3 #[.int .i64 n, .slice A L.length cap] w fun e w' => e = .returned (.bool true) ∧ Below w.heap.size w w' := by
  have d0 : decide (80 < L.length) = false := by simp; omega
  have d1 : decide ((80 : Int) < (L.length : Int)) = false := by simp; omega
  have d2 : decide ((200 : Int) < (n : Int)) = false := by simp; omega
  have d2' : decide (200 < n) = false := by simp; omega
  have d3 : decide ((n : Int) < 1) = false := by simp; omega
  have d4 : decide ((120 : Int) < (n : Int)) = false := by simp; omega
  have d4' : decide (120 < n) = false := by simp; omega
  obtain ⟨Z, hZ⟩ : ∃ Z, List.replicate n false = Z := ⟨_, rfl⟩
  have HZ := Lib.hid hZ
  have HZL := Lib.hid (show Z.length = n by rw [← hZ]; simp)
  have hmk := make_bools n (by omega)
  rw [hZ] at hmk
  have HL := Lib.hid hL
  clear hL hZ
  go_enter Try.func3, Try.ntmps3
  go_wp2_with fail
  refine (new_is n Z HZ.out _ h1 h2).mono ?_
  rintro e w1 ⟨rfl, hb⟩
  have HI : Hid (DoI w w1.heap.size n (some ⟨w1.heap.size + 1, 0, none⟩) Z ((w1.alloc (.cells #[.int .i64 (Z.length : Nat), .int .u64 (lo Z : Nat), .int .u64 (hi Z : Nat)] 27)).alloc (.cells (BL Z).toArray 4))) := by
    refine ⟨(Row.new3 w1 Z).alloc _, ?_, HZL.out, (below_ca (Below.refl _ w) hb _).alloc (by have := hb.size; simp; omega) _⟩
    have := Row.new (w1.alloc (.cells #[.int .i64 (Z.length : Nat), .int .u64 (lo Z : Nat), .int .u64 (hi Z : Nat)] 27)) 4 (BL Z)
    rw [World.size_alloc] at this
    exact lies_row this (by rw [List.take_of_length_le (by rw [BL_length, HZL.out]; exact Nat.le_refl _)]) (by rw [BL_length, HZL.out]; exact Nat.le_refl _)
  have hw5 : w.heap.size ≤ w1.heap.size := hb.size
  clear hb
  go_wp2_with fail
  obtain ⟨b5, hb5⟩ : ∃ b, b = w1.heap.size := ⟨_, rfl⟩
  rw [← hb5] at HI hw5 ⊢
  clear hb5
  go_loopw [7, 8] (fun r i wr => DoR w b5 n L.length r i wr) (fun _ i _ => L.length - (intOf i).toNat)
  case atStart => exact ⟨0, Z, _, _, Nat.zero_le _, rfl, rfl, HI⟩
  case round =>
    clear HI
    obtain ⟨k, c, A7, c7, hk, rfl, rfl, HI⟩ := hrel
    by_cases hlt : k < L.length
    · obtain ⟨b, off, rfl, hab, hk0, hk1⟩ := HL.out.spot k hlt
      have q0 := (HI.out.old.cell (p := ⟨b, off + k * 2, none⟩) hab).trans hk0
      have q1 := (HI.out.old.cell (p := ⟨b, off + k * 2 + 1, none⟩) hab).trans hk1
      obtain ⟨m0, m1, m2⟩ := HI.out.m.cells3
      have HW : Hid (DoW w b5 wr.heap.size n A7 c (wr.alloc (.cells #[.int .i64 (c.length : Nat), .int .u64 (lo c : Nat), .int .u64 (hi c : Nat)] 27))) := ⟨HI.out.m.alloc _, Row.new3 wr c, HI.out.l.under ((Below.refl _ _).alloc (Nat.le_refl _) _), HI.out.old.alloc HI.out.old.size _⟩
      have hcn := HI.out.len
      have hc120 : c.length ≤ 120 := by rw [hcn]; exact h2
      have hb5B : b5 < wr.heap.size := HI.out.m.lt
      have hwB : w.heap.size ≤ wr.heap.size := HI.out.old.size
      have HCN := Lib.hid hcn
      generalize L[k].1 = kd at hk0 q0
      generalize L[k].2 = I at hk1 q1
      have HCA := Lib.hid (show ∀ z : World, Below w.heap.size w z → z.cell? ⟨b, off + k * 2, none⟩ = some (.int .i64 kd) ∧ z.cell? ⟨b, off + k * 2 + 1, none⟩ = some (.int .i64 I) from fun z hz => ⟨(hz.cell (p := ⟨b, off + k * 2, none⟩) hab).trans hk0, (hz.cell (p := ⟨b, off + k * 2 + 1, none⟩) hab).trans hk1⟩)
      clear hk0 hk1 q0 q1 HI hcn
      go_upto_region 13 with fail
      clear m0 m1 m2
      generalize wr.alloc (.cells #[.int .i64 (c.length : Nat), .int .u64 (lo c : Nat), .int .u64 (hi c : Nat)] 27) = W0 at HW ⊢
      generalize wr.heap.size = B at HW hb5B hwB ⊢
      obtain ⟨q0, q1⟩ := HCA.out W0 HW.out.old
      by_cases hkd0 : kd = 0
      · subst hkd0
        obtain ⟨c', hc'⟩ : ∃ c', setL c I true = c' := ⟨_, rfl⟩
        obtain ⟨bb, hbb⟩ : ∃ bb, setB c I true = bb := ⟨_, rfl⟩
        have HCN2 := Lib.hid (show c'.length = n by rw [← hc', setL_length]; exact HCN.out)
        have hc2 : c'.length ≤ 120 := by rw [HCN2.out]; exact h2
        have HSL := Lib.hid hc'
        have HSB := Lib.hid hbb
        clear hc' hbb
        go_upto_region 16 with fail
        clear q0 q1
        go_cut [11, 12] from 49 to 146 (fun s11 s12 wx => ∃ c11, s11 = .pointer (some ⟨c11, 0, none⟩) ∧ s12 = .bool bb ∧ Hid (DoW w b5 B n A7 c wx) ∧ Hid (Row wx c11 27 (C3 c')) ∧ b5 < c11 ∧ B < c11)
        case first =>
          refine wp_region_held_drew (S := DoW w b5 B n A7 c) (by kernel_rfl) (HW.out.drew) (fun hS => ?_)
          refine takeH (i := 0) (d := 66) (v := ?vaxa0) rfl (by kernel_rfl) (by kernel_rfl) (by kernel_rfl) (fun _ _ _ h => h) rfl (by rfl) ?yaxa0 hS ?raxa0
          case yaxa0 => (intro wz hz; obtain ⟨p0, p1, p2⟩ := hz.m.cells3; obtain ⟨p3, p4⟩ := HCA.out wz hz.old; go_simp <;> with_reducible rfl)
          simp only [List.setIfInBounds_toArray, List.set_cons_zero, List.set_cons_succ]
          refine takeH (i := 1) (d := 67) (v := ?vaxa1) rfl (by kernel_rfl) (by kernel_rfl) (by kernel_rfl) (fun _ _ _ h => h) rfl (by rfl) ?yaxa1 hS ?raxa1
          case yaxa1 => (intro wz hz; obtain ⟨p0, p1, p2⟩ := hz.m.cells3; obtain ⟨p3, p4⟩ := HCA.out wz hz.old; go_simp <;> with_reducible rfl)
          simp only [List.setIfInBounds_toArray, List.set_cons_zero, List.set_cons_succ]
          refine takeH (i := 2) (d := 68) (v := ?vaxa2) rfl (by kernel_rfl) (by kernel_rfl) (by kernel_rfl) (fun _ _ _ h => h) rfl (by rfl) ?yaxa2 hS ?raxa2
          case yaxa2 => (intro wz hz; obtain ⟨p0, p1, p2⟩ := hz.m.cells3; obtain ⟨p3, p4⟩ := HCA.out wz hz.old; go_simp <;> with_reducible rfl)
          simp only [List.setIfInBounds_toArray, List.set_cons_zero, List.set_cons_succ]
          refine takeH (i := 3) (d := 69) (v := ?vaxa3) rfl (by kernel_rfl) (by kernel_rfl) (by kernel_rfl) (fun _ _ _ h => h) rfl (by rfl) ?yaxa3 hS ?raxa3
          case yaxa3 => (intro wz hz; obtain ⟨p0, p1, p2⟩ := hz.m.cells3; obtain ⟨p3, p4⟩ := HCA.out wz hz.old; go_simp <;> with_reducible rfl)
          simp only [List.setIfInBounds_toArray, List.set_cons_zero, List.set_cons_succ]
          refine takeH (i := 4) (d := 70) (v := ?vaxa4) rfl (by kernel_rfl) (by kernel_rfl) (by kernel_rfl) (fun _ _ _ h => h) rfl (by rfl) ?yaxa4 hS ?raxa4
          case yaxa4 => (intro wz hz; obtain ⟨p0, p1, p2⟩ := hz.m.cells3; obtain ⟨p3, p4⟩ := HCA.out wz hz.old; go_simp <;> with_reducible rfl)
          simp only [List.setIfInBounds_toArray, List.set_cons_zero, List.set_cons_succ]
          refine takeH (i := 5) (d := 71) (v := ?vaxa5) rfl (by kernel_rfl) (by kernel_rfl) (by kernel_rfl) (fun _ _ _ h => h) rfl (by rfl) ?yaxa5 hS ?raxa5
          case yaxa5 => (intro wz hz; obtain ⟨p0, p1, p2⟩ := hz.m.cells3; obtain ⟨p3, p4⟩ := HCA.out wz hz.old; go_simp <;> with_reducible rfl)
          simp only [List.setIfInBounds_toArray, List.set_cons_zero, List.set_cons_succ]
          refine takeH (i := 6) (d := 72) (v := ?vaxa6) rfl (by kernel_rfl) (by kernel_rfl) (by kernel_rfl) (fun _ _ _ h => h) rfl (by rfl) ?yaxa6 hS ?raxa6
          case yaxa6 => (intro wz hz; obtain ⟨p0, p1, p2⟩ := hz.m.cells3; obtain ⟨p3, p4⟩ := HCA.out wz hz.old; go_simp <;> with_reducible rfl)
          simp only [List.setIfInBounds_toArray, List.set_cons_zero, List.set_cons_succ]
          refine takeH (i := 7) (d := 73) (v := ?vaxa7) rfl (by kernel_rfl) (by kernel_rfl) (by kernel_rfl) (fun _ _ _ h => h) rfl (by rfl) ?yaxa7 hS ?raxa7
          case yaxa7 => (intro wz hz; obtain ⟨p0, p1, p2⟩ := hz.m.cells3; obtain ⟨p3, p4⟩ := HCA.out wz hz.old; go_simp <;> with_reducible rfl)
          simp only [List.setIfInBounds_toArray, List.set_cons_zero, List.set_cons_succ]
          refine takeH (i := 8) (d := 74) (v := ?vaxa8) rfl (by kernel_rfl) (by kernel_rfl) (by kernel_rfl) (fun _ _ _ h => h) rfl (by rfl) ?yaxa8 hS ?raxa8
          case yaxa8 => (intro wz hz; obtain ⟨p0, p1, p2⟩ := hz.m.cells3; obtain ⟨p3, p4⟩ := HCA.out wz hz.old; go_simp <;> with_reducible rfl)
          simp only [List.setIfInBounds_toArray, List.set_cons_zero, List.set_cons_succ]
          refine takeH (i := 9) (d := 75) (v := ?vaxa9) rfl (by kernel_rfl) (by kernel_rfl) (by kernel_rfl) (fun _ _ _ h => h) rfl (by rfl) ?yaxa9 hS ?raxa9
          case yaxa9 => (intro wz hz; obtain ⟨p0, p1, p2⟩ := hz.m.cells3; obtain ⟨p3, p4⟩ := HCA.out wz hz.old; go_simp <;> with_reducible rfl)
          simp only [List.setIfInBounds_toArray, List.set_cons_zero, List.set_cons_succ]
          refine takeH (i := 10) (d := 76) (v := ?vaxa10) rfl (by kernel_rfl) (by kernel_rfl) (by kernel_rfl) (fun _ _ _ h => h) rfl (by rfl) ?yaxa10 hS ?raxa10
          case yaxa10 => (intro wz hz; obtain ⟨p0, p1, p2⟩ := hz.m.cells3; obtain ⟨p3, p4⟩ := HCA.out wz hz.old; go_simp <;> with_reducible rfl)
          simp only [List.setIfInBounds_toArray, List.set_cons_zero, List.set_cons_succ]
          refine takeH (i := 11) (d := 77) (v := ?vaxa11) rfl (by kernel_rfl) (by kernel_rfl) (by kernel_rfl) (fun _ _ _ h => h) rfl (by rfl) ?yaxa11 hS ?raxa11
          case yaxa11 => (intro wz hz; obtain ⟨p0, p1, p2⟩ := hz.m.cells3; obtain ⟨p3, p4⟩ := HCA.out wz hz.old; go_simp <;> with_reducible rfl)
          simp only [List.setIfInBounds_toArray, List.set_cons_zero, List.set_cons_succ]
          refine wpAnyH_ready (rs := [12, 16]) (by kernel_rfl) (by simp) ?_
          refine AllReadyH.cons rfl (fun K hK => ?_) (AllReadyH.cons rfl (fun K hK => ?_) AllReadyH.nil)
          · go_simp
            refine (set_yes HSL.out HSB.out hc120 _).mono ?_
            rintro e wq ⟨rfl, hq⟩
            refine hK.out _ _ (hS.below hq) (fun hS1 => ?_)
            clear hK
            have HS1 := Lib.hid hS1
            clear hS
            have hS := hS1
            clear hS1
            refine takeH (i := 13) (d := 65) (v := ?vaxb13) rfl (by kernel_rfl) (by kernel_rfl) (by kernel_rfl) (fun _ _ _ h => h) rfl (by rfl) ?yaxb13 hS ?raxb13
            case yaxb13 => (intro wz hz; go_simp <;> with_reducible rfl)
            simp only [List.setIfInBounds_toArray, List.set_cons_zero, List.set_cons_succ]
            refine takeH (i := 14) (d := 79) (v := ?vaxb14) rfl (by kernel_rfl) (by kernel_rfl) (by kernel_rfl) (fun _ _ _ h => h) rfl (by rfl) ?yaxb14 hS ?raxb14
            case yaxb14 => (intro wz hz; go_simp <;> with_reducible rfl)
            simp only [List.setIfInBounds_toArray, List.set_cons_zero, List.set_cons_succ]
            refine takeH (i := 15) (d := 80) (v := ?vaxb15) rfl (by kernel_rfl) (by kernel_rfl) (by kernel_rfl) (fun _ _ _ h => h) rfl (by rfl) ?yaxb15 hS ?raxb15
            case yaxb15 => (intro wz hz; go_simp <;> with_reducible rfl)
            simp only [List.setIfInBounds_toArray, List.set_cons_zero, List.set_cons_succ]
            refine wpAnyH_ready (rs := [16]) (by kernel_rfl) (by simp) ?_
            refine AllReadyH.cons rfl (fun K hK => ?_) AllReadyH.nil
            go_simp
            refine hK.out _ _ (hS.alloc _) (fun hS2 => ?_)
            clear hK
            clear hS
            have hS := hS2
            clear hS2
            refine wpAnyH_ready (rs := [17]) (by kernel_rfl) (by simp) ?_
            refine AllReadyH.cons rfl (fun K hK => ?_) AllReadyH.nil
            go_simp
            refine hK.out _ _ (HS1.out.alloc _) (fun hS3 => ?_)
            clear hK
            clear hS
            have hS := hS3
            clear hS3
            refine takeH (i := 18) (d := 12) (v := ?vaxc18) rfl (by kernel_rfl) (by kernel_rfl) (by kernel_rfl) (fun _ _ _ h => h) rfl (by rfl) ?yaxc18 hS ?raxc18
            case yaxc18 => (intro wz hz; go_simp <;> with_reducible rfl)
            simp only [List.setIfInBounds_toArray, List.set_cons_zero, List.set_cons_succ]
            refine wpAnyH_done (by kernel_rfl) ?_ _
            have H4 := Lib.hid hS
            have RC := Lib.hid (Row.new3 wq c')
            have hcb := (HS1.out.lts)
            clear hS HS1 hq
            generalize wq.alloc (.cells #[.int .i64 (c'.length : Nat), .int .u64 (lo c' : Nat), .int .u64 (hi c' : Nat)] 27) = W4 at H4 RC  ⊢
            generalize wq.heap.size = cc at RC hcb ⊢
            go_wp2_with fail
            go_meet
            exact ⟨cc, rfl, rfl, H4, RC, by omega, by omega⟩
          · go_simp
            refine hK.out _ _ (hS.alloc _) (fun hS1 => ?_)
            clear hK
            have HS0 := Lib.hid hS
            clear hS
            have hS := hS1
            clear hS1
            refine wpAnyH_ready (rs := [12]) (by kernel_rfl) (by simp) ?_
            refine AllReadyH.cons rfl (fun K hK => ?_) AllReadyH.nil
            go_simp
            refine (set_yes HSL.out HSB.out hc120 _).mono ?_
            rintro e wq ⟨rfl, hq⟩
            have RZ := Lib.hid (show Row wq W0.heap.size 27 [.int .i64 0, .int .u64 0, .int .u64 0] from (Row.new W0.drew 27 [.int .i64 0, .int .u64 0, .int .u64 0]).below hq)
            have hcb : b5 < W0.heap.size ∧ B < W0.heap.size ∧ w.heap.size ≤ W0.heap.size := HS0.out.lts
            have z0 := RZ.out.cell 0
            have z1 := RZ.out.cell 1
            have z2 := RZ.out.cell 2
            simp only [List.getElem?_cons_zero, List.getElem?_cons_succ] at z0 z1 z2
            obtain ⟨y0, y1, y2⟩ := RZ.out.frozen3
            refine hK.out _ _ (hS.below hq) (fun hS1 => ?_)
            clear hK
            clear hS
            have hS := hS1
            clear hS1
            refine takeH (i := 13) (d := 65) (v := ?vaxd13) rfl (by kernel_rfl) (by kernel_rfl) (by kernel_rfl) (fun _ _ _ h => h) rfl (by rfl) ?yaxd13 hS ?raxd13
            case yaxd13 => (intro wz hz; go_simp <;> with_reducible rfl)
            simp only [List.setIfInBounds_toArray, List.set_cons_zero, List.set_cons_succ]
            refine takeH (i := 14) (d := 79) (v := ?vaxd14) rfl (by kernel_rfl) (by kernel_rfl) (by kernel_rfl) (fun _ _ _ h => h) rfl (by rfl) ?yaxd14 hS ?raxd14
            case yaxd14 => (intro wz hz; go_simp <;> with_reducible rfl)
            simp only [List.setIfInBounds_toArray, List.set_cons_zero, List.set_cons_succ]
            refine takeH (i := 15) (d := 80) (v := ?vaxd15) rfl (by kernel_rfl) (by kernel_rfl) (by kernel_rfl) (fun _ _ _ h => h) rfl (by rfl) ?yaxd15 hS ?raxd15
            case yaxd15 => (intro wz hz; go_simp <;> with_reducible rfl)
            simp only [List.setIfInBounds_toArray, List.set_cons_zero, List.set_cons_succ]
            refine wpAnyH_ready (rs := [17]) (by kernel_rfl) (by simp) ?_
            refine AllReadyH.cons rfl (fun K hK => ?_) AllReadyH.nil
            go_simp
            refine hK.out _ _ (hS.store hcb _ _ _) (fun hS3 => ?_)
            clear hK
            clear hS
            have hS := hS3
            clear hS3
            refine takeH (i := 18) (d := 12) (v := ?vaxe18) rfl (by kernel_rfl) (by kernel_rfl) (by kernel_rfl) (fun _ _ _ h => h) rfl (by rfl) ?yaxe18 hS ?raxe18
            case yaxe18 => (intro wz hz; go_simp <;> with_reducible rfl)
            simp only [List.setIfInBounds_toArray, List.set_cons_zero, List.set_cons_succ]
            refine wpAnyH_done (by kernel_rfl) ?_ _
            have H4 := Lib.hid hS
            have RC := Lib.hid (show Row (((wq.setCell ⟨W0.heap.size, 0, none⟩ (.int .i64 (c'.length : Nat))).setCell ⟨W0.heap.size, 1, none⟩ (.int .u64 (lo c' : Nat))).setCell ⟨W0.heap.size, 2, none⟩ (.int .u64 (hi c' : Nat))) W0.heap.size 27 (C3 c') from ((RZ.out.set 0 _).set 1 _).set 2 _)
            clear hS HS0 hq RZ z0 z1 z2 y0 y1 y2
            generalize (((wq.setCell ⟨W0.heap.size, 0, none⟩ (.int .i64 (c'.length : Nat))).setCell ⟨W0.heap.size, 1, none⟩ (.int .u64 (lo c' : Nat))).setCell ⟨W0.heap.size, 2, none⟩ (.int .u64 (hi c' : Nat))) = W4 at H4 RC  ⊢
            obtain ⟨cc, hcc⟩ : ∃ c, c = W0.heap.size := ⟨_, rfl⟩
            rw [← hcc] at RC ⊢
            rw [← hcc] at hcb
            clear hcc
            go_wp2_with fail
            go_meet
            exact ⟨cc, rfl, rfl, H4, RC, by omega, by omega⟩
        case rest =>
          obtain ⟨c11, rfl, rfl, HW', RC, hb11, hB11⟩ := hcut
          clear HW
          have HW := HW'
          clear HW'
          go_upto_region 17 with fail
          have hcn := HCN.out
          refine wp_region_held_drew (S := fun z => DoW w b5 B n A7 c z ∧ Row z c11 27 (C3 c')) (by kernel_rfl) ⟨HW.out.drew, RC.out.drew⟩ (fun hS => ?_)
          refine takeH (i := 0) (d := 82) (v := ?vay0) rfl (by kernel_rfl) (by kernel_rfl) (by kernel_rfl) (fun _ _ _ h => h) rfl (by rfl) ?yay0 hS ?ray0
          case yay0 => (intro wz hz; obtain ⟨p3, p4⟩ := HCA.out wz hz.1.old; go_simp <;> with_reducible rfl)
          simp only [List.setIfInBounds_toArray, List.set_cons_zero, List.set_cons_succ]
          refine takeH (i := 1) (d := 83) (v := ?vay1) rfl (by kernel_rfl) (by kernel_rfl) (by kernel_rfl) (fun _ _ _ h => h) rfl (by rfl) ?yay1 hS ?ray1
          case yay1 => (intro wz hz; obtain ⟨p3, p4⟩ := HCA.out wz hz.1.old; go_simp <;> with_reducible rfl)
          simp only [List.setIfInBounds_toArray, List.set_cons_zero, List.set_cons_succ]
          refine takeH (i := 2) (d := 84) (v := ?vay2) rfl (by kernel_rfl) (by kernel_rfl) (by kernel_rfl) (fun _ _ _ h => h) rfl (by rfl) ?yay2 hS ?ray2
          case yay2 => (intro wz hz; obtain ⟨p3, p4⟩ := HCA.out wz hz.1.old; go_simp <;> with_reducible rfl)
          simp only [List.setIfInBounds_toArray, List.set_cons_zero, List.set_cons_succ]
          refine takeH (i := 3) (d := 85) (v := ?vay3) rfl (by kernel_rfl) (by kernel_rfl) (by kernel_rfl) (fun _ _ _ h => h) rfl (by rfl) ?yay3 hS ?ray3
          case yay3 => (intro wz hz; obtain ⟨p3, p4⟩ := HCA.out wz hz.1.old; go_simp <;> with_reducible rfl)
          simp only [List.setIfInBounds_toArray, List.set_cons_zero, List.set_cons_succ]
          refine takeH (i := 4) (d := 86) (v := ?vay4) rfl (by kernel_rfl) (by kernel_rfl) (by kernel_rfl) (fun _ _ _ h => h) rfl (by rfl) ?yay4 hS ?ray4
          case yay4 => (intro wz hz; obtain ⟨p3, p4⟩ := HCA.out wz hz.1.old; go_simp <;> with_reducible rfl)
          simp only [List.setIfInBounds_toArray, List.set_cons_zero, List.set_cons_succ]
          refine takeH (i := 5) (d := 87) (v := ?vay5) rfl (by kernel_rfl) (by kernel_rfl) (by kernel_rfl) (fun _ _ _ h => h) rfl (by rfl) ?yay5 hS ?ray5
          case yay5 => (intro wz hz; obtain ⟨p3, p4⟩ := HCA.out wz hz.1.old; go_simp <;> with_reducible rfl)
          simp only [List.setIfInBounds_toArray, List.set_cons_zero, List.set_cons_succ]
          refine takeH (i := 6) (d := 88) (v := ?vay6) rfl (by kernel_rfl) (by kernel_rfl) (by kernel_rfl) (fun _ _ _ h => h) rfl (by rfl) ?yay6 hS ?ray6
          case yay6 => (intro wz hz; obtain ⟨p3, p4⟩ := HCA.out wz hz.1.old; go_simp <;> with_reducible rfl)
          simp only [List.setIfInBounds_toArray, List.set_cons_zero, List.set_cons_succ]
          refine takeH (i := 7) (d := 89) (v := ?vay7) rfl (by kernel_rfl) (by kernel_rfl) (by kernel_rfl) (fun _ _ _ h => h) rfl (by rfl) ?yay7 hS ?ray7
          case yay7 => (intro wz hz; obtain ⟨p3, p4⟩ := HCA.out wz hz.1.old; go_simp <;> with_reducible rfl)
          simp only [List.setIfInBounds_toArray, List.set_cons_zero, List.set_cons_succ]
          refine takeH (i := 8) (d := 90) (v := ?vay8) rfl (by kernel_rfl) (by kernel_rfl) (by kernel_rfl) (fun _ _ _ h => h) rfl (by rfl) ?yay8 hS ?ray8
          case yay8 => (intro wz hz; obtain ⟨p3, p4⟩ := HCA.out wz hz.1.old; go_simp <;> with_reducible rfl)
          simp only [List.setIfInBounds_toArray, List.set_cons_zero, List.set_cons_succ]
          refine takeH (i := 9) (d := 91) (v := ?vay9) rfl (by kernel_rfl) (by kernel_rfl) (by kernel_rfl) (fun _ _ _ h => h) rfl (by rfl) ?yay9 hS ?ray9
          case yay9 => (intro wz hz; obtain ⟨p3, p4⟩ := HCA.out wz hz.1.old; go_simp <;> with_reducible rfl)
          simp only [List.setIfInBounds_toArray, List.set_cons_zero, List.set_cons_succ]
          refine takeH (i := 10) (d := 92) (v := ?vay10) rfl (by kernel_rfl) (by kernel_rfl) (by kernel_rfl) (fun _ _ _ h => h) rfl (by rfl) ?yay10 hS ?ray10
          case yay10 => (intro wz hz; obtain ⟨p3, p4⟩ := HCA.out wz hz.1.old; go_simp <;> with_reducible rfl)
          simp only [List.setIfInBounds_toArray, List.set_cons_zero, List.set_cons_succ]
          refine takeH (i := 11) (d := 93) (v := ?vay11) rfl (by kernel_rfl) (by kernel_rfl) (by kernel_rfl) (fun _ _ _ h => h) rfl (by rfl) ?yay11 hS ?ray11
          case yay11 => (intro wz hz; obtain ⟨p3, p4⟩ := HCA.out wz hz.1.old; go_simp <;> with_reducible rfl)
          simp only [List.setIfInBounds_toArray, List.set_cons_zero, List.set_cons_succ]
          refine wpAnyH_ready (rs := [12]) (by kernel_rfl) (by simp) ?_
          refine AllReadyH.cons rfl (fun K hK => ?_) AllReadyH.nil
          go_simp
          refine (refSet_n HSL.out HSB.out hcn A7 c7 hc120 _ (hS.1.l.up hS.1.bnd)).mono ?_
          rintro e wq ⟨A13, c13, rfl, hl13, hq⟩
          have HL13 := Lib.hid hl13
          clear hl13
          refine hK.out _ _ (⟨hS.1.below hq, hS.2.below hq⟩) (fun hT => ?_)
          clear hK hq hS
          have hS := hT
          clear hT
          refine takeH (i := 13) (d := 81) (v := ?vay13) rfl (by kernel_rfl) (by kernel_rfl) (by kernel_rfl) (fun _ _ _ h => h) rfl (by rfl) ?yay13 hS ?ray13
          case yay13 => (intro wz hz; obtain ⟨p3, p4⟩ := HCA.out wz hz.1.old; go_simp <;> with_reducible rfl)
          simp only [List.setIfInBounds_toArray, List.set_cons_zero, List.set_cons_succ]
          refine takeH (i := 14) (d := 95) (v := ?vay14) rfl (by kernel_rfl) (by kernel_rfl) (by kernel_rfl) (fun _ _ _ h => h) rfl (by rfl) ?yay14 hS ?ray14
          case yay14 => (intro wz hz; obtain ⟨p3, p4⟩ := HCA.out wz hz.1.old; go_simp <;> with_reducible rfl)
          simp only [List.setIfInBounds_toArray, List.set_cons_zero, List.set_cons_succ]
          refine takeH (i := 15) (d := 96) (v := ?vay15) rfl (by kernel_rfl) (by kernel_rfl) (by kernel_rfl) (fun _ _ _ h => h) rfl (by rfl) ?yay15 hS ?ray15
          case yay15 => (intro wz hz; obtain ⟨p3, p4⟩ := HCA.out wz hz.1.old; go_simp <;> with_reducible rfl)
          simp only [List.setIfInBounds_toArray, List.set_cons_zero, List.set_cons_succ]
          refine takeH (i := 16) (d := 13) (v := ?vay16) rfl (by kernel_rfl) (by kernel_rfl) (by kernel_rfl) (fun _ _ _ h => h) rfl (by rfl) ?yay16 hS ?ray16
          case yay16 => (intro wz hz; obtain ⟨p3, p4⟩ := HCA.out wz hz.1.old; go_simp <;> with_reducible rfl)
          simp only [List.setIfInBounds_toArray, List.set_cons_zero, List.set_cons_succ]
          refine takeH (i := 17) (d := 14) (v := ?vay17) rfl (by kernel_rfl) (by kernel_rfl) (by kernel_rfl) (fun _ _ _ h => h) rfl (by rfl) ?yay17 hS ?ray17
          case yay17 => (intro wz hz; obtain ⟨p3, p4⟩ := HCA.out wz hz.1.old; go_simp <;> with_reducible rfl)
          simp only [List.setIfInBounds_toArray, List.set_cons_zero, List.set_cons_succ]
          refine wpAnyH_done (by kernel_rfl) ?_ _
          obtain ⟨hS1, hS2⟩ := hS
          obtain ⟨p0, p1, p2⟩ := hS1.m.cells3
          obtain ⟨p3, p4, p5⟩ := hS1.m.frozen3
          obtain ⟨p6, p7, p8⟩ := hS2.cells3
          have dbb : (bb != bb) = false := by simp
          have HT : Hid (DoT w b5 B n A13 A7 c' c (((wq.setCell ⟨b5, 0, none⟩ (.int .i64 (c'.length : Nat))).setCell ⟨b5, 1, none⟩ (.int .u64 (lo c' : Nat))).setCell ⟨b5, 2, none⟩ (.int .u64 (hi c' : Nat)))) :=
            ⟨hS1.m.set3 c', hS1.was.other3 (by omega) _ _ _, (HL13.out.past3 hS1.m _ _ _).size3, ((hS1.l.up hS1.bnd).past3 hS1.m _ _ _).size3, ((hS1.old.setCell (by exact hw5) _).setCell (by exact hw5) _).setCell (by exact hw5) _⟩
          clear hS1 hS2 HL13 HW RC hcn
          go_upto_region 27 with fail
          clear p0 p1 p2 p3 p4 p5 p6 p7 p8 dbb
          generalize ((wq.setCell ⟨b5, 0, none⟩ (.int .i64 (c'.length : Nat))).setCell ⟨b5, 1, none⟩ (.int .u64 (lo c' : Nat))).setCell ⟨b5, 2, none⟩ (.int .u64 (hi c' : Nat)) = W5 at HT ⊢
          obtain ⟨p0, p1, p2⟩ := HT.out.m.cells3
          obtain ⟨p3, p4, p5⟩ := HT.out.was.cells3
          go_wp2_with fail
          refine (same_n HCN2.out A13 c13 hc2 _ HT.out.l).mono ?_
          rintro e w6 ⟨rfl, hb⟩
          have HT' := Lib.hid (HT.out.below hb)
          clear HT hb p0 p1 p2 p3 p4 p5
          obtain ⟨p3, p4, p5⟩ := HT'.out.was.cells3
          go_wp2_with fail
          refine (same_n HCN.out A7 c7 hc120 _ HT'.out.ol).mono ?_
          rintro e w7 ⟨rfl, hb⟩
          have HT := Lib.hid (HT'.out.below hb)
          clear HT' hb p3 p4 p5
          go_wp2_with fail
          go_roundw
          case rel => exact ⟨k + 1, _, _, _, by omega, rfl, by go_num, ⟨HT.out.m, HT.out.l, HCN2.out, HT.out.old⟩⟩
          case measure => simp [intOf]; omega
      · by_cases hkd1 : kd = 1
        · subst hkd1
          obtain ⟨c', hc'⟩ : ∃ c', setL c I false = c' := ⟨_, rfl⟩
          obtain ⟨bb, hbb⟩ : ∃ bb, setB c I false = bb := ⟨_, rfl⟩
          have HCN2 := Lib.hid (show c'.length = n by rw [← hc', setL_length]; exact HCN.out)
          have hc2 : c'.length ≤ 120 := by rw [HCN2.out]; exact h2
          have HSL := Lib.hid hc'
          have HSB := Lib.hid hbb
          clear hc' hbb
          go_upto_region 16 with fail
          clear q0 q1
          go_cut [11, 12] from 49 to 146 (fun s11 s12 wx => ∃ c11, s11 = .pointer (some ⟨c11, 0, none⟩) ∧ s12 = .bool bb ∧ Hid (DoW w b5 B n A7 c wx) ∧ Hid (Row wx c11 27 (C3 c')) ∧ b5 < c11 ∧ B < c11)
          case first =>
            refine wp_region_held_drew (S := DoW w b5 B n A7 c) (by kernel_rfl) (HW.out.drew) (fun hS => ?_)
            refine takeH (i := 0) (d := 66) (v := ?vbxa0) rfl (by kernel_rfl) (by kernel_rfl) (by kernel_rfl) (fun _ _ _ h => h) rfl (by rfl) ?ybxa0 hS ?rbxa0
            case ybxa0 => (intro wz hz; obtain ⟨p0, p1, p2⟩ := hz.m.cells3; obtain ⟨p3, p4⟩ := HCA.out wz hz.old; go_simp <;> with_reducible rfl)
            simp only [List.setIfInBounds_toArray, List.set_cons_zero, List.set_cons_succ]
            refine takeH (i := 1) (d := 67) (v := ?vbxa1) rfl (by kernel_rfl) (by kernel_rfl) (by kernel_rfl) (fun _ _ _ h => h) rfl (by rfl) ?ybxa1 hS ?rbxa1
            case ybxa1 => (intro wz hz; obtain ⟨p0, p1, p2⟩ := hz.m.cells3; obtain ⟨p3, p4⟩ := HCA.out wz hz.old; go_simp <;> with_reducible rfl)
            simp only [List.setIfInBounds_toArray, List.set_cons_zero, List.set_cons_succ]
            refine takeH (i := 2) (d := 68) (v := ?vbxa2) rfl (by kernel_rfl) (by kernel_rfl) (by kernel_rfl) (fun _ _ _ h => h) rfl (by rfl) ?ybxa2 hS ?rbxa2
            case ybxa2 => (intro wz hz; obtain ⟨p0, p1, p2⟩ := hz.m.cells3; obtain ⟨p3, p4⟩ := HCA.out wz hz.old; go_simp <;> with_reducible rfl)
            simp only [List.setIfInBounds_toArray, List.set_cons_zero, List.set_cons_succ]
            refine takeH (i := 3) (d := 69) (v := ?vbxa3) rfl (by kernel_rfl) (by kernel_rfl) (by kernel_rfl) (fun _ _ _ h => h) rfl (by rfl) ?ybxa3 hS ?rbxa3
            case ybxa3 => (intro wz hz; obtain ⟨p0, p1, p2⟩ := hz.m.cells3; obtain ⟨p3, p4⟩ := HCA.out wz hz.old; go_simp <;> with_reducible rfl)
            simp only [List.setIfInBounds_toArray, List.set_cons_zero, List.set_cons_succ]
            refine takeH (i := 4) (d := 70) (v := ?vbxa4) rfl (by kernel_rfl) (by kernel_rfl) (by kernel_rfl) (fun _ _ _ h => h) rfl (by rfl) ?ybxa4 hS ?rbxa4
            case ybxa4 => (intro wz hz; obtain ⟨p0, p1, p2⟩ := hz.m.cells3; obtain ⟨p3, p4⟩ := HCA.out wz hz.old; go_simp <;> with_reducible rfl)
            simp only [List.setIfInBounds_toArray, List.set_cons_zero, List.set_cons_succ]
            refine takeH (i := 5) (d := 71) (v := ?vbxa5) rfl (by kernel_rfl) (by kernel_rfl) (by kernel_rfl) (fun _ _ _ h => h) rfl (by rfl) ?ybxa5 hS ?rbxa5
            case ybxa5 => (intro wz hz; obtain ⟨p0, p1, p2⟩ := hz.m.cells3; obtain ⟨p3, p4⟩ := HCA.out wz hz.old; go_simp <;> with_reducible rfl)
            simp only [List.setIfInBounds_toArray, List.set_cons_zero, List.set_cons_succ]
            refine takeH (i := 6) (d := 72) (v := ?vbxa6) rfl (by kernel_rfl) (by kernel_rfl) (by kernel_rfl) (fun _ _ _ h => h) rfl (by rfl) ?ybxa6 hS ?rbxa6
            case ybxa6 => (intro wz hz; obtain ⟨p0, p1, p2⟩ := hz.m.cells3; obtain ⟨p3, p4⟩ := HCA.out wz hz.old; go_simp <;> with_reducible rfl)
            simp only [List.setIfInBounds_toArray, List.set_cons_zero, List.set_cons_succ]
            refine takeH (i := 7) (d := 73) (v := ?vbxa7) rfl (by kernel_rfl) (by kernel_rfl) (by kernel_rfl) (fun _ _ _ h => h) rfl (by rfl) ?ybxa7 hS ?rbxa7
            case ybxa7 => (intro wz hz; obtain ⟨p0, p1, p2⟩ := hz.m.cells3; obtain ⟨p3, p4⟩ := HCA.out wz hz.old; go_simp <;> with_reducible rfl)
            simp only [List.setIfInBounds_toArray, List.set_cons_zero, List.set_cons_succ]
            refine takeH (i := 8) (d := 74) (v := ?vbxa8) rfl (by kernel_rfl) (by kernel_rfl) (by kernel_rfl) (fun _ _ _ h => h) rfl (by rfl) ?ybxa8 hS ?rbxa8
            case ybxa8 => (intro wz hz; obtain ⟨p0, p1, p2⟩ := hz.m.cells3; obtain ⟨p3, p4⟩ := HCA.out wz hz.old; go_simp <;> with_reducible rfl)
            simp only [List.setIfInBounds_toArray, List.set_cons_zero, List.set_cons_succ]
            refine takeH (i := 9) (d := 75) (v := ?vbxa9) rfl (by kernel_rfl) (by kernel_rfl) (by kernel_rfl) (fun _ _ _ h => h) rfl (by rfl) ?ybxa9 hS ?rbxa9
            case ybxa9 => (intro wz hz; obtain ⟨p0, p1, p2⟩ := hz.m.cells3; obtain ⟨p3, p4⟩ := HCA.out wz hz.old; go_simp <;> with_reducible rfl)
            simp only [List.setIfInBounds_toArray, List.set_cons_zero, List.set_cons_succ]
            refine takeH (i := 10) (d := 76) (v := ?vbxa10) rfl (by kernel_rfl) (by kernel_rfl) (by kernel_rfl) (fun _ _ _ h => h) rfl (by rfl) ?ybxa10 hS ?rbxa10
            case ybxa10 => (intro wz hz; obtain ⟨p0, p1, p2⟩ := hz.m.cells3; obtain ⟨p3, p4⟩ := HCA.out wz hz.old; go_simp <;> with_reducible rfl)
            simp only [List.setIfInBounds_toArray, List.set_cons_zero, List.set_cons_succ]
            refine takeH (i := 11) (d := 77) (v := ?vbxa11) rfl (by kernel_rfl) (by kernel_rfl) (by kernel_rfl) (fun _ _ _ h => h) rfl (by rfl) ?ybxa11 hS ?rbxa11
            case ybxa11 => (intro wz hz; obtain ⟨p0, p1, p2⟩ := hz.m.cells3; obtain ⟨p3, p4⟩ := HCA.out wz hz.old; go_simp <;> with_reducible rfl)
            simp only [List.setIfInBounds_toArray, List.set_cons_zero, List.set_cons_succ]
            refine wpAnyH_ready (rs := [12, 16]) (by kernel_rfl) (by simp) ?_
            refine AllReadyH.cons rfl (fun K hK => ?_) (AllReadyH.cons rfl (fun K hK => ?_) AllReadyH.nil)
            · go_simp
              refine (set_yes HSL.out HSB.out hc120 _).mono ?_
              rintro e wq ⟨rfl, hq⟩
              refine hK.out _ _ (hS.below hq) (fun hS1 => ?_)
              clear hK
              have HS1 := Lib.hid hS1
              clear hS
              have hS := hS1
              clear hS1
              refine takeH (i := 13) (d := 65) (v := ?vbxb13) rfl (by kernel_rfl) (by kernel_rfl) (by kernel_rfl) (fun _ _ _ h => h) rfl (by rfl) ?ybxb13 hS ?rbxb13
              case ybxb13 => (intro wz hz; go_simp <;> with_reducible rfl)
              simp only [List.setIfInBounds_toArray, List.set_cons_zero, List.set_cons_succ]
              refine takeH (i := 14) (d := 79) (v := ?vbxb14) rfl (by kernel_rfl) (by kernel_rfl) (by kernel_rfl) (fun _ _ _ h => h) rfl (by rfl) ?ybxb14 hS ?rbxb14
              case ybxb14 => (intro wz hz; go_simp <;> with_reducible rfl)
              simp only [List.setIfInBounds_toArray, List.set_cons_zero, List.set_cons_succ]
              refine takeH (i := 15) (d := 80) (v := ?vbxb15) rfl (by kernel_rfl) (by kernel_rfl) (by kernel_rfl) (fun _ _ _ h => h) rfl (by rfl) ?ybxb15 hS ?rbxb15
              case ybxb15 => (intro wz hz; go_simp <;> with_reducible rfl)
              simp only [List.setIfInBounds_toArray, List.set_cons_zero, List.set_cons_succ]
              refine wpAnyH_ready (rs := [16]) (by kernel_rfl) (by simp) ?_
              refine AllReadyH.cons rfl (fun K hK => ?_) AllReadyH.nil
              go_simp
              refine hK.out _ _ (hS.alloc _) (fun hS2 => ?_)
              clear hK
              clear hS
              have hS := hS2
              clear hS2
              refine wpAnyH_ready (rs := [17]) (by kernel_rfl) (by simp) ?_
              refine AllReadyH.cons rfl (fun K hK => ?_) AllReadyH.nil
              go_simp
              refine hK.out _ _ (HS1.out.alloc _) (fun hS3 => ?_)
              clear hK
              clear hS
              have hS := hS3
              clear hS3
              refine takeH (i := 18) (d := 12) (v := ?vbxc18) rfl (by kernel_rfl) (by kernel_rfl) (by kernel_rfl) (fun _ _ _ h => h) rfl (by rfl) ?ybxc18 hS ?rbxc18
              case ybxc18 => (intro wz hz; go_simp <;> with_reducible rfl)
              simp only [List.setIfInBounds_toArray, List.set_cons_zero, List.set_cons_succ]
              refine wpAnyH_done (by kernel_rfl) ?_ _
              have H4 := Lib.hid hS
              have RC := Lib.hid (Row.new3 wq c')
              have hcb := (HS1.out.lts)
              clear hS HS1 hq
              generalize wq.alloc (.cells #[.int .i64 (c'.length : Nat), .int .u64 (lo c' : Nat), .int .u64 (hi c' : Nat)] 27) = W4 at H4 RC  ⊢
              generalize wq.heap.size = cc at RC hcb ⊢
              go_wp2_with fail
              go_meet
              exact ⟨cc, rfl, rfl, H4, RC, by omega, by omega⟩
            · go_simp
              refine hK.out _ _ (hS.alloc _) (fun hS1 => ?_)
              clear hK
              have HS0 := Lib.hid hS
              clear hS
              have hS := hS1
              clear hS1
              refine wpAnyH_ready (rs := [12]) (by kernel_rfl) (by simp) ?_
              refine AllReadyH.cons rfl (fun K hK => ?_) AllReadyH.nil
              go_simp
              refine (set_yes HSL.out HSB.out hc120 _).mono ?_
              rintro e wq ⟨rfl, hq⟩
              have RZ := Lib.hid (show Row wq W0.heap.size 27 [.int .i64 0, .int .u64 0, .int .u64 0] from (Row.new W0.drew 27 [.int .i64 0, .int .u64 0, .int .u64 0]).below hq)
              have hcb : b5 < W0.heap.size ∧ B < W0.heap.size ∧ w.heap.size ≤ W0.heap.size := HS0.out.lts
              have z0 := RZ.out.cell 0
              have z1 := RZ.out.cell 1
              have z2 := RZ.out.cell 2
              simp only [List.getElem?_cons_zero, List.getElem?_cons_succ] at z0 z1 z2
              obtain ⟨y0, y1, y2⟩ := RZ.out.frozen3
              refine hK.out _ _ (hS.below hq) (fun hS1 => ?_)
              clear hK
              clear hS
              have hS := hS1
              clear hS1
              refine takeH (i := 13) (d := 65) (v := ?vbxd13) rfl (by kernel_rfl) (by kernel_rfl) (by kernel_rfl) (fun _ _ _ h => h) rfl (by rfl) ?ybxd13 hS ?rbxd13
              case ybxd13 => (intro wz hz; go_simp <;> with_reducible rfl)
              simp only [List.setIfInBounds_toArray, List.set_cons_zero, List.set_cons_succ]
              refine takeH (i := 14) (d := 79) (v := ?vbxd14) rfl (by kernel_rfl) (by kernel_rfl) (by kernel_rfl) (fun _ _ _ h => h) rfl (by rfl) ?ybxd14 hS ?rbxd14
              case ybxd14 => (intro wz hz; go_simp <;> with_reducible rfl)
              simp only [List.setIfInBounds_toArray, List.set_cons_zero, List.set_cons_succ]
              refine takeH (i := 15) (d := 80) (v := ?vbxd15) rfl (by kernel_rfl) (by kernel_rfl) (by kernel_rfl) (fun _ _ _ h => h) rfl (by rfl) ?ybxd15 hS ?rbxd15
              case ybxd15 => (intro wz hz; go_simp <;> with_reducible rfl)
              simp only [List.setIfInBounds_toArray, List.set_cons_zero, List.set_cons_succ]
              refine wpAnyH_ready (rs := [17]) (by kernel_rfl) (by simp) ?_
              refine AllReadyH.cons rfl (fun K hK => ?_) AllReadyH.nil
              go_simp
              refine hK.out _ _ (hS.store hcb _ _ _) (fun hS3 => ?_)
              clear hK
              clear hS
              have hS := hS3
              clear hS3
              refine takeH (i := 18) (d := 12) (v := ?vbxe18) rfl (by kernel_rfl) (by kernel_rfl) (by kernel_rfl) (fun _ _ _ h => h) rfl (by rfl) ?ybxe18 hS ?rbxe18
              case ybxe18 => (intro wz hz; go_simp <;> with_reducible rfl)
              simp only [List.setIfInBounds_toArray, List.set_cons_zero, List.set_cons_succ]
              refine wpAnyH_done (by kernel_rfl) ?_ _
              have H4 := Lib.hid hS
              have RC := Lib.hid (show Row (((wq.setCell ⟨W0.heap.size, 0, none⟩ (.int .i64 (c'.length : Nat))).setCell ⟨W0.heap.size, 1, none⟩ (.int .u64 (lo c' : Nat))).setCell ⟨W0.heap.size, 2, none⟩ (.int .u64 (hi c' : Nat))) W0.heap.size 27 (C3 c') from ((RZ.out.set 0 _).set 1 _).set 2 _)
              clear hS HS0 hq RZ z0 z1 z2 y0 y1 y2
              generalize (((wq.setCell ⟨W0.heap.size, 0, none⟩ (.int .i64 (c'.length : Nat))).setCell ⟨W0.heap.size, 1, none⟩ (.int .u64 (lo c' : Nat))).setCell ⟨W0.heap.size, 2, none⟩ (.int .u64 (hi c' : Nat))) = W4 at H4 RC  ⊢
              obtain ⟨cc, hcc⟩ : ∃ c, c = W0.heap.size := ⟨_, rfl⟩
              rw [← hcc] at RC ⊢
              rw [← hcc] at hcb
              clear hcc
              go_wp2_with fail
              go_meet
              exact ⟨cc, rfl, rfl, H4, RC, by omega, by omega⟩
          case rest =>
            obtain ⟨c11, rfl, rfl, HW', RC, hb11, hB11⟩ := hcut
            clear HW
            have HW := HW'
            clear HW'
            go_upto_region 17 with fail
            have hcn := HCN.out
            refine wp_region_held_drew (S := fun z => DoW w b5 B n A7 c z ∧ Row z c11 27 (C3 c')) (by kernel_rfl) ⟨HW.out.drew, RC.out.drew⟩ (fun hS => ?_)
            refine takeH (i := 0) (d := 82) (v := ?vby0) rfl (by kernel_rfl) (by kernel_rfl) (by kernel_rfl) (fun _ _ _ h => h) rfl (by rfl) ?yby0 hS ?rby0
            case yby0 => (intro wz hz; obtain ⟨p3, p4⟩ := HCA.out wz hz.1.old; go_simp <;> with_reducible rfl)
            simp only [List.setIfInBounds_toArray, List.set_cons_zero, List.set_cons_succ]
            refine takeH (i := 1) (d := 83) (v := ?vby1) rfl (by kernel_rfl) (by kernel_rfl) (by kernel_rfl) (fun _ _ _ h => h) rfl (by rfl) ?yby1 hS ?rby1
            case yby1 => (intro wz hz; obtain ⟨p3, p4⟩ := HCA.out wz hz.1.old; go_simp <;> with_reducible rfl)
            simp only [List.setIfInBounds_toArray, List.set_cons_zero, List.set_cons_succ]
            refine takeH (i := 2) (d := 84) (v := ?vby2) rfl (by kernel_rfl) (by kernel_rfl) (by kernel_rfl) (fun _ _ _ h => h) rfl (by rfl) ?yby2 hS ?rby2
            case yby2 => (intro wz hz; obtain ⟨p3, p4⟩ := HCA.out wz hz.1.old; go_simp <;> with_reducible rfl)
            simp only [List.setIfInBounds_toArray, List.set_cons_zero, List.set_cons_succ]
            refine takeH (i := 3) (d := 85) (v := ?vby3) rfl (by kernel_rfl) (by kernel_rfl) (by kernel_rfl) (fun _ _ _ h => h) rfl (by rfl) ?yby3 hS ?rby3
            case yby3 => (intro wz hz; obtain ⟨p3, p4⟩ := HCA.out wz hz.1.old; go_simp <;> with_reducible rfl)
            simp only [List.setIfInBounds_toArray, List.set_cons_zero, List.set_cons_succ]
            refine takeH (i := 4) (d := 86) (v := ?vby4) rfl (by kernel_rfl) (by kernel_rfl) (by kernel_rfl) (fun _ _ _ h => h) rfl (by rfl) ?yby4 hS ?rby4
            case yby4 => (intro wz hz; obtain ⟨p3, p4⟩ := HCA.out wz hz.1.old; go_simp <;> with_reducible rfl)
            simp only [List.setIfInBounds_toArray, List.set_cons_zero, List.set_cons_succ]
            refine takeH (i := 5) (d := 87) (v := ?vby5) rfl (by kernel_rfl) (by kernel_rfl) (by kernel_rfl) (fun _ _ _ h => h) rfl (by rfl) ?yby5 hS ?rby5
            case yby5 => (intro wz hz; obtain ⟨p3, p4⟩ := HCA.out wz hz.1.old; go_simp <;> with_reducible rfl)
            simp only [List.setIfInBounds_toArray, List.set_cons_zero, List.set_cons_succ]
            refine takeH (i := 6) (d := 88) (v := ?vby6) rfl (by kernel_rfl) (by kernel_rfl) (by kernel_rfl) (fun _ _ _ h => h) rfl (by rfl) ?yby6 hS ?rby6
            case yby6 => (intro wz hz; obtain ⟨p3, p4⟩ := HCA.out wz hz.1.old; go_simp <;> with_reducible rfl)
            simp only [List.setIfInBounds_toArray, List.set_cons_zero, List.set_cons_succ]
            refine takeH (i := 7) (d := 89) (v := ?vby7) rfl (by kernel_rfl) (by kernel_rfl) (by kernel_rfl) (fun _ _ _ h => h) rfl (by rfl) ?yby7 hS ?rby7
            case yby7 => (intro wz hz; obtain ⟨p3, p4⟩ := HCA.out wz hz.1.old; go_simp <;> with_reducible rfl)
            simp only [List.setIfInBounds_toArray, List.set_cons_zero, List.set_cons_succ]
            refine takeH (i := 8) (d := 90) (v := ?vby8) rfl (by kernel_rfl) (by kernel_rfl) (by kernel_rfl) (fun _ _ _ h => h) rfl (by rfl) ?yby8 hS ?rby8
            case yby8 => (intro wz hz; obtain ⟨p3, p4⟩ := HCA.out wz hz.1.old; go_simp <;> with_reducible rfl)
            simp only [List.setIfInBounds_toArray, List.set_cons_zero, List.set_cons_succ]
            refine takeH (i := 9) (d := 91) (v := ?vby9) rfl (by kernel_rfl) (by kernel_rfl) (by kernel_rfl) (fun _ _ _ h => h) rfl (by rfl) ?yby9 hS ?rby9
            case yby9 => (intro wz hz; obtain ⟨p3, p4⟩ := HCA.out wz hz.1.old; go_simp <;> with_reducible rfl)
            simp only [List.setIfInBounds_toArray, List.set_cons_zero, List.set_cons_succ]
            refine takeH (i := 10) (d := 92) (v := ?vby10) rfl (by kernel_rfl) (by kernel_rfl) (by kernel_rfl) (fun _ _ _ h => h) rfl (by rfl) ?yby10 hS ?rby10
            case yby10 => (intro wz hz; obtain ⟨p3, p4⟩ := HCA.out wz hz.1.old; go_simp <;> with_reducible rfl)
            simp only [List.setIfInBounds_toArray, List.set_cons_zero, List.set_cons_succ]
            refine takeH (i := 11) (d := 93) (v := ?vby11) rfl (by kernel_rfl) (by kernel_rfl) (by kernel_rfl) (fun _ _ _ h => h) rfl (by rfl) ?yby11 hS ?rby11
            case yby11 => (intro wz hz; obtain ⟨p3, p4⟩ := HCA.out wz hz.1.old; go_simp <;> with_reducible rfl)
            simp only [List.setIfInBounds_toArray, List.set_cons_zero, List.set_cons_succ]
            refine wpAnyH_ready (rs := [12]) (by kernel_rfl) (by simp) ?_
            refine AllReadyH.cons rfl (fun K hK => ?_) AllReadyH.nil
            go_simp
            refine (refSet_n HSL.out HSB.out hcn A7 c7 hc120 _ (hS.1.l.up hS.1.bnd)).mono ?_
            rintro e wq ⟨A13, c13, rfl, hl13, hq⟩
            have HL13 := Lib.hid hl13
            clear hl13
            refine hK.out _ _ (⟨hS.1.below hq, hS.2.below hq⟩) (fun hT => ?_)
            clear hK hq hS
            have hS := hT
            clear hT
            refine takeH (i := 13) (d := 81) (v := ?vby13) rfl (by kernel_rfl) (by kernel_rfl) (by kernel_rfl) (fun _ _ _ h => h) rfl (by rfl) ?yby13 hS ?rby13
            case yby13 => (intro wz hz; obtain ⟨p3, p4⟩ := HCA.out wz hz.1.old; go_simp <;> with_reducible rfl)
            simp only [List.setIfInBounds_toArray, List.set_cons_zero, List.set_cons_succ]
            refine takeH (i := 14) (d := 95) (v := ?vby14) rfl (by kernel_rfl) (by kernel_rfl) (by kernel_rfl) (fun _ _ _ h => h) rfl (by rfl) ?yby14 hS ?rby14
            case yby14 => (intro wz hz; obtain ⟨p3, p4⟩ := HCA.out wz hz.1.old; go_simp <;> with_reducible rfl)
            simp only [List.setIfInBounds_toArray, List.set_cons_zero, List.set_cons_succ]
            refine takeH (i := 15) (d := 96) (v := ?vby15) rfl (by kernel_rfl) (by kernel_rfl) (by kernel_rfl) (fun _ _ _ h => h) rfl (by rfl) ?yby15 hS ?rby15
            case yby15 => (intro wz hz; obtain ⟨p3, p4⟩ := HCA.out wz hz.1.old; go_simp <;> with_reducible rfl)
            simp only [List.setIfInBounds_toArray, List.set_cons_zero, List.set_cons_succ]
            refine takeH (i := 16) (d := 13) (v := ?vby16) rfl (by kernel_rfl) (by kernel_rfl) (by kernel_rfl) (fun _ _ _ h => h) rfl (by rfl) ?yby16 hS ?rby16
            case yby16 => (intro wz hz; obtain ⟨p3, p4⟩ := HCA.out wz hz.1.old; go_simp <;> with_reducible rfl)
            simp only [List.setIfInBounds_toArray, List.set_cons_zero, List.set_cons_succ]
            refine takeH (i := 17) (d := 14) (v := ?vby17) rfl (by kernel_rfl) (by kernel_rfl) (by kernel_rfl) (fun _ _ _ h => h) rfl (by rfl) ?yby17 hS ?rby17
            case yby17 => (intro wz hz; obtain ⟨p3, p4⟩ := HCA.out wz hz.1.old; go_simp <;> with_reducible rfl)
            simp only [List.setIfInBounds_toArray, List.set_cons_zero, List.set_cons_succ]
            refine wpAnyH_done (by kernel_rfl) ?_ _
            obtain ⟨hS1, hS2⟩ := hS
            obtain ⟨p0, p1, p2⟩ := hS1.m.cells3
            obtain ⟨p3, p4, p5⟩ := hS1.m.frozen3
            obtain ⟨p6, p7, p8⟩ := hS2.cells3
            have dbb : (bb != bb) = false := by simp
            have HT : Hid (DoT w b5 B n A13 A7 c' c (((wq.setCell ⟨b5, 0, none⟩ (.int .i64 (c'.length : Nat))).setCell ⟨b5, 1, none⟩ (.int .u64 (lo c' : Nat))).setCell ⟨b5, 2, none⟩ (.int .u64 (hi c' : Nat)))) :=
              ⟨hS1.m.set3 c', hS1.was.other3 (by omega) _ _ _, (HL13.out.past3 hS1.m _ _ _).size3, ((hS1.l.up hS1.bnd).past3 hS1.m _ _ _).size3, ((hS1.old.setCell (by exact hw5) _).setCell (by exact hw5) _).setCell (by exact hw5) _⟩
            clear hS1 hS2 HL13 HW RC hcn
            go_upto_region 27 with fail
            clear p0 p1 p2 p3 p4 p5 p6 p7 p8 dbb
            generalize ((wq.setCell ⟨b5, 0, none⟩ (.int .i64 (c'.length : Nat))).setCell ⟨b5, 1, none⟩ (.int .u64 (lo c' : Nat))).setCell ⟨b5, 2, none⟩ (.int .u64 (hi c' : Nat)) = W5 at HT ⊢
            obtain ⟨p0, p1, p2⟩ := HT.out.m.cells3
            obtain ⟨p3, p4, p5⟩ := HT.out.was.cells3
            go_wp2_with fail
            refine (same_n HCN2.out A13 c13 hc2 _ HT.out.l).mono ?_
            rintro e w6 ⟨rfl, hb⟩
            have HT' := Lib.hid (HT.out.below hb)
            clear HT hb p0 p1 p2 p3 p4 p5
            obtain ⟨p3, p4, p5⟩ := HT'.out.was.cells3
            go_wp2_with fail
            refine (same_n HCN.out A7 c7 hc120 _ HT'.out.ol).mono ?_
            rintro e w7 ⟨rfl, hb⟩
            have HT := Lib.hid (HT'.out.below hb)
            clear HT' hb p3 p4 p5
            go_wp2_with fail
            go_roundw
            case rel => exact ⟨k + 1, _, _, _, by omega, rfl, by go_num, ⟨HT.out.m, HT.out.l, HCN2.out, HT.out.old⟩⟩
            case measure => simp [intOf]; omega
        · by_cases hkd2 : kd = 2
          · subst hkd2
            obtain ⟨c', hc'⟩ : ∃ c', takeT c I = c' := ⟨_, rfl⟩
            obtain ⟨F, hF⟩ : ∃ F, takeF c I = F := ⟨_, rfl⟩
            obtain ⟨ec, hec⟩ : ∃ ec, takeE c I = ec := ⟨_, rfl⟩
            have HCN2 := Lib.hid (show c'.length = n by rw [← hc', takeT_length]; exact HCN.out)
            have hc2 : c'.length ≤ 120 := by rw [HCN2.out]; exact h2
            have hF200 : F.length ≤ 200 := by rw [← hF]; have := takeF_length c I; omega
            have HTT := Lib.hid hc'
            have HTF := Lib.hid hF
            have HTE := Lib.hid hec
            clear hc' hF hec
            go_upto_region 22 with fail
            clear q0 q1
            go_cut [15, 16, 17] from 49 to 146 (fun s15 s16 s17 wx => ∃ c15 A16 c16, s15 = .pointer (some ⟨c15, 0, none⟩) ∧ s16 = .slice A16 F.length c16 ∧ s17 = .int .i64 ec ∧ Hid (DoW w b5 B n A7 c wx) ∧ Hid (Row wx c15 27 (C3 c')) ∧ Hid (RowX B wx A16 F) ∧ b5 < c15 ∧ B < c15)
            case first =>
              refine wp_region_held_drew (S := DoW w b5 B n A7 c) (by kernel_rfl) (HW.out.drew) (fun hS => ?_)
              refine takeH (i := 0) (d := 105) (v := ?vcxa0) rfl (by kernel_rfl) (by kernel_rfl) (by kernel_rfl) (fun _ _ _ h => h) rfl (by rfl) ?ycxa0 hS ?rcxa0
              case ycxa0 => (intro wz hz; obtain ⟨p0, p1, p2⟩ := hz.m.cells3; obtain ⟨p3, p4⟩ := HCA.out wz hz.old; go_simp <;> with_reducible rfl)
              simp only [List.setIfInBounds_toArray, List.set_cons_zero, List.set_cons_succ]
              refine takeH (i := 1) (d := 106) (v := ?vcxa1) rfl (by kernel_rfl) (by kernel_rfl) (by kernel_rfl) (fun _ _ _ h => h) rfl (by rfl) ?ycxa1 hS ?rcxa1
              case ycxa1 => (intro wz hz; obtain ⟨p0, p1, p2⟩ := hz.m.cells3; obtain ⟨p3, p4⟩ := HCA.out wz hz.old; go_simp <;> with_reducible rfl)
              simp only [List.setIfInBounds_toArray, List.set_cons_zero, List.set_cons_succ]
              refine takeH (i := 2) (d := 107) (v := ?vcxa2) rfl (by kernel_rfl) (by kernel_rfl) (by kernel_rfl) (fun _ _ _ h => h) rfl (by rfl) ?ycxa2 hS ?rcxa2
              case ycxa2 => (intro wz hz; obtain ⟨p0, p1, p2⟩ := hz.m.cells3; obtain ⟨p3, p4⟩ := HCA.out wz hz.old; go_simp <;> with_reducible rfl)
              simp only [List.setIfInBounds_toArray, List.set_cons_zero, List.set_cons_succ]
              refine takeH (i := 3) (d := 108) (v := ?vcxa3) rfl (by kernel_rfl) (by kernel_rfl) (by kernel_rfl) (fun _ _ _ h => h) rfl (by rfl) ?ycxa3 hS ?rcxa3
              case ycxa3 => (intro wz hz; obtain ⟨p0, p1, p2⟩ := hz.m.cells3; obtain ⟨p3, p4⟩ := HCA.out wz hz.old; go_simp <;> with_reducible rfl)
              simp only [List.setIfInBounds_toArray, List.set_cons_zero, List.set_cons_succ]
              refine takeH (i := 4) (d := 109) (v := ?vcxa4) rfl (by kernel_rfl) (by kernel_rfl) (by kernel_rfl) (fun _ _ _ h => h) rfl (by rfl) ?ycxa4 hS ?rcxa4
              case ycxa4 => (intro wz hz; obtain ⟨p0, p1, p2⟩ := hz.m.cells3; obtain ⟨p3, p4⟩ := HCA.out wz hz.old; go_simp <;> with_reducible rfl)
              simp only [List.setIfInBounds_toArray, List.set_cons_zero, List.set_cons_succ]
              refine takeH (i := 5) (d := 110) (v := ?vcxa5) rfl (by kernel_rfl) (by kernel_rfl) (by kernel_rfl) (fun _ _ _ h => h) rfl (by rfl) ?ycxa5 hS ?rcxa5
              case ycxa5 => (intro wz hz; obtain ⟨p0, p1, p2⟩ := hz.m.cells3; obtain ⟨p3, p4⟩ := HCA.out wz hz.old; go_simp <;> with_reducible rfl)
              simp only [List.setIfInBounds_toArray, List.set_cons_zero, List.set_cons_succ]
              refine wpAnyH_ready (rs := [6, 11]) (by kernel_rfl) (by simp) ?_
              refine AllReadyH.cons rfl (fun K hK => ?_) (AllReadyH.cons rfl (fun K hK => ?_) AllReadyH.nil)
              · go_simp
                refine (take_n HTT.out HTF.out HTE.out hc120 _).mono ?_
                rintro e wq ⟨A16, c16, rfl, hx, hq⟩
                refine hK.out _ _ (hS.below hq) (fun hS1 => ?_)
                clear hK
                have HS1 := Lib.hid hS1
                clear hS
                have hS := hS1
                clear hS1
                refine takeH (i := 7) (d := 104) (v := ?vcxb7) rfl (by kernel_rfl) (by kernel_rfl) (by kernel_rfl) (fun _ _ _ h => h) rfl (by rfl) ?ycxb7 hS ?rcxb7
                case ycxb7 => (intro wz hz; go_simp <;> with_reducible rfl)
                simp only [List.setIfInBounds_toArray, List.set_cons_zero, List.set_cons_succ]
                refine takeH (i := 8) (d := 112) (v := ?vcxb8) rfl (by kernel_rfl) (by kernel_rfl) (by kernel_rfl) (fun _ _ _ h => h) rfl (by rfl) ?ycxb8 hS ?rcxb8
                case ycxb8 => (intro wz hz; go_simp <;> with_reducible rfl)
                simp only [List.setIfInBounds_toArray, List.set_cons_zero, List.set_cons_succ]
                refine takeH (i := 9) (d := 113) (v := ?vcxb9) rfl (by kernel_rfl) (by kernel_rfl) (by kernel_rfl) (fun _ _ _ h => h) rfl (by rfl) ?ycxb9 hS ?rcxb9
                case ycxb9 => (intro wz hz; go_simp <;> with_reducible rfl)
                simp only [List.setIfInBounds_toArray, List.set_cons_zero, List.set_cons_succ]
                refine takeH (i := 10) (d := 114) (v := ?vcxb10) rfl (by kernel_rfl) (by kernel_rfl) (by kernel_rfl) (fun _ _ _ h => h) rfl (by rfl) ?ycxb10 hS ?rcxb10
                case ycxb10 => (intro wz hz; go_simp <;> with_reducible rfl)
                simp only [List.setIfInBounds_toArray, List.set_cons_zero, List.set_cons_succ]
                refine wpAnyH_ready (rs := [11]) (by kernel_rfl) (by simp) ?_
                refine AllReadyH.cons rfl (fun K hK => ?_) AllReadyH.nil
                go_simp
                refine hK.out _ _ (hS.alloc _) (fun hS2 => ?_)
                clear hK
                clear hS
                have hS := hS2
                clear hS2
                refine wpAnyH_ready (rs := [12]) (by kernel_rfl) (by simp) ?_
                refine AllReadyH.cons rfl (fun K hK => ?_) AllReadyH.nil
                go_simp
                refine hK.out _ _ (HS1.out.alloc _) (fun hS3 => ?_)
                clear hK
                clear hS
                have hS := hS3
                clear hS3
                refine takeH (i := 13) (d := 16) (v := ?vcxc13) rfl (by kernel_rfl) (by kernel_rfl) (by kernel_rfl) (fun _ _ _ h => h) rfl (by rfl) ?ycxc13 hS ?rcxc13
                case ycxc13 => (intro wz hz; go_simp <;> with_reducible rfl)
                simp only [List.setIfInBounds_toArray, List.set_cons_zero, List.set_cons_succ]
                refine takeH (i := 14) (d := 17) (v := ?vcxc14) rfl (by kernel_rfl) (by kernel_rfl) (by kernel_rfl) (fun _ _ _ h => h) rfl (by rfl) ?ycxc14 hS ?rcxc14
                case ycxc14 => (intro wz hz; go_simp <;> with_reducible rfl)
                simp only [List.setIfInBounds_toArray, List.set_cons_zero, List.set_cons_succ]
                refine wpAnyH_done (by kernel_rfl) ?_ _
                have H4 := Lib.hid hS
                have RC := Lib.hid (Row.new3 wq c')
                have hcb := (HS1.out.lts)
                have HX := Lib.hid (hx.alloc (.cells #[.int .i64 (c'.length : Nat), .int .u64 (lo c' : Nat), .int .u64 (hi c' : Nat)] 27) |>.mono (show B ≤ _ from HW.out.bnd))
                clear hx
                clear hS HS1 hq
                generalize wq.alloc (.cells #[.int .i64 (c'.length : Nat), .int .u64 (lo c' : Nat), .int .u64 (hi c' : Nat)] 27) = W4 at H4 RC HX ⊢
                generalize wq.heap.size = cc at RC hcb ⊢
                go_wp2_with fail
                go_meet
                exact ⟨cc, A16, c16, rfl, rfl, rfl, H4, RC, HX, by omega, by omega⟩
              · go_simp
                refine hK.out _ _ (hS.alloc _) (fun hS1 => ?_)
                clear hK
                have HS0 := Lib.hid hS
                clear hS
                have hS := hS1
                clear hS1
                refine wpAnyH_ready (rs := [6]) (by kernel_rfl) (by simp) ?_
                refine AllReadyH.cons rfl (fun K hK => ?_) AllReadyH.nil
                go_simp
                refine (take_n HTT.out HTF.out HTE.out hc120 _).mono ?_
                rintro e wq ⟨A16, c16, rfl, hx, hq⟩
                have RZ := Lib.hid (show Row wq W0.heap.size 27 [.int .i64 0, .int .u64 0, .int .u64 0] from (Row.new W0.drew 27 [.int .i64 0, .int .u64 0, .int .u64 0]).below hq)
                have hcb : b5 < W0.heap.size ∧ B < W0.heap.size ∧ w.heap.size ≤ W0.heap.size := HS0.out.lts
                have z0 := RZ.out.cell 0
                have z1 := RZ.out.cell 1
                have z2 := RZ.out.cell 2
                simp only [List.getElem?_cons_zero, List.getElem?_cons_succ] at z0 z1 z2
                obtain ⟨y0, y1, y2⟩ := RZ.out.frozen3
                refine hK.out _ _ (hS.below hq) (fun hS1 => ?_)
                clear hK
                clear hS
                have hS := hS1
                clear hS1
                refine takeH (i := 7) (d := 104) (v := ?vcxd7) rfl (by kernel_rfl) (by kernel_rfl) (by kernel_rfl) (fun _ _ _ h => h) rfl (by rfl) ?ycxd7 hS ?rcxd7
                case ycxd7 => (intro wz hz; go_simp <;> with_reducible rfl)
                simp only [List.setIfInBounds_toArray, List.set_cons_zero, List.set_cons_succ]
                refine takeH (i := 8) (d := 112) (v := ?vcxd8) rfl (by kernel_rfl) (by kernel_rfl) (by kernel_rfl) (fun _ _ _ h => h) rfl (by rfl) ?ycxd8 hS ?rcxd8
                case ycxd8 => (intro wz hz; go_simp <;> with_reducible rfl)
                simp only [List.setIfInBounds_toArray, List.set_cons_zero, List.set_cons_succ]
                refine takeH (i := 9) (d := 113) (v := ?vcxd9) rfl (by kernel_rfl) (by kernel_rfl) (by kernel_rfl) (fun _ _ _ h => h) rfl (by rfl) ?ycxd9 hS ?rcxd9
                case ycxd9 => (intro wz hz; go_simp <;> with_reducible rfl)
                simp only [List.setIfInBounds_toArray, List.set_cons_zero, List.set_cons_succ]
                refine takeH (i := 10) (d := 114) (v := ?vcxd10) rfl (by kernel_rfl) (by kernel_rfl) (by kernel_rfl) (fun _ _ _ h => h) rfl (by rfl) ?ycxd10 hS ?rcxd10
                case ycxd10 => (intro wz hz; go_simp <;> with_reducible rfl)
                simp only [List.setIfInBounds_toArray, List.set_cons_zero, List.set_cons_succ]
                refine wpAnyH_ready (rs := [12]) (by kernel_rfl) (by simp) ?_
                refine AllReadyH.cons rfl (fun K hK => ?_) AllReadyH.nil
                go_simp
                refine hK.out _ _ (hS.store hcb _ _ _) (fun hS3 => ?_)
                clear hK
                clear hS
                have hS := hS3
                clear hS3
                refine takeH (i := 13) (d := 16) (v := ?vcxe13) rfl (by kernel_rfl) (by kernel_rfl) (by kernel_rfl) (fun _ _ _ h => h) rfl (by rfl) ?ycxe13 hS ?rcxe13
                case ycxe13 => (intro wz hz; go_simp <;> with_reducible rfl)
                simp only [List.setIfInBounds_toArray, List.set_cons_zero, List.set_cons_succ]
                refine takeH (i := 14) (d := 17) (v := ?vcxe14) rfl (by kernel_rfl) (by kernel_rfl) (by kernel_rfl) (fun _ _ _ h => h) rfl (by rfl) ?ycxe14 hS ?rcxe14
                case ycxe14 => (intro wz hz; go_simp <;> with_reducible rfl)
                simp only [List.setIfInBounds_toArray, List.set_cons_zero, List.set_cons_succ]
                refine wpAnyH_done (by kernel_rfl) ?_ _
                have H4 := Lib.hid hS
                have RC := Lib.hid (show Row (((wq.setCell ⟨W0.heap.size, 0, none⟩ (.int .i64 (c'.length : Nat))).setCell ⟨W0.heap.size, 1, none⟩ (.int .u64 (lo c' : Nat))).setCell ⟨W0.heap.size, 2, none⟩ (.int .u64 (hi c' : Nat))) W0.heap.size 27 (C3 c') from ((RZ.out.set 0 _).set 1 _).set 2 _)
                have HX := Lib.hid (show RowX B (((wq.setCell ⟨W0.heap.size, 0, none⟩ (.int .i64 (c'.length : Nat))).setCell ⟨W0.heap.size, 1, none⟩ (.int .u64 (lo c' : Nat))).setCell ⟨W0.heap.size, 2, none⟩ (.int .u64 (hi c' : Nat))) A16 F from (hx.store (c := W0.heap.size) (by simp) _ _ _).mono (by have := HW.out.bnd; simp; omega))
                clear hx
                clear hS HS0 hq RZ z0 z1 z2 y0 y1 y2
                generalize (((wq.setCell ⟨W0.heap.size, 0, none⟩ (.int .i64 (c'.length : Nat))).setCell ⟨W0.heap.size, 1, none⟩ (.int .u64 (lo c' : Nat))).setCell ⟨W0.heap.size, 2, none⟩ (.int .u64 (hi c' : Nat))) = W4 at H4 RC HX ⊢
                obtain ⟨cc, hcc⟩ : ∃ c, c = W0.heap.size := ⟨_, rfl⟩
                rw [← hcc] at RC ⊢
                rw [← hcc] at hcb
                clear hcc
                go_wp2_with fail
                go_meet
                exact ⟨cc, A16, c16, rfl, rfl, rfl, H4, RC, HX, by omega, by omega⟩
            case rest =>
              obtain ⟨c15, A16, c16, rfl, rfl, rfl, HW', RC, HX, hb15, hB15⟩ := hcut
              clear HW
              have HW := HW'
              clear HW'
              obtain ⟨q0, q1⟩ := HCA.out wc HW.out.old
              have hb5w := HW.out.m.lt
              go_wp2_with fail
              refine (refTake_n HTT.out HTF.out HTE.out HCN.out A7 c7 hc120 wc (HW.out.l.up HW.out.bnd)).mono ?_
              rintro e w5 ⟨A18, c18, A19, c19, rfl, hl18, hl19, hn19, hq⟩
              have hS1 := HW.out.below hq
              have hS2 := RC.out.below hq
              obtain ⟨p0, p1, p2⟩ := hS1.m.cells3
              obtain ⟨p3, p4, p5⟩ := hS1.m.frozen3
              obtain ⟨p6, p7, p8⟩ := hS2.cells3
              have dec : (ec != ec) = false := by simp
              have HT : Hid (DoT w b5 B n A18 A7 c' c (((w5.setCell ⟨b5, 0, none⟩ (.int .i64 (c'.length : Nat))).setCell ⟨b5, 1, none⟩ (.int .u64 (lo c' : Nat))).setCell ⟨b5, 2, none⟩ (.int .u64 (hi c' : Nat)))) :=
                ⟨hS1.m.set3 c', hS1.was.other3 (by omega) _ _ _, (hl18.past3 hS1.m _ _ _).size3, ((hS1.l.up hS1.bnd).past3 hS1.m _ _ _).size3, ((hS1.old.setCell (by exact hw5) _).setCell (by exact hw5) _).setCell (by exact hw5) _⟩
              have HI1 := Lib.hid (((HX.out.below hq).store (c := b5) hb5B (.int .i64 (c'.length : Nat)) (.int .u64 (lo c' : Nat)) (.int .u64 (hi c' : Nat))).lies)
              have hne : 0 < F.length → ∀ a, A19 = some a → a.block ≠ b5 := fun _ a ha => by have := hn19 a ha; omega
              have HI2 := Lib.hid ((((hl19.past hne (.int .i64 (c'.length : Nat)) (o := 0)).past hne (.int .u64 (lo c' : Nat)) (o := 1)).past hne (.int .u64 (hi c' : Nat)) (o := 2)).size3)
              clear hS1 hS2 hl18 hl19 hn19 hne HW RC HX hq q0 q1 hb5w
              go_wp2_with fail
              clear p0 p1 p2 p3 p4 p5 p6 p7 p8 dec
              generalize ((w5.setCell ⟨b5, 0, none⟩ (.int .i64 (c'.length : Nat))).setCell ⟨b5, 1, none⟩ (.int .u64 (lo c' : Nat))).setCell ⟨b5, 2, none⟩ (.int .u64 (hi c' : Nat)) = W5 at HT HI1 HI2 ⊢
              refine (ints_same F A16 A19 c16 c19 hF200 W5 HI1.out HI2.out).mono ?_
              rintro e w6 ⟨rfl, hb⟩
              have HT' := Lib.hid (HT.out.below hb)
              clear HT hb HI1 HI2
              have HT := HT'
              clear HT'
              obtain ⟨p0, p1, p2⟩ := HT.out.m.cells3
              obtain ⟨p3, p4, p5⟩ := HT.out.was.cells3
              go_wp2_with fail
              refine (same_n HCN2.out A18 c18 hc2 _ HT.out.l).mono ?_
              rintro e w6 ⟨rfl, hb⟩
              have HT' := Lib.hid (HT.out.below hb)
              clear HT hb p0 p1 p2 p3 p4 p5
              obtain ⟨p3, p4, p5⟩ := HT'.out.was.cells3
              go_wp2_with fail
              refine (same_n HCN.out A7 c7 hc120 _ HT'.out.ol).mono ?_
              rintro e w7 ⟨rfl, hb⟩
              have HT := Lib.hid (HT'.out.below hb)
              clear HT' hb p3 p4 p5
              go_wp2_with fail
              go_roundw
              case rel => exact ⟨k + 1, _, _, _, by omega, rfl, by go_num, ⟨HT.out.m, HT.out.l, HCN2.out, HT.out.old⟩⟩
              case measure => simp [intOf]; omega
          · have e0 : (kd == 0) = false := by simpa using hkd0
            have e1 : (kd == 1) = false := by simpa using hkd1
            have e2 : (kd == 2) = false := by simpa using hkd2
            have HT : Hid (DoT w b5 B n A7 A7 c c W0) := ⟨HW.out.m, HW.out.was, HW.out.l.up HW.out.bnd, HW.out.l.up HW.out.bnd, HW.out.old⟩
            have HCN2 := HCN
            have hc2 := hc120
            clear HW
            go_upto_region 27 with fail
            clear q0 q1
            obtain ⟨p0, p1, p2⟩ := HT.out.m.cells3
            obtain ⟨p3, p4, p5⟩ := HT.out.was.cells3
            go_wp2_with fail
            refine (same_n HCN2.out A7 c7 hc2 _ HT.out.l).mono ?_
            rintro e w6 ⟨rfl, hb⟩
            have HT' := Lib.hid (HT.out.below hb)
            clear HT hb p0 p1 p2 p3 p4 p5
            obtain ⟨p3, p4, p5⟩ := HT'.out.was.cells3
            go_wp2_with fail
            refine (same_n HCN.out A7 c7 hc120 _ HT'.out.ol).mono ?_
            rintro e w7 ⟨rfl, hb⟩
            have HT := Lib.hid (HT'.out.below hb)
            clear HT' hb p3 p4 p5
            go_wp2_with fail
            go_roundw
            case rel => exact ⟨k + 1, _, _, _, by omega, rfl, by go_num, ⟨HT.out.m, HT.out.l, HCN2.out, HT.out.old⟩⟩
            case measure => simp [intOf]; omega
    · go_wp2_with (go_at_call 6; refine (works_any _).mono ?_; rintro e w' ⟨rfl, hb⟩)
      go_ret
      exact ⟨rfl, chain HI.out.old hb (Nat.le_refl _)⟩
end Go.Proofs.Ytfmjnjhocpoafaa
