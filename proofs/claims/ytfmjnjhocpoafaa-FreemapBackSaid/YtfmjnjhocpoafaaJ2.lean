/-
  The walk of the law FreemapBack where there is a map.
  Conditions: the slice reads as a list of numbers.
-/
import Derived.Test.YtfmjnjhocpoafaaJ1
namespace Go.Proofs.Ytfmjnjhocpoafaa
open Go.RowKit Go.Shelf
attribute [local go_sem] Oper.semAt_some

theorem BkS.ne {w : World} {L : List Int} {A : Option Addr} {cap b5 : Nat} {M : List Value} {W : World} (h : BkS w L A cap b5 M W) : b5 ≠ w.heap.size + 1 := by
  intro e
  have h1 := h.m
  rw [Row, e, show W.heap[w.heap.size + 1]? = _ from h.r] at h1
  simp at h1
/-- Ahead of the range. -/
structure BkB (w : World) (L : List Int) (A : Option Addr) (cap b5 : Nat) (m : List Bool) (b10 Bn Cn : Nat) (W : World) : Prop where
  s : BkS w L A cap b5 (C3 m) W
  last : Boxed W b10 3 (.int .i64 (-1))
  cnt : Boxed W (b10 + 1) 3 (.int .i64 0)
  b : Box W Bn Cn m true
  lt : w.heap.size + 1 < b10 ∧ b5 < b10 ∧ b10 + 1 < Bn ∧ b10 + 1 < Cn
  ne : b5 ≠ w.heap.size + 1
/-- A list whose last number does not come behind the others, or is not in L. -/
def BadX (L : List Int) (pre : List Nat) : Prop := ∃ p x, pre = p ++ [x] ∧ ¬ (lastI p < ((x : Nat) : Int) ∧ metB L (x : Int) L.length = true)
/-- Behind the range. -/
structure BkD (w : World) (L : List Int) (A : Option Addr) (cap b5 : Nat) (m : List Bool) (b10 D : Nat) (W : World) : Prop where
  s : Boxed W w.heap.size 38 (.slice A L.length cap)
  r : ∃ v, Boxed W (w.heap.size + 1) 4 v
  m : Row W b5 27 (C3 m)
  cnt : Boxed W (b10 + 1) 3 (.int .i64 (L.length : Nat))
  d : W.heap[D]? = some (.deferred (some []))
  old : Below w.heap.size w W
  lt : w.heap.size + 1 < b10 ∧ b10 + 1 < D
  ne : b5 ≠ w.heap.size + 1
section
variable {w : World} {L : List Int} {A : Option Addr} {cap b5 : Nat} {m : List Bool} {b10 D : Nat} {W W' : World}
theorem BkD.below (h : BkD w L A cap b5 m b10 D W) (hb : Below W.heap.size W W') : BkD w L A cap b5 m b10 D W' := by
  obtain ⟨v, hv⟩ := h.r
  exact ⟨Boxed.call h.s hb, ⟨v, Boxed.call hv hb⟩, h.m.below hb, Boxed.call h.cnt hb, (hb.block D (Array.getElem?_eq_some_iff.1 h.d).1).trans h.d, chain h.old hb (Nat.le_refl _), h.lt, h.ne⟩
theorem BkD.drew (h : BkD w L A cap b5 m b10 D W) : BkD w L A cap b5 m b10 D W.drew := h.below ((Below.refl _ _).drew)
theorem BkD.set (h : BkD w L A cap b5 m b10 D W) (v : Value) : BkD w L A cap b5 m b10 D (W.setCell ⟨w.heap.size + 1, 0, none⟩ v) := by
  obtain ⟨u, hu⟩ := h.r
  have hl := h.lt
  exact ⟨h.s.other (by omega) _, ⟨v, hu.set v⟩, h.m.other h.ne _ _, h.cnt.other (by omega) _, (Below.heap_setCell _ _ _ _ (by simp; omega)).trans h.d, h.old.setCell (p := ⟨w.heap.size + 1, 0, none⟩) (by simp) _, hl, h.ne⟩
end
def MtR (L : List Int) (x : Int) (W0 : World) (v j : Value) (W : World) : Prop := ∃ k : Nat, k ≤ L.length ∧ v = .bool (metB L x k) ∧ j = .int .i64 (k : Int) ∧ W = W0
set_option maxRecDepth 100000 in
set_option maxHeartbeats 4000000 in
theorem back_some (n : Int) (L : List Int) (A : Option Addr) (cap : Nat) (w : World) (hL : Lies w w.heap.size 1 A L.length (IL L)) (hlen : L.length ≤ 150) (hn : n ≤ 200) (m : List Bool) (hr : ofR n L = some m) (hom : OfM n L m) (hok : okB n L L.length = true) :
    Calls Try.prog 4 #[.int .i64 n, .slice A L.length cap] w fun e w' => e = .returned (.bool true) ∧ Below w.heap.size w w' := by
  have d0 : decide (150 < L.length) = false := by simp; omega
  have d1 : decide ((150 : Int) < (L.length : Int)) = false := by simp; omega
  have d2 : decide (200 < n) = false := by simp; omega
  have HL := Lib.hid hL
  have HR := Lib.hid hr
  have OKL := Lib.hid hok
  have HOM := Lib.hid hom
  have hm120 : m.length ≤ 120 := by have := ofR_length hr; omega
  obtain ⟨M, hM⟩ : ∃ M : List Value, M = C3 m := ⟨_, rfl⟩
  have HM := Lib.hid hM
  clear hL hr hok hM hom
  refine (callsIn_wide (n := 3)).1 ?_
  refine callsIn_of_wp_marks Try.func4 rfl trivial ?_ rfl
  simp only [Try.ntmps4, List.size_toArray, List.length_cons, List.length_nil, Nat.reduceAdd, Nat.reduceSub, Array.replicate_succ, Array.replicate_zero, List.push_toArray, List.append_toArray, List.nil_append, List.cons_append]
  gi_wp2_with fail
  have hB0 : Below w.heap.size w ((w.alloc (.cells #[.slice A L.length cap] 38)).alloc (.cells #[.bool false] 4)) := ((Below.refl _ w).alloc (Nat.le_refl _) _).alloc (by simp) _
  refine wcall2 ((of_is HR.out A cap _ ((HL.out.under hB0).up hB0.size) (by unfold maxLen; omega)).mono ?_)
  rintro e w1 ⟨hh, hb⟩
  obtain rfl : e = .returned (.tuple #[.agg #[.int .i64 (m.length : Nat), .int .u64 (lo m : Nat), .int .u64 (hi m : Nat)], .bool true]) := by
    rcases hh with ⟨m', h1, h2⟩ | ⟨h1, h2⟩
    · cases h1; exact h2
    · cases h1
  have HS := Lib.hid (BkS.start w L A cap M hb)
  rw [show M.toArray = #[.int .i64 (m.length : Nat), .int .u64 (lo m : Nat), .int .u64 (hi m : Nat)] from by rw [HM.out]; rfl] at HS
  clear hh hb hB0
  gi_upto_region 4 with fail
  generalize w1.alloc (.cells #[.int .i64 (m.length : Nat), .int .u64 (lo m : Nat), .int .u64 (hi m : Nat)] 27) = W at HS ⊢
  generalize w1.heap.size = b5 at HS ⊢
  have OK0 := Lib.hid (show okB n L 0 = (decide (1 ≤ n) && decide (n ≤ 120)) from rfl)
  gi_cut [7] from 16 (fun s7 wx => s7 = .bool (okB n L 0) ∧ Hid (BkS w L A cap b5 M wx))
  case first =>
    by_cases h1 : 1 ≤ n
    · have e0 : decide (1 ≤ n) = true := by simpa using h1
      by_cases h2 : n ≤ 120
      · have e1 : decide (n ≤ 120) = true := by simpa using h2
        gi_wp2_with fail
        gi_meet
        exact ⟨by rw [OK0.out, e0, e1]; rfl, HS⟩
      · have e1 : decide (n ≤ 120) = false := by simpa using h2
        gi_wp2_with fail
        gi_meet
        exact ⟨by rw [OK0.out, e0, e1]; rfl, HS⟩
    · have e0 : decide (1 ≤ n) = false := by simpa using h1
      gi_wp2_with fail
      gi_meet
      exact ⟨by rw [OK0.out, e0]; rfl, HS⟩
  case rest =>
    obtain ⟨rfl, HS'⟩ := hcut
    clear HS OK0
    have HS := HS'
    clear HS'
    gi_wp2_with fail
    gi_loopw [7, 8] (fun v i wr => BkR w L A cap b5 M n v i wr) (fun _ i _ => L.length - (intOf i).toNat)
    case atStart => exact ⟨0, Nat.zero_le _, rfl, rfl, HS⟩
    case round =>
      clear HS
      obtain ⟨k, hk, rfl, rfl, HS⟩ := hrel
      have qs := HS.out.s.cell
      by_cases hlt : k < L.length
      · obtain ⟨a, u, rfl, hab, hu, hcu⟩ := HL.out.get hlt
        rw [IL_get L k hlt] at hu
        cases hu
        have HCA := Lib.hid (show ∀ z : World, Below w.heap.size w z → z.cell? (a.add k) = some (.int .i64 L[k]) from fun z hz => (hz.cell (by rw [add_block]; exact hab)).trans hcu)
        have HK := Lib.hid (getD_of hlt)
        have HOI := Lib.hid (okI_zero n L k)
        rw [HK.out] at HOI
        generalize L[k] = x at HCA HK HOI
        clear hcu
        gi_upto_region 8 with fail
        gi_cut [7] from 200 (fun s7 wx => s7 = .bool (okI n L k 0) ∧ Hid (BkS w L (some a) cap b5 M wx))
        case first =>
          have qx := HCA.out wr HS.out.old
          cases hb : okB n L k with
          | false =>
            rw [hb] at HOI
            gi_wp2_with fail
            gi_meet
            exact ⟨by rw [HOI.out]; rfl, HS⟩
          | true =>
            rw [hb] at HOI
            by_cases hx0 : 0 ≤ x
            · have e0 : decide (0 ≤ x) = true := by simpa using hx0
              by_cases hxn : x < n
              · have e1 : decide (x < n) = true := by simpa using hxn
                gi_wp2_with fail
                gi_meet
                exact ⟨by rw [HOI.out, e0, e1]; rfl, HS⟩
              · have e1 : decide (x < n) = false := by simpa using hxn
                gi_wp2_with fail
                gi_meet
                exact ⟨by rw [HOI.out, e0, e1]; rfl, HS⟩
            · have e0 : decide (0 ≤ x) = false := by simpa using hx0
              gi_wp2_with fail
              gi_meet
              exact ⟨by rw [HOI.out, e0]; rfl, HS⟩
        case rest =>
          obtain ⟨rfl, HS'⟩ := hcut
          clear HS qs
          have HS := HS'
          clear HS' HOI
          gi_wp2_with fail
          gi_loopw [7, 9] (fun v j wr => BkJ w L (some a) cap b5 M n k v j wr) (fun _ j _ => k - (intOf j).toNat)
          case atStart => exact ⟨0, Nat.zero_le _, rfl, rfl, HS⟩
          case round =>
            clear HS
            obtain ⟨j, hj, rfl, rfl, HS⟩ := hrel
            by_cases hjk : j < k
            · obtain ⟨a', u, ha', _, hu, hcu⟩ := HL.out.get (show j < L.length by omega)
              cases ha'
              rw [IL_get L j (by omega)] at hu
              cases hu
              have HCB := Lib.hid (show ∀ z : World, Below w.heap.size w z → z.cell? (a.add j) = some (.int .i64 L[j]) from fun z hz => (hz.cell (by rw [add_block]; exact hab)).trans hcu)
              have HOS := Lib.hid (okI_succ n L k j)
              rw [HK.out, getD_of (show j < L.length by omega)] at HOS
              generalize L[j] = y at HCB HOS
              clear hcu
              have hjL : j < L.length := by omega
              gi_upto_region 12 with fail
              cases hb : okI n L k j with
              | false =>
                rw [hb] at HOS
                refine region_wide (S := BkS w L (some a) cap b5 M) (by kernel_rfl) HS.out.drew (fun hS => ?_)
                refine takeH (i := 0) (d := 63) (v := ?vpn0) rfl (by kernel_rfl) (by kernel_rfl) (by kernel_rfl) (fun _ _ _ h => h) rfl (by rfl) ?ypn0 hS ?rpn0
                case ypn0 => (intro wz hz; go_simp <;> with_reducible rfl)
                simp only [List.setIfInBounds_toArray, List.set_cons_zero, List.set_cons_succ]
                refine takeH (i := 1) (d := 64) (v := ?vpn1) rfl (by kernel_rfl) (by kernel_rfl) (by kernel_rfl) (fun _ _ _ h => h) rfl (by rfl) ?ypn1 hS ?rpn1
                case ypn1 => (intro wz hz; go_simp <;> with_reducible rfl)
                simp only [List.setIfInBounds_toArray, List.set_cons_zero, List.set_cons_succ]
                refine skipH (i := 2) (d := 65) rfl (by kernel_rfl) (by kernel_rfl) (by kernel_rfl) (fun _ _ _ h => h) rfl (by rfl) hS ?_
                simp only [List.setIfInBounds_toArray, List.set_cons_zero, List.set_cons_succ]
                refine skipH (i := 3) (d := 66) rfl (by kernel_rfl) (by kernel_rfl) (by kernel_rfl) (fun _ _ _ h => h) rfl (by rfl) hS ?_
                simp only [List.setIfInBounds_toArray, List.set_cons_zero, List.set_cons_succ]
                refine skipH (i := 4) (d := 67) rfl (by kernel_rfl) (by kernel_rfl) (by kernel_rfl) (fun _ _ _ h => h) rfl (by rfl) hS ?_
                simp only [List.setIfInBounds_toArray, List.set_cons_zero, List.set_cons_succ]
                refine skipH (i := 5) (d := 68) rfl (by kernel_rfl) (by kernel_rfl) (by kernel_rfl) (fun _ _ _ h => h) rfl (by rfl) hS ?_
                simp only [List.setIfInBounds_toArray, List.set_cons_zero, List.set_cons_succ]
                refine skipH (i := 6) (d := 69) rfl (by kernel_rfl) (by kernel_rfl) (by kernel_rfl) (fun _ _ _ h => h) rfl (by rfl) hS ?_
                simp only [List.setIfInBounds_toArray, List.set_cons_zero, List.set_cons_succ]
                refine skipH (i := 7) (d := 70) rfl (by kernel_rfl) (by kernel_rfl) (by kernel_rfl) (fun _ _ _ h => h) rfl (by rfl) hS ?_
                simp only [List.setIfInBounds_toArray, List.set_cons_zero, List.set_cons_succ]
                refine skipH (i := 8) (d := 71) rfl (by kernel_rfl) (by kernel_rfl) (by kernel_rfl) (fun _ _ _ h => h) rfl (by rfl) hS ?_
                simp only [List.setIfInBounds_toArray, List.set_cons_zero, List.set_cons_succ]
                refine skipH (i := 9) (d := 72) rfl (by kernel_rfl) (by kernel_rfl) (by kernel_rfl) (fun _ _ _ h => h) rfl (by rfl) hS ?_
                simp only [List.setIfInBounds_toArray, List.set_cons_zero, List.set_cons_succ]
                refine skipH (i := 10) (d := 73) rfl (by kernel_rfl) (by kernel_rfl) (by kernel_rfl) (fun _ _ _ h => h) rfl (by rfl) hS ?_
                simp only [List.setIfInBounds_toArray, List.set_cons_zero, List.set_cons_succ]
                refine takeH (i := 11) (d := 74) (v := ?vpn11) rfl (by kernel_rfl) (by kernel_rfl) (by kernel_rfl) (fun _ _ _ h => h) rfl (by rfl) ?ypn11 hS ?rpn11
                case ypn11 => (intro wz hz; go_simp <;> with_reducible rfl)
                simp only [List.setIfInBounds_toArray, List.set_cons_zero, List.set_cons_succ]
                refine takeH (i := 12) (d := 7) (v := ?vpn12) rfl (by kernel_rfl) (by kernel_rfl) (by kernel_rfl) (fun _ _ _ h => h) rfl (by rfl) ?ypn12 hS ?rpn12
                case ypn12 => (intro wz hz; go_simp <;> with_reducible rfl)
                simp only [List.setIfInBounds_toArray, List.set_cons_zero, List.set_cons_succ]
                refine wpAnyH_done (by kernel_rfl) ?_ _
                refine only_done ?_
                have HS' := Lib.hid hS
                clear hS HS
                gi_wp2_with fail
                go_roundw
                case rel => exact ⟨j + 1, by omega, by rw [HOS.out]; rfl, by go_num, HS'⟩
                case measure => simp [intOf]; omega
              | true =>
                rw [hb] at HOS
                refine region_wide (S := BkS w L (some a) cap b5 M) (by kernel_rfl) HS.out.drew (fun hS => ?_)
                refine takeH (i := 0) (d := 63) (v := ?vpy0) rfl (by kernel_rfl) (by kernel_rfl) (by kernel_rfl) (fun _ _ _ h => h) rfl (by rfl) ?ypy0 hS ?rpy0
                case ypy0 => (intro wz hz; have q3 := hz.s.cell; have q4 := HCA.out wz hz.old; have q5 := HCB.out wz hz.old; go_simp <;> with_reducible rfl)
                simp only [List.setIfInBounds_toArray, List.set_cons_zero, List.set_cons_succ]
                refine takeH (i := 1) (d := 64) (v := ?vpy1) rfl (by kernel_rfl) (by kernel_rfl) (by kernel_rfl) (fun _ _ _ h => h) rfl (by rfl) ?ypy1 hS ?rpy1
                case ypy1 => (intro wz hz; have q3 := hz.s.cell; have q4 := HCA.out wz hz.old; have q5 := HCB.out wz hz.old; go_simp <;> with_reducible rfl)
                simp only [List.setIfInBounds_toArray, List.set_cons_zero, List.set_cons_succ]
                refine takeH (i := 2) (d := 65) (v := ?vpy2) rfl (by kernel_rfl) (by kernel_rfl) (by kernel_rfl) (fun _ _ _ h => h) rfl (by rfl) ?ypy2 hS ?rpy2
                case ypy2 => (intro wz hz; have q3 := hz.s.cell; have q4 := HCA.out wz hz.old; have q5 := HCB.out wz hz.old; go_simp <;> with_reducible rfl)
                simp only [List.setIfInBounds_toArray, List.set_cons_zero, List.set_cons_succ]
                refine takeH (i := 3) (d := 66) (v := ?vpy3) rfl (by kernel_rfl) (by kernel_rfl) (by kernel_rfl) (fun _ _ _ h => h) rfl (by rfl) ?ypy3 hS ?rpy3
                case ypy3 => (intro wz hz; have q3 := hz.s.cell; have q4 := HCA.out wz hz.old; have q5 := HCB.out wz hz.old; go_simp <;> with_reducible rfl)
                simp only [List.setIfInBounds_toArray, List.set_cons_zero, List.set_cons_succ]
                refine takeH (i := 4) (d := 67) (v := ?vpy4) rfl (by kernel_rfl) (by kernel_rfl) (by kernel_rfl) (fun _ _ _ h => h) rfl (by rfl) ?ypy4 hS ?rpy4
                case ypy4 => (intro wz hz; have q3 := hz.s.cell; have q4 := HCA.out wz hz.old; have q5 := HCB.out wz hz.old; go_simp <;> with_reducible rfl)
                simp only [List.setIfInBounds_toArray, List.set_cons_zero, List.set_cons_succ]
                refine takeH (i := 5) (d := 68) (v := ?vpy5) rfl (by kernel_rfl) (by kernel_rfl) (by kernel_rfl) (fun _ _ _ h => h) rfl (by rfl) ?ypy5 hS ?rpy5
                case ypy5 => (intro wz hz; have q3 := hz.s.cell; have q4 := HCA.out wz hz.old; have q5 := HCB.out wz hz.old; go_simp <;> with_reducible rfl)
                simp only [List.setIfInBounds_toArray, List.set_cons_zero, List.set_cons_succ]
                refine takeH (i := 6) (d := 69) (v := ?vpy6) rfl (by kernel_rfl) (by kernel_rfl) (by kernel_rfl) (fun _ _ _ h => h) rfl (by rfl) ?ypy6 hS ?rpy6
                case ypy6 => (intro wz hz; have q3 := hz.s.cell; have q4 := HCA.out wz hz.old; have q5 := HCB.out wz hz.old; go_simp <;> with_reducible rfl)
                simp only [List.setIfInBounds_toArray, List.set_cons_zero, List.set_cons_succ]
                refine takeH (i := 7) (d := 70) (v := ?vpy7) rfl (by kernel_rfl) (by kernel_rfl) (by kernel_rfl) (fun _ _ _ h => h) rfl (by rfl) ?ypy7 hS ?rpy7
                case ypy7 => (intro wz hz; have q3 := hz.s.cell; have q4 := HCA.out wz hz.old; have q5 := HCB.out wz hz.old; go_simp <;> with_reducible rfl)
                simp only [List.setIfInBounds_toArray, List.set_cons_zero, List.set_cons_succ]
                refine takeH (i := 8) (d := 71) (v := ?vpy8) rfl (by kernel_rfl) (by kernel_rfl) (by kernel_rfl) (fun _ _ _ h => h) rfl (by rfl) ?ypy8 hS ?rpy8
                case ypy8 => (intro wz hz; have q3 := hz.s.cell; have q4 := HCA.out wz hz.old; have q5 := HCB.out wz hz.old; go_simp <;> with_reducible rfl)
                simp only [List.setIfInBounds_toArray, List.set_cons_zero, List.set_cons_succ]
                refine takeH (i := 9) (d := 72) (v := ?vpy9) rfl (by kernel_rfl) (by kernel_rfl) (by kernel_rfl) (fun _ _ _ h => h) rfl (by rfl) ?ypy9 hS ?rpy9
                case ypy9 => (intro wz hz; have q3 := hz.s.cell; have q4 := HCA.out wz hz.old; have q5 := HCB.out wz hz.old; go_simp <;> with_reducible rfl)
                simp only [List.setIfInBounds_toArray, List.set_cons_zero, List.set_cons_succ]
                refine takeH (i := 10) (d := 73) (v := ?vpy10) rfl (by kernel_rfl) (by kernel_rfl) (by kernel_rfl) (fun _ _ _ h => h) rfl (by rfl) ?ypy10 hS ?rpy10
                case ypy10 => (intro wz hz; have q3 := hz.s.cell; have q4 := HCA.out wz hz.old; have q5 := HCB.out wz hz.old; go_simp <;> with_reducible rfl)
                simp only [List.setIfInBounds_toArray, List.set_cons_zero, List.set_cons_succ]
                refine takeH (i := 11) (d := 74) (v := ?vpy11) rfl (by kernel_rfl) (by kernel_rfl) (by kernel_rfl) (fun _ _ _ h => h) rfl (by rfl) ?ypy11 hS ?rpy11
                case ypy11 => (intro wz hz; have q3 := hz.s.cell; have q4 := HCA.out wz hz.old; have q5 := HCB.out wz hz.old; go_simp <;> with_reducible rfl)
                simp only [List.setIfInBounds_toArray, List.set_cons_zero, List.set_cons_succ]
                refine takeH (i := 12) (d := 7) (v := ?vpy12) rfl (by kernel_rfl) (by kernel_rfl) (by kernel_rfl) (fun _ _ _ h => h) rfl (by rfl) ?ypy12 hS ?rpy12
                case ypy12 => (intro wz hz; have q3 := hz.s.cell; have q4 := HCA.out wz hz.old; have q5 := HCB.out wz hz.old; go_simp <;> with_reducible rfl)
                simp only [List.setIfInBounds_toArray, List.set_cons_zero, List.set_cons_succ]
                refine wpAnyH_done (by kernel_rfl) ?_ _
                refine only_done ?_
                have HS' := Lib.hid hS
                clear hS HS
                gi_wp2_with fail
                go_roundw
                case rel => exact ⟨j + 1, by omega, by rw [HOS.out]; rfl, by go_num, HS'⟩
                case measure => simp [intOf]; omega
            · obtain rfl : j = k := by omega
              gi_wp2_with fail
              go_roundw
              case rel => exact ⟨j + 1, by omega, by rw [okI_all], by go_num, HS⟩
              case measure => simp [intOf]; omega
      · obtain rfl : k = L.length := by omega
        rw [OKL.out]
        rw [HM.out] at HS
        obtain ⟨q0, q1, q2⟩ := ((HS.out.alloc (.cells #[.int .i64 (-1)] 3)).alloc (.cells #[.int .i64 0] 3)).m.cells3
        gi_wp2_with fail
        refine wcall2 ((all_any m _).mono ?_)
        rintro e w3 ⟨Bn, Cn, rfl, hbx, hB1, hC1, hb⟩
        have hfn := func_nil Bn Cn
        have HB : Hid (BkB w L A cap b5 m wr.heap.size Bn Cn w3) := by
          refine ⟨((HS.out.alloc _).alloc _).below hb, Boxed.call ((Boxed.new wr 3 (.int .i64 (-1))).alloc _) hb, ?_, hbx, ⟨HS.out.r.lt, HS.out.m.lt, ?_, ?_⟩, HS.out.ne⟩
          · have := Boxed.call (Boxed.new (wr.alloc (.cells #[.int .i64 (-1)] 3)) 3 (.int .i64 0)) hb
            rwa [World.size_alloc] at this
          · simp at hB1; omega
          · simp at hC1; omega
        obtain ⟨b10, hb10⟩ : ∃ b, b = wr.heap.size := ⟨_, rfl⟩
        rw [← hb10] at HB ⊢
        clear hb10 HS q0 q1 q2 hbx hB1 hC1 hb qs
        gi_upto_if 84 with fail
        gi_cut [7, 8, 12] from 16 (fun s7 s8 s12 wx => s12 = .func (.func 23) #[] #[.pointer (some ⟨Bn, 0, none⟩), .pointer (some ⟨Cn, 0, none⟩)] ∧ Hid (BkB w L A cap b5 m b10 Bn Cn wx))
        case first =>
          gi_wp2_with fail
          gi_meet
          exact ⟨rfl, HB⟩
        case rest =>
          obtain ⟨rfl, HB'⟩ := hcut
          clear HB hfn
          have HB := HB'
          clear HB'
          gi_wp2_with fail
          obtain ⟨hlt1, hlt2, hlt3, hlt4⟩ := HB.out.lt
          have hbw : b10 + 1 < wc.heap.size := HB.out.cnt.lt
          have hfr := pg_total m m.length
          rw [HOM.out.cnt] at hfr
          have hml := HOM.out.len
          obtain ⟨f, hf⟩ : ∃ f, f = (pg m false m.length).length := ⟨_, rfl⟩
          rw [← hf] at hfr
          have HF := Lib.hid hf
          have HML := Lib.hid hml
          clear hf hml
          refine wpIn_rangeFunc_ownF rfl (by omega) (gf := 23) (lb := #[.pointer (some ⟨Bn, 0, none⟩), .pointer (some ⟨Cn, 0, none⟩)]) rfl trivial (enters_of Try.func23 (by kernel_rfl) rfl)
            (iter_stops _ Bn Cn m true hm120 wc HB.out.b) kpB_t (kpB_b HB.out.b.lt.1 HB.out.b.lt.2) (Below.refl _ _) (fun _ => rfl)
            (fun pre W' => (Boxed W' b10 3 (.int .i64 (lastI pre)) ∧ Boxed W' (b10 + 1) 3 (.int .i64 ((pre.length : Nat) : Int))) ∧ Below b10 wc W')
            (fun _ pre _ => BadX L pre)
            (OwnFrom.and (OwnFrom.and (Own.from (boxed_own _ _ _) _) (Own.from (boxed_own _ _ _) _)) (ownFrom_below (by omega) (by omega)))
            (fun _ => ownFrom_pure _ _)
            ⟨⟨HB.out.last, HB.out.cnt⟩, Below.refl _ _⟩
            (fun x => { tmps := #[.int .i64 n, .slice A L.length cap, undef, .pointer (some ⟨w.heap.size, 0, none⟩), .pointer (some ⟨w.heap.size + 1, 0, none⟩), .pointer (some ⟨b5, 0, none⟩), .bool true, u7, u8, u9, .pointer (some ⟨b10, 0, none⟩), .pointer (some ⟨b10 + 1, 0, none⟩), .func (.func 23) #[] #[.pointer (some ⟨Bn, 0, none⟩), .pointer (some ⟨Cn, 0, none⟩)], .int .i64 (x : Int), undef, undef, u16, u17, u18, u19, u20, u21, u22, u23, u24, u25, u26, u27, u28, u29, u30, u31, u32, u33, u34, u35, u36, u37, u38, u39, u40, u41, u42, u43, u44, u45, u46, u47, u48, u49, u50, u51, u52, u53, u54, u55, u56, u57, u58, u59, u60, u61, u62, u63, u64, u65, u66, u67, u68, u69, u70, u71, u72, u73, u74, u75, u76, u77, u78, u79, u80, u81, u82, u83, u84, .func (.func 23) #[] #[.pointer (some ⟨Bn, 0, none⟩), .pointer (some ⟨Cn, 0, none⟩)], .int .i64 (x : Int), u87, u88, u89, u90, u91, u92, u93, u94, u95, u96, u97, u98, u99, u100, u101, u102, u103, u104, u105, u106, u107, u108, u109, u110, u111, u112, u113, u114, u115, u116, u117, u118, u119, u120, u121, u122, u123, u124, u125, u126], defers := [] }) ?assign ?body ?done ?stop
          case assign =>
            intro l x W K hK
            gi_wp2
            simpa using hK
          case stop =>
            rintro D c pre W' _ hp ⟨p, x, rfl, hn⟩ _
            refine absurd ⟨pg_rises hp, ?_⟩ hn
            have hx := (pg_mem.1 (hp.subset (show x ∈ p ++ [x] by simp))).2
            obtain ⟨j, hj⟩ := (HOM.out.is x).1 hx
            exact metB_of hj
          case body =>
            rintro l pre x W' ⟨⟨b1, b2⟩, hb⟩ hlt
            have hle := pg_le m true m.length
            have hpl : pre.length < 120 := by omega
            have c1 := b1.cell
            have f1 := b1.frozen
            have c2 := b2.cell
            have f2 := b2.frozen
            have qs : W'.cell? ⟨w.heap.size, 0, none⟩ = some (.slice A L.length cap) := (hb.cell (p := ⟨w.heap.size, 0, none⟩) (by simp; omega)).trans HB.out.s.s.cell
            have qr : W'.cell? ⟨w.heap.size + 1, 0, none⟩ = some (.bool false) := (hb.cell (p := ⟨w.heap.size + 1, 0, none⟩) (by simp; omega)).trans HB.out.s.r.cell
            have qf : W'.frozen? ⟨w.heap.size + 1, 0, none⟩ = false := (hb.frozen (p := ⟨w.heap.size + 1, 0, none⟩) (by simp; omega)).trans HB.out.s.r.frozen
            have HBB := Lib.hid hb
            have HLW := Lib.hid (HL.out.under (HB.out.s.old.trans (hb.mono (by omega))))
            clear hb
            gi_wp2_with fail
            gi_loopw [14, 15] (fun v j wr => MtR L (x : Int) W' v j wr) (fun _ j _ => L.length - (intOf j).toNat)
            case atStart => exact ⟨0, Nat.zero_le _, rfl, rfl, rfl⟩
            case round =>
              obtain ⟨k, hk, rfl, rfl, hW⟩ := hrel
              subst hW
              by_cases hkl : k < L.length
              · obtain ⟨a, u, rfl, hab, hu, hcu⟩ := HLW.out.get hkl
                rw [IL_get L k hkl] at hu
                cases hu
                have HMS := Lib.hid (metB_succ L (x : Int) k)
                rw [getD_of hkl] at HMS
                generalize L[k] = y at hcu HMS
                cases hmt : metB L (x : Int) k with
                | true =>
                  rw [hmt] at HMS
                  gi_wp2_with fail
                  go_roundw
                  case rel => exact ⟨k + 1, by omega, by rw [HMS.out]; rfl, by go_num, rfl⟩
                  case measure => simp [intOf]; omega
                | false =>
                  rw [hmt] at HMS
                  gi_wp2_with fail
                  go_roundw
                  case rel => exact ⟨k + 1, by omega, by rw [HMS.out]; simp, by go_num, rfl⟩
                  case measure => simp [intOf]; omega
              · obtain rfl : k = L.length := by omega
                by_cases hgl : lastI pre < (x : Int)
                · have e0 : decide ((x : Int) ≤ lastI pre) = false := by simp; omega
                  cases hmt : metB L (x : Int) L.length with
                  | true =>
                    gi_wp2_with fail
                    exact ⟨(KeepsOthers.setCell _ _ _).trans (KeepsOthers.setCell _ _ _), kpB_t (kpB_set (by omega) (by omega) _ _) (kpB_set (by omega) (by omega) _ _),
                      ⟨by rw [lastI_snoc]; exact (b1.set _).other (by omega) _, by have := (b2.other (B' := b10) (by omega) (.int .i64 (x : Int))).set (.int .i64 ((pre.length : Int) + 1)); simpa using this⟩, (HBB.out.setCell (p := ⟨b10, 0, none⟩) (by simp) _).setCell (p := ⟨b10 + 1, 0, none⟩) (by simp) _⟩
                  | false =>
                    have HN := Lib.hid (show ¬ (lastI pre < (x : Int) ∧ metB L (x : Int) L.length = true) from fun h => by rw [hmt] at h; cases h.2)
                    gi_wp2_with fail
                    exact ⟨KeepsOthers.setCell _ _ _, ⟨pre, x, rfl, HN.out⟩⟩
                · have e0 : decide ((x : Int) ≤ lastI pre) = true := by simp; omega
                  have HN := Lib.hid (show ¬ (lastI pre < (x : Int) ∧ metB L (x : Int) L.length = true) from fun h => hgl h.1)
                  gi_wp2_with fail
                  exact ⟨KeepsOthers.setCell _ _ _, ⟨pre, x, rfl, HN.out⟩⟩
          case done =>
            rintro D ys W' hD rfl ⟨⟨b1, b2⟩, hb⟩ hK
            have HD : Hid (BkD w L A cap b5 m b10 D W') := by
              refine ⟨(hb.block _ (by omega)).trans HB.out.s.s, ⟨.bool false, (hb.block _ (by omega)).trans HB.out.s.r⟩, HB.out.s.m.under hb hlt2, by rw [← HOM.out.cnt]; exact b2, hK, HB.out.s.old.trans (hb.mono (by omega)), ⟨by omega, by omega⟩, HB.out.ne⟩
            clear b1 b2 hb hK HB
            have hml := HML.out
            have hfe : n - (L.length : Int) = (f : Int) := by omega
            have hfw : IntKind.i64.wrap (f : Int) = (f : Int) := by rw [IntKind.wrap_i64]; omega
            clear hml
            have qs := HD.out.s.cell
            gi_wp2_with fail
            refine region_wide (S := BkD w L A cap b5 m b10 D) (by kernel_rfl) HD.out.drew (fun hS => ?_)
            refine takeH (i := 0) (d := 112) (v := ?vz0) rfl (by kernel_rfl) (by kernel_rfl) (by kernel_rfl) (fun _ _ _ h => h) rfl (by rfl) ?yz0 hS ?rz0
            case yz0 => (intro wz hz; have q3 := hz.s.cell; have q4 := hz.cnt.cell; obtain ⟨q5, q6, q7⟩ := hz.m.cells3; go_simp <;> with_reducible rfl)
            simp only [List.setIfInBounds_toArray, List.set_cons_zero, List.set_cons_succ]
            refine takeH (i := 1) (d := 113) (v := ?vz1) rfl (by kernel_rfl) (by kernel_rfl) (by kernel_rfl) (fun _ _ _ h => h) rfl (by rfl) ?yz1 hS ?rz1
            case yz1 => (intro wz hz; have q3 := hz.s.cell; have q4 := hz.cnt.cell; obtain ⟨q5, q6, q7⟩ := hz.m.cells3; go_simp <;> with_reducible rfl)
            simp only [List.setIfInBounds_toArray, List.set_cons_zero, List.set_cons_succ]
            refine takeH (i := 2) (d := 114) (v := ?vz2) rfl (by kernel_rfl) (by kernel_rfl) (by kernel_rfl) (fun _ _ _ h => h) rfl (by rfl) ?yz2 hS ?rz2
            case yz2 => (intro wz hz; have q3 := hz.s.cell; have q4 := hz.cnt.cell; obtain ⟨q5, q6, q7⟩ := hz.m.cells3; go_simp <;> with_reducible rfl)
            simp only [List.setIfInBounds_toArray, List.set_cons_zero, List.set_cons_succ]
            refine takeH (i := 3) (d := 115) (v := ?vz3) rfl (by kernel_rfl) (by kernel_rfl) (by kernel_rfl) (fun _ _ _ h => h) rfl (by rfl) ?yz3 hS ?rz3
            case yz3 => (intro wz hz; have q3 := hz.s.cell; have q4 := hz.cnt.cell; obtain ⟨q5, q6, q7⟩ := hz.m.cells3; go_simp <;> with_reducible rfl)
            simp only [List.setIfInBounds_toArray, List.set_cons_zero, List.set_cons_succ]
            refine takeH (i := 4) (d := 116) (v := ?vz4) rfl (by kernel_rfl) (by kernel_rfl) (by kernel_rfl) (fun _ _ _ h => h) rfl (by rfl) ?yz4 hS ?rz4
            case yz4 => (intro wz hz; have q3 := hz.s.cell; have q4 := hz.cnt.cell; obtain ⟨q5, q6, q7⟩ := hz.m.cells3; go_simp <;> with_reducible rfl)
            simp only [List.setIfInBounds_toArray, List.set_cons_zero, List.set_cons_succ]
            refine takeH (i := 5) (d := 117) (v := ?vz5) rfl (by kernel_rfl) (by kernel_rfl) (by kernel_rfl) (fun _ _ _ h => h) rfl (by rfl) ?yz5 hS ?rz5
            case yz5 => (intro wz hz; have q3 := hz.s.cell; have q4 := hz.cnt.cell; obtain ⟨q5, q6, q7⟩ := hz.m.cells3; go_simp <;> with_reducible rfl)
            simp only [List.setIfInBounds_toArray, List.set_cons_zero, List.set_cons_succ]
            refine takeH (i := 7) (d := 119) (v := ?vz7) rfl (by kernel_rfl) (by kernel_rfl) (by kernel_rfl) (fun _ _ _ h => h) rfl (by rfl) ?yz7 hS ?rz7
            case yz7 => (intro wz hz; have q3 := hz.s.cell; have q4 := hz.cnt.cell; obtain ⟨q5, q6, q7⟩ := hz.m.cells3; go_simp <;> with_reducible rfl)
            simp only [List.setIfInBounds_toArray, List.set_cons_zero, List.set_cons_succ]
            refine takeH (i := 8) (d := 120) (v := ?vz8) rfl (by kernel_rfl) (by kernel_rfl) (by kernel_rfl) (fun _ _ _ h => h) rfl (by rfl) ?yz8 hS ?rz8
            case yz8 => (intro wz hz; have q3 := hz.s.cell; have q4 := hz.cnt.cell; obtain ⟨q5, q6, q7⟩ := hz.m.cells3; go_simp <;> with_reducible rfl)
            simp only [List.setIfInBounds_toArray, List.set_cons_zero, List.set_cons_succ]
            refine takeH (i := 9) (d := 121) (v := ?vz9) rfl (by kernel_rfl) (by kernel_rfl) (by kernel_rfl) (fun _ _ _ h => h) rfl (by rfl) ?yz9 hS ?rz9
            case yz9 => (intro wz hz; have q3 := hz.s.cell; have q4 := hz.cnt.cell; obtain ⟨q5, q6, q7⟩ := hz.m.cells3; go_simp <;> with_reducible rfl)
            simp only [List.setIfInBounds_toArray, List.set_cons_zero, List.set_cons_succ]
            refine wpAnyH_ready (rs := [6]) (by kernel_rfl) (by simp) ?_
            refine AllReadyH.cons rfl (fun K hK => ?_) AllReadyH.nil
            go_simp
            refine (free_any m hm120 _).mono ?_
            rw [← HF.out]
            rintro e wq ⟨rfl, hq⟩
            refine hK.out _ _ (hS.below hq) (fun hT => ?_)
            clear hK  hS
            have hS := hT
            clear hT
            refine takeH (i := 10) (d := 122) (v := ?vz10) rfl (by kernel_rfl) (by kernel_rfl) (by kernel_rfl) (fun _ _ _ h => h) rfl (by rfl) ?yz10 hS ?rz10
            case yz10 => (intro wz hz; have q3 := hz.s.cell; have q4 := hz.cnt.cell; obtain ⟨q5, q6, q7⟩ := hz.m.cells3; go_simp <;> with_reducible rfl)
            simp only [List.setIfInBounds_toArray, List.set_cons_zero, List.set_cons_succ]
            refine takeH (i := 11) (d := 123) (v := ?vz11) rfl (by kernel_rfl) (by kernel_rfl) (by kernel_rfl) (fun _ _ _ h => h) rfl (by rfl) ?yz11 hS ?rz11
            case yz11 => (intro wz hz; have q3 := hz.s.cell; have q4 := hz.cnt.cell; obtain ⟨q5, q6, q7⟩ := hz.m.cells3; go_simp <;> with_reducible rfl)
            simp only [List.setIfInBounds_toArray, List.set_cons_zero, List.set_cons_succ]
            refine takeH (i := 12) (d := 124) (v := ?vz12) rfl (by kernel_rfl) (by kernel_rfl) (by kernel_rfl) (fun _ _ _ h => h) rfl (by rfl) ?yz12 hS ?rz12
            case yz12 => (intro wz hz; have q3 := hz.s.cell; have q4 := hz.cnt.cell; obtain ⟨q5, q6, q7⟩ := hz.m.cells3; go_simp <;> with_reducible rfl)
            simp only [List.setIfInBounds_toArray, List.set_cons_zero, List.set_cons_succ]
            refine wpAnyH_ready (rs := [13]) (by kernel_rfl) (by simp) ?_
            refine AllReadyH.cons rfl (fun K hK => ?_) AllReadyH.nil
            go_simp
            refine (works_any _).mono ?_
            rintro e wq2 ⟨rfl, hq⟩
            refine hK.out _ _ (hS.below hq) (fun hT => ?_)
            clear hK  hS
            have hS := hT
            clear hT
            refine takeH (i := 14) (d := 126) (v := ?vz14) rfl (by kernel_rfl) (by kernel_rfl) (by kernel_rfl) (fun _ _ _ h => h) rfl (by rfl) ?yz14 hS ?rz14
            case yz14 => (intro wz hz; have q3 := hz.s.cell; have q4 := hz.cnt.cell; obtain ⟨q5, q6, q7⟩ := hz.m.cells3; go_simp <;> with_reducible rfl)
            simp only [List.setIfInBounds_toArray, List.set_cons_zero, List.set_cons_succ]
            refine wpAnyH_ready (rs := [15]) (by kernel_rfl) (by simp) ?_
            refine AllReadyH.cons rfl (fun K hK => ?_) AllReadyH.nil
            go_simp
            obtain ⟨vr, hvr⟩ := hS.r
            have hcr := hvr.cell
            have hfr2 := hvr.frozen
            go_simp
            have HRT := Lib.hid (hvr.set (.bool true))
            clear hcr hfr2
            refine hK.out _ _ (hS.set (.bool true)) (fun hT => ?_)
            clear hK  hS
            have hS := hT
            clear hT
            refine wpAnyH_done (by kernel_rfl) ?_ _
            refine only_done ?_
            obtain ⟨vr, hvr⟩ := hS.r
            have hK' := hS.d
            have hc4 := HRT.out.cell
            gi_wp2_with fail
            refine ⟨by simp, .inl ⟨_, _, rfl, run_takeDeferred hK', ?_⟩⟩
            have hc5 := cell_kept hc4 (grownBy_putObj' _ D (.deferred none)) (fun r e => by cases e; exact ⟨_, hK', rfl⟩)
            refine ⟨.bool true, ?_, rfl, hS.old.trans (belowK_b (w := w) (Nat.le_refl _) _ D _ _ (by omega) hK' rfl rfl)⟩
            simp [results, Try.f4, go_sem, hc5]
end Go.Proofs.Ytfmjnjhocpoafaa
