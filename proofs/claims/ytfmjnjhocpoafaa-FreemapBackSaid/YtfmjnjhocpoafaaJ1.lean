/-
  The walk of the law FreemapBack where it reckons which lists are a map's.
  Conditions: the slice reads as a list of numbers.
-/
import Derived.Test.YtfmjnjhocpoafaaJ0
namespace Go.Proofs.Ytfmjnjhocpoafaa
open Go.RowKit Go.Shelf
attribute [local go_sem] Oper.semAt_some

set_option maxHeartbeats 800000 in
theorem back_big (n : Int) (A : Option Addr) (len cap : Nat) (w : World) (h : 150 < len ∨ 200 < n) :
    Calls Try.prog 4 #[.int .i64 n, .slice A len cap] w fun e w' => e = .returned (.bool true) ∧ Below w.heap.size w w' := by
  by_cases h0 : 150 < len
  · have d0 : decide (150 < len) = true := by simpa using h0
    have d1 : decide ((150 : Int) < (len : Int)) = true := by simp; omega
    clear h
    go_enter Try.func4, Try.ntmps4
    go_wp2_with fail
    refine (works_any _).mono ?_
    rintro e w1 ⟨rfl, hb⟩
    have R := Lib.hid (show Boxed w1 (w.heap.size + 1) 4 (.bool false) by
      have := Boxed.call (Boxed.new (w.alloc (.cells #[.slice A len cap] 38)) 4 (.bool false)) hb
      rwa [World.size_alloc] at this)
    have B := Lib.hid (chain (((Below.refl _ w).alloc (Nat.le_refl _) _).alloc (by simp) _) hb (Nat.le_refl _))
    have qr := R.out.cell
    have qf := R.out.frozen
    clear hb
    go_wp2_with fail
    exact bodyPost_ret (v := .bool true) (by simp [results, Try.results4, go_sem, (R.out.set (.bool true)).cell]) rfl ⟨rfl, B.out.setCell (p := ⟨w.heap.size + 1, 0, none⟩) (by simp) _⟩
  · have d0 : decide (150 < len) = false := by simpa using h0
    have d1 : decide ((150 : Int) < (len : Int)) = false := by simp; omega
    have h1 : 200 < n := by omega
    have d2 : decide (200 < n) = true := by simpa using h1
    clear h
    go_enter Try.func4, Try.ntmps4
    go_wp2_with fail
    refine (works_any _).mono ?_
    rintro e w1 ⟨rfl, hb⟩
    have R := Lib.hid (show Boxed w1 (w.heap.size + 1) 4 (.bool false) by
      have := Boxed.call (Boxed.new (w.alloc (.cells #[.slice A len cap] 38)) 4 (.bool false)) hb
      rwa [World.size_alloc] at this)
    have B := Lib.hid (chain (((Below.refl _ w).alloc (Nat.le_refl _) _).alloc (by simp) _) hb (Nat.le_refl _))
    have qr := R.out.cell
    have qf := R.out.frozen
    clear hb
    go_wp2_with fail
    exact bodyPost_ret (v := .bool true) (by simp [results, Try.results4, go_sem, (R.out.set (.bool true)).cell]) rfl ⟨rfl, B.out.setCell (p := ⟨w.heap.size + 1, 0, none⟩) (by simp) _⟩

/-- The slice, the result and the map in their boxes. -/
structure BkS (w : World) (L : List Int) (A : Option Addr) (cap b5 : Nat) (M : List Value) (W : World) : Prop where
  s : Boxed W w.heap.size 38 (.slice A L.length cap)
  r : Boxed W (w.heap.size + 1) 4 (.bool false)
  m : Row W b5 27 M
  old : Below w.heap.size w W
section
variable {w : World} {L : List Int} {A : Option Addr} {cap b5 : Nat} {M : List Value} {W W' : World}
theorem BkS.below (h : BkS w L A cap b5 M W) (hb : Below W.heap.size W W') : BkS w L A cap b5 M W' := ⟨Boxed.call h.s hb, Boxed.call h.r hb, h.m.below hb, chain h.old hb (Nat.le_refl _)⟩
theorem BkS.drew (h : BkS w L A cap b5 M W) : BkS w L A cap b5 M W.drew := h.below ((Below.refl _ _).drew)
theorem BkS.alloc (h : BkS w L A cap b5 M W) (o : Obj) : BkS w L A cap b5 M (W.alloc o) := h.below ((Below.refl _ _).alloc (Nat.le_refl _) o)
theorem BkS.start (w : World) (L : List Int) (A : Option Addr) (cap : Nat) (M : List Value) {w1 : World} (hb : Below ((w.alloc (.cells #[.slice A L.length cap] 38)).alloc (.cells #[.bool false] 4)).heap.size ((w.alloc (.cells #[.slice A L.length cap] 38)).alloc (.cells #[.bool false] 4)) w1) :
    BkS w L A cap w1.heap.size M (w1.alloc (.cells M.toArray 27)) := by
  refine ⟨(Boxed.call ((Boxed.new w 38 (.slice A L.length cap)).alloc _) hb).alloc _, Boxed.alloc (Boxed.call ?_ hb) _, Row.new w1 27 M, below_ca (((Below.refl _ w).alloc (Nat.le_refl _) _).alloc (by simp) _) hb _⟩
  have := Boxed.new (w.alloc (.cells #[.slice A L.length cap] 38)) 4 (.bool false)
  rwa [World.size_alloc] at this
end
def BkR (w : World) (L : List Int) (A : Option Addr) (cap b5 : Nat) (M : List Value) (n : Int) (v i : Value) (W : World) : Prop :=
  ∃ k : Nat, k ≤ L.length ∧ v = .bool (okB n L k) ∧ i = .int .i64 (k : Int) ∧ Hid (BkS w L A cap b5 M W)
def BkJ (w : World) (L : List Int) (A : Option Addr) (cap b5 : Nat) (M : List Value) (n : Int) (k : Nat) (v j : Value) (W : World) : Prop :=
  ∃ q : Nat, q ≤ k ∧ v = .bool (okI n L k q) ∧ j = .int .i64 (q : Int) ∧ Hid (BkS w L A cap b5 M W)

set_option maxRecDepth 100000 in
set_option maxHeartbeats 4000000 in
theorem back_none (n : Int) (L : List Int) (A : Option Addr) (cap : Nat) (w : World) (hL : Lies w w.heap.size 1 A L.length (IL L)) (hlen : L.length ≤ 150) (hn : n ≤ 200) (hr : ofR n L = none) (hok : okB n L L.length = false) :
    Calls Try.prog 4 #[.int .i64 n, .slice A L.length cap] w fun e w' => e = .returned (.bool true) ∧ Below w.heap.size w w' := by
  have d0 : decide (150 < L.length) = false := by simp; omega
  have d1 : decide ((150 : Int) < (L.length : Int)) = false := by simp; omega
  have d2 : decide (200 < n) = false := by simp; omega
  have HL := Lib.hid hL
  have HR := Lib.hid hr
  have OKL := Lib.hid hok
  obtain ⟨M, hM⟩ : ∃ M : List Value, M = [.int .i64 0, .int .u64 0, .int .u64 0] := ⟨_, rfl⟩
  have HM := Lib.hid hM
  clear hL hr hok hM
  refine (callsIn_wide (n := 3)).1 ?_
  refine callsIn_of_wp_marks Try.func4 rfl trivial ?_ rfl
  simp only [Try.ntmps4, List.size_toArray, List.length_cons, List.length_nil, Nat.reduceAdd, Nat.reduceSub, Array.replicate_succ, Array.replicate_zero, List.push_toArray, List.append_toArray, List.nil_append, List.cons_append]
  gi_wp2_with fail
  have hB0 : Below w.heap.size w ((w.alloc (.cells #[.slice A L.length cap] 38)).alloc (.cells #[.bool false] 4)) := ((Below.refl _ w).alloc (Nat.le_refl _) _).alloc (by simp) _
  refine wcall2 ((of_is HR.out A cap _ ((HL.out.under hB0).up hB0.size) (by unfold maxLen; omega)).mono ?_)
  rintro e w1 ⟨hh, hb⟩
  obtain rfl : e = .returned (.tuple #[.agg #[.int .i64 0, .int .u64 0, .int .u64 0], .bool false]) := by
    rcases hh with ⟨m, h1, h2⟩ | ⟨h1, h2⟩
    · cases h1
    · exact h2
  have HS := Lib.hid (BkS.start w L A cap M hb)
  rw [show M.toArray = #[.int .i64 0, .int .u64 0, .int .u64 0] from by rw [HM.out]] at HS
  clear hh hb hB0
  gi_upto_region 4 with fail
  generalize w1.alloc (.cells #[.int .i64 0, .int .u64 0, .int .u64 0] 27) = W at HS ⊢
  generalize w1.heap.size = b5 at HS ⊢
  have OK0 := Lib.hid (show okB n L 0 = (decide (1 ≤ n) && decide (n ≤ 120)) from rfl)
  gi_cut [7] from 16 (fun s7 wx => s7 = .bool (okB n L 0) ∧ Hid (BkS w L A cap b5 M wx))
  case first =>
    by_cases h1 : 1 ≤ n
    · have e0 : decide (1 ≤ n) = true := by simpa using h1
      by_cases h2 : n ≤ 120
      · have e1 : decide (n ≤ 120) = true := by simpa using h2
        gi_wp2_with fail
        gi_meet
        exact ⟨by rw [OK0.out, e0, e1]; rfl, HS⟩
      · have e1 : decide (n ≤ 120) = false := by simpa using h2
        gi_wp2_with fail
        gi_meet
        exact ⟨by rw [OK0.out, e0, e1]; rfl, HS⟩
    · have e0 : decide (1 ≤ n) = false := by simpa using h1
      gi_wp2_with fail
      gi_meet
      exact ⟨by rw [OK0.out, e0]; rfl, HS⟩
  case rest =>
    obtain ⟨rfl, HS'⟩ := hcut
    clear HS OK0
    have HS := HS'
    clear HS'
    gi_wp2_with fail
    gi_loopw [7, 8] (fun v i wr => BkR w L A cap b5 M n v i wr) (fun _ i _ => L.length - (intOf i).toNat)
    case atStart => exact ⟨0, Nat.zero_le _, rfl, rfl, HS⟩
    case round =>
      clear HS
      obtain ⟨k, hk, rfl, rfl, HS⟩ := hrel
      have qs := HS.out.s.cell
      by_cases hlt : k < L.length
      · obtain ⟨a, u, rfl, hab, hu, hcu⟩ := HL.out.get hlt
        rw [IL_get L k hlt] at hu
        cases hu
        have HCA := Lib.hid (show ∀ z : World, Below w.heap.size w z → z.cell? (a.add k) = some (.int .i64 L[k]) from fun z hz => (hz.cell (by rw [add_block]; exact hab)).trans hcu)
        have HK := Lib.hid (getD_of hlt)
        have HOI := Lib.hid (okI_zero n L k)
        rw [HK.out] at HOI
        generalize L[k] = x at HCA HK HOI
        clear hcu
        gi_upto_region 8 with fail
        gi_cut [7] from 200 (fun s7 wx => s7 = .bool (okI n L k 0) ∧ Hid (BkS w L (some a) cap b5 M wx))
        case first =>
          have qx := HCA.out wr HS.out.old
          cases hb : okB n L k with
          | false =>
            rw [hb] at HOI
            gi_wp2_with fail
            gi_meet
            exact ⟨by rw [HOI.out]; rfl, HS⟩
          | true =>
            rw [hb] at HOI
            by_cases hx0 : 0 ≤ x
            · have e0 : decide (0 ≤ x) = true := by simpa using hx0
              by_cases hxn : x < n
              · have e1 : decide (x < n) = true := by simpa using hxn
                gi_wp2_with fail
                gi_meet
                exact ⟨by rw [HOI.out, e0, e1]; rfl, HS⟩
              · have e1 : decide (x < n) = false := by simpa using hxn
                gi_wp2_with fail
                gi_meet
                exact ⟨by rw [HOI.out, e0, e1]; rfl, HS⟩
            · have e0 : decide (0 ≤ x) = false := by simpa using hx0
              gi_wp2_with fail
              gi_meet
              exact ⟨by rw [HOI.out, e0]; rfl, HS⟩
        case rest =>
          obtain ⟨rfl, HS'⟩ := hcut
          clear HS qs
          have HS := HS'
          clear HS' HOI
          gi_wp2_with fail
          gi_loopw [7, 9] (fun v j wr => BkJ w L (some a) cap b5 M n k v j wr) (fun _ j _ => k - (intOf j).toNat)
          case atStart => exact ⟨0, Nat.zero_le _, rfl, rfl, HS⟩
          case round =>
            clear HS
            obtain ⟨j, hj, rfl, rfl, HS⟩ := hrel
            by_cases hjk : j < k
            · obtain ⟨a', u, ha', _, hu, hcu⟩ := HL.out.get (show j < L.length by omega)
              cases ha'
              rw [IL_get L j (by omega)] at hu
              cases hu
              have HCB := Lib.hid (show ∀ z : World, Below w.heap.size w z → z.cell? (a.add j) = some (.int .i64 L[j]) from fun z hz => (hz.cell (by rw [add_block]; exact hab)).trans hcu)
              have HOS := Lib.hid (okI_succ n L k j)
              rw [HK.out, getD_of (show j < L.length by omega)] at HOS
              generalize L[j] = y at HCB HOS
              clear hcu
              have hjL : j < L.length := by omega
              gi_upto_region 12 with fail
              cases hb : okI n L k j with
              | false =>
                rw [hb] at HOS
                refine region_wide (S := BkS w L (some a) cap b5 M) (by kernel_rfl) HS.out.drew (fun hS => ?_)
                refine takeH (i := 0) (d := 63) (v := ?vpn0) rfl (by kernel_rfl) (by kernel_rfl) (by kernel_rfl) (fun _ _ _ h => h) rfl (by rfl) ?ypn0 hS ?rpn0
                case ypn0 => (intro wz hz; go_simp <;> with_reducible rfl)
                simp only [List.setIfInBounds_toArray, List.set_cons_zero, List.set_cons_succ]
                refine takeH (i := 1) (d := 64) (v := ?vpn1) rfl (by kernel_rfl) (by kernel_rfl) (by kernel_rfl) (fun _ _ _ h => h) rfl (by rfl) ?ypn1 hS ?rpn1
                case ypn1 => (intro wz hz; go_simp <;> with_reducible rfl)
                simp only [List.setIfInBounds_toArray, List.set_cons_zero, List.set_cons_succ]
                refine skipH (i := 2) (d := 65) rfl (by kernel_rfl) (by kernel_rfl) (by kernel_rfl) (fun _ _ _ h => h) rfl (by rfl) hS ?_
                simp only [List.setIfInBounds_toArray, List.set_cons_zero, List.set_cons_succ]
                refine skipH (i := 3) (d := 66) rfl (by kernel_rfl) (by kernel_rfl) (by kernel_rfl) (fun _ _ _ h => h) rfl (by rfl) hS ?_
                simp only [List.setIfInBounds_toArray, List.set_cons_zero, List.set_cons_succ]
                refine skipH (i := 4) (d := 67) rfl (by kernel_rfl) (by kernel_rfl) (by kernel_rfl) (fun _ _ _ h => h) rfl (by rfl) hS ?_
                simp only [List.setIfInBounds_toArray, List.set_cons_zero, List.set_cons_succ]
                refine skipH (i := 5) (d := 68) rfl (by kernel_rfl) (by kernel_rfl) (by kernel_rfl) (fun _ _ _ h => h) rfl (by rfl) hS ?_
                simp only [List.setIfInBounds_toArray, List.set_cons_zero, List.set_cons_succ]
                refine skipH (i := 6) (d := 69) rfl (by kernel_rfl) (by kernel_rfl) (by kernel_rfl) (fun _ _ _ h => h) rfl (by rfl) hS ?_
                simp only [List.setIfInBounds_toArray, List.set_cons_zero, List.set_cons_succ]
                refine skipH (i := 7) (d := 70) rfl (by kernel_rfl) (by kernel_rfl) (by kernel_rfl) (fun _ _ _ h => h) rfl (by rfl) hS ?_
                simp only [List.setIfInBounds_toArray, List.set_cons_zero, List.set_cons_succ]
                refine skipH (i := 8) (d := 71) rfl (by kernel_rfl) (by kernel_rfl) (by kernel_rfl) (fun _ _ _ h => h) rfl (by rfl) hS ?_
                simp only [List.setIfInBounds_toArray, List.set_cons_zero, List.set_cons_succ]
                refine skipH (i := 9) (d := 72) rfl (by kernel_rfl) (by kernel_rfl) (by kernel_rfl) (fun _ _ _ h => h) rfl (by rfl) hS ?_
                simp only [List.setIfInBounds_toArray, List.set_cons_zero, List.set_cons_succ]
                refine skipH (i := 10) (d := 73) rfl (by kernel_rfl) (by kernel_rfl) (by kernel_rfl) (fun _ _ _ h => h) rfl (by rfl) hS ?_
                simp only [List.setIfInBounds_toArray, List.set_cons_zero, List.set_cons_succ]
                refine takeH (i := 11) (d := 74) (v := ?vpn11) rfl (by kernel_rfl) (by kernel_rfl) (by kernel_rfl) (fun _ _ _ h => h) rfl (by rfl) ?ypn11 hS ?rpn11
                case ypn11 => (intro wz hz; go_simp <;> with_reducible rfl)
                simp only [List.setIfInBounds_toArray, List.set_cons_zero, List.set_cons_succ]
                refine takeH (i := 12) (d := 7) (v := ?vpn12) rfl (by kernel_rfl) (by kernel_rfl) (by kernel_rfl) (fun _ _ _ h => h) rfl (by rfl) ?ypn12 hS ?rpn12
                case ypn12 => (intro wz hz; go_simp <;> with_reducible rfl)
                simp only [List.setIfInBounds_toArray, List.set_cons_zero, List.set_cons_succ]
                refine wpAnyH_done (by kernel_rfl) ?_ _
                refine only_done ?_
                have HS' := Lib.hid hS
                clear hS HS
                gi_wp2_with fail
                go_roundw
                case rel => exact ⟨j + 1, by omega, by rw [HOS.out]; rfl, by go_num, HS'⟩
                case measure => simp [intOf]; omega
              | true =>
                rw [hb] at HOS
                refine region_wide (S := BkS w L (some a) cap b5 M) (by kernel_rfl) HS.out.drew (fun hS => ?_)
                refine takeH (i := 0) (d := 63) (v := ?vpy0) rfl (by kernel_rfl) (by kernel_rfl) (by kernel_rfl) (fun _ _ _ h => h) rfl (by rfl) ?ypy0 hS ?rpy0
                case ypy0 => (intro wz hz; have q3 := hz.s.cell; have q4 := HCA.out wz hz.old; have q5 := HCB.out wz hz.old; go_simp <;> with_reducible rfl)
                simp only [List.setIfInBounds_toArray, List.set_cons_zero, List.set_cons_succ]
                refine takeH (i := 1) (d := 64) (v := ?vpy1) rfl (by kernel_rfl) (by kernel_rfl) (by kernel_rfl) (fun _ _ _ h => h) rfl (by rfl) ?ypy1 hS ?rpy1
                case ypy1 => (intro wz hz; have q3 := hz.s.cell; have q4 := HCA.out wz hz.old; have q5 := HCB.out wz hz.old; go_simp <;> with_reducible rfl)
                simp only [List.setIfInBounds_toArray, List.set_cons_zero, List.set_cons_succ]
                refine takeH (i := 2) (d := 65) (v := ?vpy2) rfl (by kernel_rfl) (by kernel_rfl) (by kernel_rfl) (fun _ _ _ h => h) rfl (by rfl) ?ypy2 hS ?rpy2
                case ypy2 => (intro wz hz; have q3 := hz.s.cell; have q4 := HCA.out wz hz.old; have q5 := HCB.out wz hz.old; go_simp <;> with_reducible rfl)
                simp only [List.setIfInBounds_toArray, List.set_cons_zero, List.set_cons_succ]
                refine takeH (i := 3) (d := 66) (v := ?vpy3) rfl (by kernel_rfl) (by kernel_rfl) (by kernel_rfl) (fun _ _ _ h => h) rfl (by rfl) ?ypy3 hS ?rpy3
                case ypy3 => (intro wz hz; have q3 := hz.s.cell; have q4 := HCA.out wz hz.old; have q5 := HCB.out wz hz.old; go_simp <;> with_reducible rfl)
                simp only [List.setIfInBounds_toArray, List.set_cons_zero, List.set_cons_succ]
                refine takeH (i := 4) (d := 67) (v := ?vpy4) rfl (by kernel_rfl) (by kernel_rfl) (by kernel_rfl) (fun _ _ _ h => h) rfl (by rfl) ?ypy4 hS ?rpy4
                case ypy4 => (intro wz hz; have q3 := hz.s.cell; have q4 := HCA.out wz hz.old; have q5 := HCB.out wz hz.old; go_simp <;> with_reducible rfl)
                simp only [List.setIfInBounds_toArray, List.set_cons_zero, List.set_cons_succ]
                refine takeH (i := 5) (d := 68) (v := ?vpy5) rfl (by kernel_rfl) (by kernel_rfl) (by kernel_rfl) (fun _ _ _ h => h) rfl (by rfl) ?ypy5 hS ?rpy5
                case ypy5 => (intro wz hz; have q3 := hz.s.cell; have q4 := HCA.out wz hz.old; have q5 := HCB.out wz hz.old; go_simp <;> with_reducible rfl)
                simp only [List.setIfInBounds_toArray, List.set_cons_zero, List.set_cons_succ]
                refine takeH (i := 6) (d := 69) (v := ?vpy6) rfl (by kernel_rfl) (by kernel_rfl) (by kernel_rfl) (fun _ _ _ h => h) rfl (by rfl) ?ypy6 hS ?rpy6
                case ypy6 => (intro wz hz; have q3 := hz.s.cell; have q4 := HCA.out wz hz.old; have q5 := HCB.out wz hz.old; go_simp <;> with_reducible rfl)
                simp only [List.setIfInBounds_toArray, List.set_cons_zero, List.set_cons_succ]
                refine takeH (i := 7) (d := 70) (v := ?vpy7) rfl (by kernel_rfl) (by kernel_rfl) (by kernel_rfl) (fun _ _ _ h => h) rfl (by rfl) ?ypy7 hS ?rpy7
                case ypy7 => (intro wz hz; have q3 := hz.s.cell; have q4 := HCA.out wz hz.old; have q5 := HCB.out wz hz.old; go_simp <;> with_reducible rfl)
                simp only [List.setIfInBounds_toArray, List.set_cons_zero, List.set_cons_succ]
                refine takeH (i := 8) (d := 71) (v := ?vpy8) rfl (by kernel_rfl) (by kernel_rfl) (by kernel_rfl) (fun _ _ _ h => h) rfl (by rfl) ?ypy8 hS ?rpy8
                case ypy8 => (intro wz hz; have q3 := hz.s.cell; have q4 := HCA.out wz hz.old; have q5 := HCB.out wz hz.old; go_simp <;> with_reducible rfl)
                simp only [List.setIfInBounds_toArray, List.set_cons_zero, List.set_cons_succ]
                refine takeH (i := 9) (d := 72) (v := ?vpy9) rfl (by kernel_rfl) (by kernel_rfl) (by kernel_rfl) (fun _ _ _ h => h) rfl (by rfl) ?ypy9 hS ?rpy9
                case ypy9 => (intro wz hz; have q3 := hz.s.cell; have q4 := HCA.out wz hz.old; have q5 := HCB.out wz hz.old; go_simp <;> with_reducible rfl)
                simp only [List.setIfInBounds_toArray, List.set_cons_zero, List.set_cons_succ]
                refine takeH (i := 10) (d := 73) (v := ?vpy10) rfl (by kernel_rfl) (by kernel_rfl) (by kernel_rfl) (fun _ _ _ h => h) rfl (by rfl) ?ypy10 hS ?rpy10
                case ypy10 => (intro wz hz; have q3 := hz.s.cell; have q4 := HCA.out wz hz.old; have q5 := HCB.out wz hz.old; go_simp <;> with_reducible rfl)
                simp only [List.setIfInBounds_toArray, List.set_cons_zero, List.set_cons_succ]
                refine takeH (i := 11) (d := 74) (v := ?vpy11) rfl (by kernel_rfl) (by kernel_rfl) (by kernel_rfl) (fun _ _ _ h => h) rfl (by rfl) ?ypy11 hS ?rpy11
                case ypy11 => (intro wz hz; have q3 := hz.s.cell; have q4 := HCA.out wz hz.old; have q5 := HCB.out wz hz.old; go_simp <;> with_reducible rfl)
                simp only [List.setIfInBounds_toArray, List.set_cons_zero, List.set_cons_succ]
                refine takeH (i := 12) (d := 7) (v := ?vpy12) rfl (by kernel_rfl) (by kernel_rfl) (by kernel_rfl) (fun _ _ _ h => h) rfl (by rfl) ?ypy12 hS ?rpy12
                case ypy12 => (intro wz hz; have q3 := hz.s.cell; have q4 := HCA.out wz hz.old; have q5 := HCB.out wz hz.old; go_simp <;> with_reducible rfl)
                simp only [List.setIfInBounds_toArray, List.set_cons_zero, List.set_cons_succ]
                refine wpAnyH_done (by kernel_rfl) ?_ _
                refine only_done ?_
                have HS' := Lib.hid hS
                clear hS HS
                gi_wp2_with fail
                go_roundw
                case rel => exact ⟨j + 1, by omega, by rw [HOS.out]; rfl, by go_num, HS'⟩
                case measure => simp [intOf]; omega
            · obtain rfl : j = k := by omega
              gi_wp2_with fail
              go_roundw
              case rel => exact ⟨j + 1, by omega, by rw [okI_all], by go_num, HS⟩
              case measure => simp [intOf]; omega
      · obtain rfl : k = L.length := by omega
        rw [OKL.out]
        gi_wp2_with fail
        refine wcall2 ((works_any _).mono ?_)
        rintro e w5 ⟨rfl, hb⟩
        have HS' := Lib.hid (HS.out.below hb)
        clear HS hb qs
        have qr := HS'.out.r.cell
        have qf := HS'.out.r.frozen
        gi_wp2_with fail
        refine ⟨.bool true, ?_, rfl, HS'.out.old.setCell (p := ⟨w.heap.size + 1, 0, none⟩) (by simp) _⟩
        have hc5 := (HS'.out.r.set (.bool true)).cell
        simp [results, Try.f4, go_sem, hc5]
end Go.Proofs.Ytfmjnjhocpoafaa
