/-
  small, light.
  Conditions: none beyond those that each theorem names.
-/
import Derived.Test.YtpffnjnncgmgnaaB21
namespace Go.Proofs.Ytpffnjnncgmgnaa
open Go.RowKit
attribute [local go_sem] Oper.semAt_some
set_option maxRecDepth 20000

def smallK (k : Nat) : List Int := (List.range k).map fun i : Nat => 10 + 3 * (i : Int)
/-- The pages that small makes. -/
def smallP (n : Nat) : List Int := smallK (n % 4 + 1)
theorem smallK_succ (k : Nat) : smallK (k + 1) = smallK k ++ [10 + 3 * (k : Int)] := by simp [smallK, List.range_succ]
theorem smallP_length (n : Nat) : (smallP n).length = n % 4 + 1 := by simp [smallP, smallK]
theorem int_zero : (Try.prog.info? 3).map (fun i => (i.zero, i.size)) = some (some (.int .i64 0), 1) := by kernel_rfl
/-- A literal of one number. -/
theorem wpList_lit1i {ops : Array Oper} {rest : List Oper} {o : Oper} {a : Act} {w : World} {Q : Exit → Act → World → Prop} (d : Nat) (hgd : o.guard = none) (x : Operand) (hop : o.dst = some d) (ho : o.op = .buildSlice 26 1 #[(0, x)]) (X : Int) (hx : a.eval x = .int .i64 X)
    (h : wpList Try.prog ops Q rest (a.put (some d) (.slice (some ⟨w.heap.size, 0, none⟩) 1 1)) (w.alloc (.cells #[.int .i64 X] 3))) : wpList Try.prog ops Q (o :: rest) a w := by
  refine wpList_plain hgd fun K hK => ?_
  have hrun : (Instr.buildSlice 26 1 #[(0, .int .i64 X)]).run Try.prog w = .ok (.slice (some ⟨w.heap.size, 0, none⟩) 1 1) (w.alloc (.cells #[.int .i64 X] 3)) := by go_simp
  unfold Oper.wp
  simp [execOp, ho, hx, hrun, Result.andThen]
  simp only [Oper.upon]
  rw [hop]
  exact hK _ _ h
def SmS13 (w : World) (k : Nat) (v : Value) (wr : World) : Prop := wr.ownsRow w.heap.size 3 1 v k (ICs (smallK k)) ∧ Below w.heap.size w wr
set_option maxHeartbeats 1600000 in
theorem small_any (n : Nat) (w : World) (hn : n < 256) : Calls Try.prog 10 #[.int .u8 (n : Int)] w (RetIs w (smallP n)) := by
  obtain ⟨i0, hi0, hz0, hz1, hz2⟩ := int_info
  obtain ⟨q, hq⟩ : ∃ q, n % 4 = q := ⟨_, rfl⟩
  have HP : Hid (smallP n = smallK (q + 1)) := by show _ = _; unfold smallP; rw [hq]
  have hwn : IntKind.i64.wrap (n : Int) = (n : Int) := by rw [IntKind.wrap_i64]; omega
  have hq1 : Int.tmod (n : Int) 4 = (q : Int) := by rw [Int.tmod_eq_emod_of_nonneg (by omega)]; omega
  have hq2 : (n : Int) % 4 = (q : Int) := by omega
  have hq4 : q < 4 := by omega
  clear hq
  go_enter Try.func10, Try.ntmps10
  go_wp2_with fail
  go_loopw [3, 4] (fun v vi wr => ∃ k : Nat, k ≤ q + 1 ∧ vi = .int .i64 (k : Int) ∧ Hid (SmS13 w k v wr)) (fun _ i _ => q + 1 - (intOf i).toNat)
  case atStart => exact ⟨0, Nat.zero_le _, by go_num, Lib.hid ⟨World.ownsRow_nil _ _ _ _, Below.refl _ _⟩⟩
  case round =>
    obtain ⟨k, hk, rfl, HS⟩ := hrel
    by_cases hlt : k ≤ q
    · have w1 : IntKind.i64.wrap (3 * (k : Int)) = 3 * (k : Int) := by rw [IntKind.wrap_i64]; omega
      have w2 : IntKind.i64.wrap (10 + 3 * (k : Int)) = 10 + 3 * (k : Int) := by rw [IntKind.wrap_i64]; omega
      have w3 : wrap64 (3 * (k : Int)) = 3 * (k : Int) := by unfold wrap64; omega
      have w4 : wrap64 (10 + 3 * (k : Int)) = 10 + 3 * (k : Int) := by unfold wrap64; omega
      go_wp2_with (first
        | (refine wpList_lit1i 16 rfl (.tmp 15) rfl rfl (10 + 3 * (k : Int)) rfl ?_; have HK := Lib.hid ((Below.refl wr.heap.size wr).alloc (Nat.le_refl _) (.cells #[.int .i64 (10 + 3 * (k : Int))] 3)))
        | (at_builtin; refine pl_wpList_app _ rfl (.tmp 12) (.tmp 16) _ rfl w.heap.size 3 i0 _ 1 8 Try.underlying26 hi0 hz0 hz1 hz2 rfl (by omega) _ k _ rfl (own_under HS.out.1 HK.out (Nat.le_refl _)) _ 1 1 (ICs [10 + 3 * (k : Int)]) rfl rfl (fun j u hu => by rw [add_plain, Nat.zero_add]; have := (At.new wr 3 #[.int .i64 (10 + 3 * (k : Int))]).cell j; rw [this]; simpa [ICs] using hu) (ICs_cell _) (by simp only [maxLen]; omega) (by omega) (Nat.le_trans HS.out.2.size HK.out.size) ?_; intro v2 w9 ho9 hg9; have HN : Hid (SmS13 w (k + 1) v2 w9) := ⟨by rw [smallK_succ, ICs_append]; exact ho9, (HS.out.2.trans (HK.out.mono HS.out.2.size)).grown hg9 (Nat.le_trans HS.out.2.size HK.out.size) (fun j hj => (HS.out.1.lt j hj).1)⟩; clear ho9 hg9))
      go_round
      case rel => exact ⟨k + 1, by omega, by go_num, HN⟩
      case measure => simp [intOf]; omega
    · obtain rfl : k = q + 1 := by omega
      go_wp2_with fail
      go_ret
      rw [HP.out]
      exact RetIs.mk HS.out.1 HS.out.2
/-! ### Acts -/
structure Op13 where
  kind : Int
  r : Rc
def opL (o : Op13) : List Value := .int .i64 o.kind :: rcL o.r
theorem opL_length (o : Op13) : (opL o).length = 7 := rfl
def opsL (l : List Op13) : List Value := l.flatMap opL
theorem opsL_length : ∀ l : List Op13, (opsL l).length = l.length * 7
  | [] => rfl
  | a :: l => by
    show (opL a ++ opsL l).length = _
    rw [List.length_append, opsL_length l, opL_length]
    simp
    omega
theorem opsL_get : ∀ (l : List Op13) (k : Nat) (h : k < l.length) (j : Nat) (u : Value), (opL l[k])[j]? = some u → (opsL l)[k * 7 + j]? = some u
  | a :: l, 0, _, j, u, hu => by
    show (opL a ++ opsL l)[0 * 7 + j]? = _
    rw [Nat.zero_mul, Nat.zero_add]
    have hj : j < (opL a).length := (List.getElem?_eq_some_iff.1 hu).1
    rw [List.getElem?_append_left hj]
    exact hu
  | a :: l, k + 1, h, j, u, hu => by
    show (opL a ++ opsL l)[(k + 1) * 7 + j]? = _
    rw [List.getElem?_append_right (by rw [opL_length]; omega), opL_length]
    have := opsL_get l k (by simpa using h) j u hu
    rwa [show (k + 1) * 7 + j - 7 = k * 7 + j by omega]
theorem Lz.op13 {X : Nat → Prop} {w : World} {A : Option Addr} {n k : Nat} {l : List Op13} (h : Lz X w 7 A n (opsL l)) (hk : k < n) : ∃ b o, ∃ hl : k < l.length, A = some ⟨b, o, none⟩ ∧ b < w.heap.size ∧ w.cell? ⟨b, o + k * 7, none⟩ = some (.int .i64 l[k].kind) ∧ w.rangeAt b (o + k * 7 + 1) (rcL l[k].r) := by
  have hl : k < l.length := by have := h.len; rw [opsL_length] at this; omega
  obtain ⟨b, o, h1, _, h3, h4⟩ := h.spot (by omega)
  refine ⟨b, o, hl, h1, h3, ?_, fun j u hu => ?_⟩
  · have := h4 (k * 7 + 0) _ (opsL_get l k hl 0 _ rfl)
    exact this
  · rw [show o + k * 7 + 1 + j = o + (k * 7 + (j + 1)) by omega]
    exact h4 _ u (opsL_get l k hl (j + 1) u hu)
theorem Lz.oplen {X : Nat → Prop} {w : World} {A : Option Addr} {n : Nat} {l : List Op13} (h : Lz X w 7 A n (opsL l)) : l.length = n := by
  have := h.len
  rw [opsL_length] at this
  omega
def lightB (l : List Op13) : Bool := decide (l.length ≤ 60) && l.all fun o => decide (o.r.val.length ≤ 100)
set_option maxHeartbeats 1600000 in
theorem light_any (A : Option Addr) (n c : Nat) (l : List Op13) (w : World) (h : Lz NoX w 7 A n (opsL l)) : Calls Try.prog 7 #[.slice A n c] w (fun e z => e = .returned (.bool (lightB l)) ∧ z = w) := by
  have HLN := Lib.hid h.oplen
  have HL := Lib.hid h
  clear h
  by_cases hn : n ≤ 60
  · have HE0 : Hid (lightB l = l.all fun o => decide (o.r.val.length ≤ 100)) := by show _ = _; unfold lightB; rw [HLN.out, decide_eq_true hn]; rfl
    go_enter Try.func7, Try.ntmps7
    go_wp2_with fail
    go_loop [3] (fun vi => ∃ k : Nat, k ≤ n ∧ vi = .int .i64 (k : Int) ∧ Hid (∀ (j : Nat) (hj : j < l.length), j < k → l[j].r.val.length ≤ 100)) (fun i => n - (intOf i).toNat)
    case atStart => exact ⟨0, Nat.zero_le _, by go_num, Lib.hid (fun _ _ h => absurd h (Nat.not_lt_zero _))⟩
    case round =>
      obtain ⟨k, hk, rfl, HN⟩ := hrel
      by_cases hlt : k < n
      · obtain ⟨g, o, hl, rfl, hb, hc0, hc⟩ := HL.out.op13 hlt
        obtain ⟨sv, hsv⟩ : ∃ sv, strOf l[k].r.val = sv := ⟨_, rfl⟩
        obtain ⟨m, hm⟩ : ∃ m, l[k].r.val.length = m := ⟨_, rfl⟩
        have hsz : sv.size = m := by rw [← hsv, strOf_size, hm]
        have c4 : w.cell? ⟨g, o + k * 7 + 1 + 4, none⟩ = some (.string sv) := by rw [← hsv]; exact hc 4 _ rfl
        have c4' : w.cell? ⟨g, o + k * 7 + 5, none⟩ = some (.string sv) := c4
        have HM := Lib.hid hm
        clear hsv hm hc hc0
        by_cases h100 : m ≤ 100
        · go_wp2_with fail
          go_round
          case rel => exact ⟨k + 1, by omega, by go_num, Lib.hid fun j hj hjk => by
            by_cases e : j = k
            · subst e
              rw [HM.out]
              exact h100
            · exact HN.out j hj (by omega)⟩
          case measure => simp [intOf]; omega
        · have HE : Hid (lightB l = false) := by
            show _ = _
            rw [HE0.out, List.all_eq_false]
            exact ⟨l[k], List.getElem_mem hl, by rw [HM.out]; simpa using h100⟩
          go_wp2_with fail
          go_ret
          exact ⟨by rw [HE.out]; rfl, rfl⟩
      · obtain rfl : k = n := by omega
        have HE : Hid (lightB l = true) := by
          show _ = _
          rw [HE0.out, List.all_eq_true]
          intro x hx
          obtain ⟨j, hj, rfl⟩ := List.getElem_of_mem hx
          exact decide_eq_true (HN.out j hj (by have := HLN.out; omega))
        go_wp2_with fail
        go_ret
        exact ⟨by rw [HE.out]; rfl, rfl⟩
  · have HE : Hid (lightB l = false) := by show _ = _; unfold lightB; rw [HLN.out, decide_eq_false hn]; rfl
    go_enter Try.func7, Try.ntmps7
    go_wp2_with fail
    go_ret
    exact ⟨by rw [HE.out]; rfl, rfl⟩
end Go.Proofs.Ytpffnjnncgmgnaa
