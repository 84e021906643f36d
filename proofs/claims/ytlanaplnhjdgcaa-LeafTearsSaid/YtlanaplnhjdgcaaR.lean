/-
  The walks of exists and Of.
  Conditions: disks of at most 100000 sectors; none beyond those that each theorem names.
-/
import Derived.Test.YtlanaplnhjdgcaaQ
namespace Go.Proofs.Ytlanaplnhjdgcaa
open Go.RowKit

section
variable (X : Nat → Prop) (g gs : Nat) (S : List Sect) (wr fu : Int) (kp : List Bool) (dn : Bool) (w : World)
set_option maxHeartbeats 800000 in
theorem exists_yes (base n : Nat) (h : Plat X w g gs S wr fu kp dn) (hn : S.length ≤ 100000) (hf : base + 4 * n + 4 ≤ S.length) :
    Calls Try.prog 25 #[.pointer (some ⟨g, 0, none⟩), .int .i64 base, .int .i64 n] w fun e w' => e = .returned (.bool true) ∧ w = w' := by
  have SZ := Lib.hid (size_any X g gs S wr fu kp dn w h)
  clear h
  obtain ⟨s, hs⟩ : ∃ s, s = S.length := ⟨_, rfl⟩
  rw [← hs] at hn hf SZ
  clear hs
  have d1 : decide ((base : Int) < 0) = false := by simp
  have d2 : decide ((n : Int) < 0) = false := by simp
  have d3 : ((n : Int) < ((s : Int) - (base : Int)) / 4) := by omega
  have d4 : decide ((n : Int) < ((s : Int) - (base : Int)) / 4) = true := by simpa using d3
  have d5 : decide ((n : Int) < ((s : Int) - (base : Int)).tdiv 4) = true := by rw [Int.tdiv_eq_ediv_of_nonneg (by omega)]; exact d4
  go_enter Try.func25, Try.ntmps25
  go_wp2_with (go_at_call 32; refine SZ.out.mono ?_; rintro e w1 ⟨rfl, rfl⟩)
  go_ret
  exact ⟨rfl, rfl⟩
set_option maxHeartbeats 800000 in
theorem exists_no (base n : Int) (h : Plat X w g gs S wr fu kp dn) (hn : S.length ≤ 100000) (hb1 : -9223372036854775808 ≤ base) (hb2 : base ≤ 9223372036854775807) (hf : ¬ (0 ≤ base ∧ 0 ≤ n ∧ base + 4 * n + 4 ≤ S.length)) :
    Calls Try.prog 25 #[.pointer (some ⟨g, 0, none⟩), .int .i64 base, .int .i64 n] w fun e w' => e = .returned (.bool false) ∧ w = w' := by
  have SZ := Lib.hid (size_any X g gs S wr fu kp dn w h)
  clear h
  obtain ⟨s, hs⟩ : ∃ s, s = S.length := ⟨_, rfl⟩
  rw [← hs] at hn hf SZ
  clear hs
  by_cases h1 : base < 0
  · go_enter Try.func25, Try.ntmps25
    go_wp2_with fail
    go_ret
    exact ⟨rfl, rfl⟩
  · by_cases h2 : n < 0
    · go_enter Try.func25, Try.ntmps25
      go_wp2_with fail
      go_ret
      exact ⟨rfl, rfl⟩
    · have d1 : decide (base < 0) = false := by simpa using h1
      have d2 : decide (n < 0) = false := by simpa using h2
      have d3 : ¬ (n < ((s : Int) - base).tdiv 4) := by
        by_cases h3 : base ≤ s
        · rw [Int.tdiv_eq_ediv_of_nonneg (by omega)]; omega
        · rw [show (s : Int) - base = -(base - s) by omega, Int.neg_tdiv, Int.tdiv_eq_ediv_of_nonneg (by omega)]
          omega
      have d5 : decide (n < ((s : Int) - base).tdiv 4) = false := by simpa using d3
      clear d3 hf
      go_enter Try.func25, Try.ntmps25
      go_wp2_with (go_at_call 32; refine SZ.out.mono ?_; rintro e w1 ⟨rfl, rfl⟩)
      go_ret
      exact ⟨rfl, rfl⟩
end
set_option maxHeartbeats 400000 in
theorem exists_nil (base n : Int) (w : World) : Calls Try.prog 25 #[.pointer none, .int .i64 base, .int .i64 n] w fun e w' => e = .returned (.bool false) ∧ w = w' := by
  go_enter Try.func25, Try.ntmps25
  go_wp2_with fail
  go_ret
  exact ⟨rfl, rfl⟩

/-! ### copy of bytes -/
theorem wp_copyB {op : Oper} {a : Act} {w : World} {K : Act → World → Prop} {Q : Exit → Act → World → Prop} (r : Nat) (d s : Operand) (hop : op.dst = some r)
    (ho : op.op = .call { callee := .builtin .copy, args := #[d, s], argTypes := #[48, 48] }) (g off dLen dCap sLen sCap : Nat) (ad : Addr) (M L : List Int) (t : TypeId)
    (hd : a.eval d = .slice (some ⟨g, off, none⟩) dLen dCap) (hs : a.eval s = .slice (some ad) sLen sCap) (hg : RowAt w g t L) (hn : M.length = Nat.min sLen dLen)
    (hsrc : ∀ j v, (CL M)[j]? = some v → w.cell? (ad.add j) = some v) (hfit : off + M.length ≤ L.length)
    (h : ∀ w', RowAt w' g t (splice L off M) → Mod (fun k => k = g) w w' → K (a.put (some r) (goInt M.length)) w') : Oper.wp Try.prog op a w K Q := by
  have hrun := run_copy_cells (P := Try.prog) w 48 48 op.type 5 g off dLen dCap ad sLen sCap (CL M) Try.underlying48 u8_size (by rw [CL_length]; exact hn) hsrc
    (fun j hj => by rw [CL_length] at hj; exact (hg.there off M.length hfit j hj).1) (fun j hj => by rw [CL_length] at hj; exact (hg.there off M.length hfit j hj).2) (CL_one M)
  rw [CL_length] at hrun
  unfold Oper.wp
  simp [execOp, ho, resolve, invoke, builtin, hd, hs, hrun, Result.andThen]
  simp only [Oper.upon]
  rw [hop]
  exact h _ (hg.put off M hfit) (Mod.setCells (X := fun k => k = g) (Mod.refl _ w) (.inl rfl) _ _)
theorem wpList_copyB {ops : Array Oper} {rest : List Oper} {op : Oper} {a : Act} {w : World} {Q : Exit → Act → World → Prop} (r : Nat) (d s : Operand) (hop : op.dst = some r) (hgd : op.guard = none)
    (ho : op.op = .call { callee := .builtin .copy, args := #[d, s], argTypes := #[48, 48] }) (g off dLen dCap sLen sCap : Nat) (ad : Addr) (M L : List Int) (t : TypeId)
    (hd : a.eval d = .slice (some ⟨g, off, none⟩) dLen dCap) (hs : a.eval s = .slice (some ad) sLen sCap) (hg : RowAt w g t L) (hn : M.length = Nat.min sLen dLen)
    (hsrc : ∀ j v, (CL M)[j]? = some v → w.cell? (ad.add j) = some v) (hfit : off + M.length ≤ L.length)
    (h : ∀ w', RowAt w' g t (splice L off M) → Mod (fun k => k = g) w w' → wpList Try.prog ops Q rest (a.put (some r) (goInt M.length)) w') : wpList Try.prog ops Q (op :: rest) a w :=
  wpList_plain hgd fun _ hK => wp_copyB r d s hop ho g off dLen dCap sLen sCap ad M L t hd hs hg hn hsrc hfit fun w' h1 h2 => hK _ _ (h w' h1 h2)

def ofL (l : List Int) : List Int := splice zpg.toList 0 l
@[irreducible] def ofP (l : List Int) : Pg := Vector.ofFn fun j : Fin 224 => (ofL l).getD j 0
theorem ofP_toList (l : List Int) (h : l.length ≤ 224) : (ofP l).toList = ofL l := by
  unfold ofP
  exact ofFn_list 224 _ (by rw [ofL, length_splice _ _ _ (by rw [Vector.length_toList]; omega), Vector.length_toList])
theorem CL_splice (L : List Int) (o : Nat) (M : List Int) : CL (splice L o M) = splice (CL L) o (CL M) := by simp [splice, CL]
set_option maxRecDepth 8000 in
set_option maxHeartbeats 400000 in
theorem of_ok (X : Nat → Prop) (n c : Nat) (a : Addr) (l : List Int) (w : World) (h : Lz X w 1 (some a) n (CL l)) (hn : n ≤ 224) :
    Calls Try.prog 20 #[.slice (some a) n c] w fun e w' => e = .returned (.tuple #[.agg (pgA (ofP l)), .bool true]) ∧ Below w.heap.size w w' := by
  have hl : l.length = n := by have := h.len; rw [CL_length] at this; omega
  have hzero := (zero_of_info pg_info).1
  have hinfo := Lib.hid (zero_of_info pg_info).2
  have R1 := Lib.hid ((row_pg w zpg).alloc (.cells (pgA zpg) 22))
  have R2 := row_pg (w.alloc (.cells (pgA zpg) 22)) zpg
  rw [show (w.alloc (.cells (pgA zpg) 22)).heap.size = w.heap.size + 1 by simp] at R2
  have R2 := Lib.hid R2
  have HH := Lib.hid ((h.alloc (.cells (pgA zpg) 22)).alloc (.cells (pgA zpg) 22))
  have HL := Lib.hid hl
  clear h hl
  go_enter Try.func20, Try.ntmps20
  go_wp2_with (first
    | (refine wpList_copyB 11 (.tmp 9) (.tmp 10) rfl rfl rfl (w.heap.size + 1) 0 224 224 n c a l zpg.toList 22 rfl rfl R2.out (by rw [HL.out]; exact (Nat.min_eq_left hn).symm) HH.out.cells (by rw [HL.out, Vector.length_toList]; omega) ?_
       intro w8 hr8 hb8
       have R8 : Hid (RowAt w8 (w.heap.size + 1) 22 (ofP l).toList) := (by rw [ofP_toList l (by rw [HL.out]; exact hn), ofL]; exact hr8)
       have B8 := Lib.hid hb8
       clear hr8 hb8)
    | refine wpList_load_pg 12 (.tmp 4) rfl rfl rfl (w.heap.size + 1) rfl (ofP l) R8.out ?_
    | (refine wpList_store_pg (.tmp 2) (.tmp 12) rfl rfl rfl w.heap.size rfl (ofP l) zpg rfl (R1.out.kept B8.out (by show ¬ w.heap.size = w.heap.size + 1; omega)) ?_; intro w9 h9 m9; have H9 := Lib.hid h9; have M9 := Lib.hid m9; clear h9 m9))
  refine bodyPost_ret (v := .tuple #[.agg (pgA (ofP l)), .bool true]) (results_pg2 _ _ w.heap.size (ofP l) _ rfl H9.out Try.results20 rfl) rfl ⟨rfl, ?_⟩
  have h1 : Below w.heap.size w w8 := B8.out.below (((Below.refl w.heap.size w).alloc (Nat.le_refl _) _).alloc (by simp) _) (fun q hq => by omega) (by simp; omega)
  exact M9.out.below h1 (fun q hq => by omega) h1.size
set_option maxRecDepth 8000 in
set_option maxHeartbeats 400000 in
theorem of_long (n c : Nat) (A : Option Addr) (w : World) (hn : 224 < n) :
    Calls Try.prog 20 #[.slice A n c] w fun e w' => e = .returned (.tuple #[.agg (pgA zpg), .bool false]) ∧ Below w.heap.size w w' := by
  have hzero := (zero_of_info pg_info).1
  have hinfo := Lib.hid (zero_of_info pg_info).2
  have R1 := Lib.hid ((row_pg w zpg).alloc (.cells (pgA zpg) 22))
  go_enter Try.func20, Try.ntmps20
  go_wp2_with (first
    | (refine wpList_store_pg (.tmp 2) (.tmp 8) rfl rfl rfl w.heap.size rfl zpg zpg rfl R1.out ?_; intro w9 h9 m9; have H9 := Lib.hid h9; have M9 := Lib.hid m9; clear h9 m9))
  refine bodyPost_ret (v := .tuple #[.agg (pgA zpg), .bool false]) (results_pg2 _ _ w.heap.size zpg _ rfl H9.out Try.results20 rfl) rfl ⟨rfl, ?_⟩
  have h1 : Below w.heap.size w _ := ((Below.refl w.heap.size w).alloc (Nat.le_refl _) (.cells (pgA zpg) 22)).alloc (by simp) (.cells (pgA zpg) 22)
  exact M9.out.below h1 (fun q hq => by omega) h1.size
end Go.Proofs.Ytlanaplnhjdgcaa
