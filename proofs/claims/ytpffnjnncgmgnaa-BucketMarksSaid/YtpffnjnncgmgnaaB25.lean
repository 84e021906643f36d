/-
  The functions that the laws hand to Get.
  Conditions: none beyond those that each theorem names.
-/
import Derived.Test.YtpffnjnncgmgnaaB24
namespace Go.Proofs.Ytpffnjnncgmgnaa
open Go.RowKit
attribute [local go_sem] Oper.semAt_some
set_option maxRecDepth 20000

theorem wpList_of_exec {ops : Array Oper} {rest : List Oper} {op : Oper} {a : Act} {w : World} {Q : Exit → Act → World → Prop} (d : Nat) (v : Value) (hop : op.dst = some d) (hgd : op.guard = none) (h0 : (execOp a.eval op).run Try.prog w = .ok (.value v) w)
    (h : wpList Try.prog ops Q rest (a.put (some d) v) w) : wpList Try.prog ops Q (op :: rest) a w := by
  refine wpList_plain hgd fun K hK => ?_
  unfold Oper.wp
  rw [h0]
  simp only [Oper.upon]
  rw [hop]
  exact hK _ _ h
/-- A page and whether there is one. -/
def RetAt (w : World) (x : Pg × Bool) (e : Ending) (z : World) : Prop := e = .returned (.tuple #[.agg (pgA x.1), .bool x.2]) ∧ Below w.heap.size w z
theorem pgNew (w : World) : At (w.alloc (.cells Try.zeroCells39 39)) w.heap.size 39 (pgA zpg) := by
  have := At.new w 39 Try.zeroCells39
  rwa [zero39] at this ⊢
set_option maxHeartbeats 800000 in
theorem one1_any (p : Pg) (g : Nat) (n : Int) (w : World) (h : At w g 39 (pgA p)) : Calls Try.prog 21 #[.int .i64 n, .pointer (some ⟨g, 0, none⟩)] w (RetAt w (p, decide (n = 3))) := by
  have HA := Lib.hid (pgNew w)
  have HP := Lib.hid (h.alloc (.cells Try.zeroCells39 39))
  have HB : Hid (Below w.heap.size w (w.alloc (.cells Try.zeroCells39 39))) := (Below.refl _ w).alloc (Nat.le_refl _) _
  clear h
  go_enter Try.func21, Try.ntmps21
  go_upto_region 1 with fail
  generalize w.alloc (.cells Try.zeroCells39 39) = w1 at HA HP HB ⊢
  go_wp2_with (first
    | (refine wpList_load_at 39 5 (.tmp 1) rfl rfl rfl g rfl (pgA p) 224 str49 (pgA_size _) HP.out ?_)
    | (refine wpList_store_at 39 (.tmp 3) (.tmp 5) rfl rfl rfl w.heap.size rfl (pgA p) (pgA zpg) 224 rfl str49 (pgA_size _) (pgA_size _) (pgA_one _) HA.out ?_; intro w9 h9 g9; have H9 := Lib.hid h9; have HB9 := Lib.hid (HB.out.grown g9 HB.out.size (fun j e => by injection e with e; omega)); clear h9 g9))
  exact bodyPost_ret (results_at2 (g := w.heap.size) rfl H9.out str49 (pgA_size _) rfl rfl) rfl ⟨rfl, HB9.out⟩
set_option maxHeartbeats 800000 in
theorem works2_any (n : Int) (w : World) : Calls Try.prog 26 #[.int .i64 n] w (RetAt w (zpg, true)) := by
  have HA := Lib.hid (pgNew w)
  have HB : Hid (Below w.heap.size w (w.alloc (.cells Try.zeroCells39 39))) := (Below.refl _ w).alloc (Nat.le_refl _) _
  go_enter Try.func26, Try.ntmps26
  go_upto_region 1 with fail
  generalize w.alloc (.cells Try.zeroCells39 39) = w1 at HA HB ⊢
  go_wp2_with (refine wpList_store_at 39 (.tmp 2) (.tmp 4) rfl rfl rfl w.heap.size rfl (pgA zpg) (pgA zpg) 224 (congrArg Value.agg zero39) str49 (pgA_size _) (pgA_size _) (pgA_one _) HA.out ?_; intro w9 h9 g9; have H9 := Lib.hid h9; have HB9 := Lib.hid (HB.out.grown g9 HB.out.size (fun j e => by injection e with e; omega)); clear h9 g9)
  exact bodyPost_ret (results_at2 (g := w.heap.size) rfl H9.out str49 (pgA_size _) rfl rfl) rfl ⟨rfl, HB9.out⟩
/-- What works' first function tells. -/
def fW (x y : Im) (n : Int) : Pg × Bool := if n = 4 then (x.p, true) else (y.p, decide (n = 9))
set_option maxHeartbeats 1600000 in
theorem works1_any (x y : Im) (g B c : Nat) (A : Option Addr) (n : Int) (w : World) (h : w.cell? ⟨g, 0, none⟩ = some (.slice A 2 c)) (hl : LI w B A 2 [x, y]) (hB : B ≤ w.heap.size) : Calls Try.prog 25 #[.int .i64 n, .pointer (some ⟨g, 0, none⟩)] w (RetAt w (fW x y n)) := by
  have HA := Lib.hid (pgNew w)
  have HB : Hid (Below w.heap.size w (w.alloc (.cells Try.zeroCells39 39))) := (Below.refl _ w).alloc (Nat.le_refl _) _
  have c1 : (w.alloc (.cells Try.zeroCells39 39)).cell? ⟨g, 0, none⟩ = some (.slice A 2 c) := (HB.out.cell (World.block_lt_of_cell? _ _ h)).trans h
  obtain ⟨b, o, hb0, rfl, hlt, hr0⟩ := (hl.alloc hB (.cells Try.zeroCells39 39)).at (k := 0) (by omega)
  obtain ⟨b2, o2, hb1, e2, _, hr1⟩ := (hl.alloc hB (.cells Try.zeroCells39 39)).at (k := 1) (by omega)
  injection e2 with e2
  injection e2 with e3 e4
  subst e3 e4
  have R0 : Hid ((w.alloc (.cells Try.zeroCells39 39)).rangeAt b o (imL x)) := by have := hr0; rw [Nat.zero_mul] at this; exact this
  have R1 : Hid ((w.alloc (.cells Try.zeroCells39 39)).rangeAt b (o + 225) (imL y)) := by have := hr1; rw [Nat.one_mul] at this; exact this
  clear h hl hb0 hb1 hr0 hr1
  by_cases h4 : n = 4
  · have HE : Hid (fW x y n = (x.p, true)) := by show _ = _; unfold fW; rw [if_pos h4]
    subst h4
    go_enter Try.func25, Try.ntmps25
    go_upto_region 1 with fail
    generalize w.alloc (.cells Try.zeroCells39 39) = w1 at HA HB R0 R1 c1 ⊢
    go_wp2_with (first
      | (refine wpList_of_exec 10 (.agg (pgA x.p)) rfl rfl (exec_load_pg (.tmp 9) rfl b (o + 1) rfl x o rfl R0.out) ?_)
      | (refine wpList_store_at 39 (.tmp 3) (.tmp 10) rfl rfl rfl w.heap.size rfl (pgA x.p) (pgA zpg) 224 rfl str49 (pgA_size _) (pgA_size _) (pgA_one _) HA.out ?_; intro w9 h9 g9; have H9 := Lib.hid h9; have HB9 := Lib.hid (HB.out.grown g9 HB.out.size (fun j e => by injection e with e; omega)); clear h9 g9))
    rw [HE.out]
    exact bodyPost_ret (results_at2 (g := w.heap.size) rfl H9.out str49 (pgA_size _) rfl rfl) rfl ⟨rfl, HB9.out⟩
  · have HE : Hid (fW x y n = (y.p, decide (n = 9))) := by show _ = _; unfold fW; rw [if_neg h4]
    go_enter Try.func25, Try.ntmps25
    go_upto_region 1 with fail
    generalize w.alloc (.cells Try.zeroCells39 39) = w1 at HA HB R0 R1 c1 ⊢
    go_wp2_with (first
      | (refine wpList_of_exec 14 (.agg (pgA y.p)) rfl rfl (exec_load_pg (.tmp 13) rfl b (o + 225 + 1) rfl y (o + 225) rfl R1.out) ?_)
      | (refine wpList_store_at 39 (.tmp 3) (.tmp 14) rfl rfl rfl w.heap.size rfl (pgA y.p) (pgA zpg) 224 rfl str49 (pgA_size _) (pgA_size _) (pgA_one _) HA.out ?_; intro w9 h9 g9; have H9 := Lib.hid h9; have HB9 := Lib.hid (HB.out.grown g9 HB.out.size (fun j e => by injection e with e; omega)); clear h9 g9))
    rw [HE.out]
    exact bodyPost_ret (results_at2 (g := w.heap.size) rfl H9.out str49 (pgA_size _) rfl rfl) rfl ⟨rfl, HB9.out⟩
theorem ent_one1 : ∀ args w, (callFunc 21 args).run Try.prog w = .ok (.enter 21 args) w := enters_of Try.func21 (by kernel_rfl) rfl
theorem ent_works1 : ∀ args w, (callFunc 25 args).run Try.prog w = .ok (.enter 25 args) w := enters_of Try.func25 (by kernel_rfl) rfl
theorem ent_works2 : ∀ args w, (callFunc 26 args).run Try.prog w = .ok (.enter 26 args) w := enters_of Try.func26 (by kernel_rfl) rfl
end Go.Proofs.Ytpffnjnncgmgnaa
