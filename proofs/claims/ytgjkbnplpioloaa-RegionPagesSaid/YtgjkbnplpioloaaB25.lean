/-
  The functions that the laws hand to Get.
  Conditions: none beyond those that each theorem names.
-/
import Derived.Test.YtgjkbnplpioloaaB24
namespace Go.Proofs.Ytgjkbnplpioloaa
open Go.RowKit
attribute [local go_sem] Oper.semAt_some
set_option maxRecDepth 20000

/-- A page and whether there is one. -/
def RetAt (w : World) (x : Pg × Bool) (e : Ending) (z : World) : Prop := e = .returned (.tuple #[.agg (pgA x.1), .bool x.2]) ∧ Below w.heap.size w z
theorem pgNew (w : World) : At (w.alloc (.cells (pgA zpg) 62)) w.heap.size 62 (pgA zpg) := At.new w 62 (pgA zpg)
set_option maxHeartbeats 800000 in
theorem one1_any (p : Pg) (g : Nat) (n : Int) (w : World) (h : At w g 62 (pgA p)) : Calls Try.prog 29 #[.int .i64 n, .pointer (some ⟨g, 0, none⟩)] w (RetAt w (p, decide (n = 3))) := by
  have HA := Lib.hid (pgNew w)
  have HP := Lib.hid (h.alloc (.cells (pgA zpg) 62))
  have HB : Hid (Below w.heap.size w (w.alloc (.cells (pgA zpg) 62))) := (Below.refl _ w).alloc (Nat.le_refl _) _
  clear h
  have hzero := (zero_of_info pg_info).1
  go_enter Try.func29, Try.ntmps29
  go_upto_region 1 with fail
  generalize w.alloc (.cells (pgA zpg) 62) = w1 at HA HP HB ⊢
  go_wp2_with (first
    | (refine wpList_load_at 62 5 (.tmp 1) rfl rfl rfl g rfl (pgA p) 224 str49 (pgA_size _) HP.out ?_)
    | (refine wpList_store_at 62 (.tmp 3) (.tmp 5) rfl rfl rfl w.heap.size rfl (pgA p) (pgA zpg) 224 rfl str49 (pgA_size _) (pgA_size _) (pgA_one _) HA.out ?_; intro w9 h9 g9; have H9 := Lib.hid h9; have HB9 := Lib.hid (HB.out.grown g9 HB.out.size (fun j e => by injection e with e; omega)); clear h9 g9))
  exact bodyPost_ret (results_at2 (g := w.heap.size) rfl H9.out str49 (pgA_size _) rfl rfl) rfl ⟨rfl, HB9.out⟩
set_option maxHeartbeats 800000 in
theorem works2_any (n : Int) (w : World) : Calls Try.prog 34 #[.int .i64 n] w (RetAt w (zpg, true)) := by
  have HA := Lib.hid (pgNew w)
  have HB : Hid (Below w.heap.size w (w.alloc (.cells (pgA zpg) 62))) := (Below.refl _ w).alloc (Nat.le_refl _) _
  have hzero := (zero_of_info pg_info).1
  go_enter Try.func34, Try.ntmps34
  go_upto_region 1 with fail
  generalize w.alloc (.cells (pgA zpg) 62) = w1 at HA HB ⊢
  go_wp2_with (refine wpList_store_at 62 (.tmp 2) (.tmp 4) rfl rfl rfl w.heap.size rfl (pgA zpg) (pgA zpg) 224 rfl str49 (pgA_size _) (pgA_size _) (pgA_one _) HA.out ?_; intro w9 h9 g9; have H9 := Lib.hid h9; have HB9 := Lib.hid (HB.out.grown g9 HB.out.size (fun j e => by injection e with e; omega)); clear h9 g9)
  exact bodyPost_ret (results_at2 (g := w.heap.size) rfl H9.out str49 (pgA_size _) rfl rfl) rfl ⟨rfl, HB9.out⟩
set_option maxHeartbeats 1600000 in
theorem works1_any (x : Im) (g B c : Nat) (A : Option Addr) (n : Int) (w : World) (h : w.cell? ⟨g, 0, none⟩ = some (.slice A 1 c)) (hl : LI w B A 1 [x]) (hB : B ≤ w.heap.size) : Calls Try.prog 33 #[.int .i64 n, .pointer (some ⟨g, 0, none⟩)] w (RetAt w (x.p, decide (n = 7))) := by
  have HA := Lib.hid (pgNew w)
  have HB : Hid (Below w.heap.size w (w.alloc (.cells (pgA zpg) 62))) := (Below.refl _ w).alloc (Nat.le_refl _) _
  have c1 : (w.alloc (.cells (pgA zpg) 62)).cell? ⟨g, 0, none⟩ = some (.slice A 1 c) := (HB.out.cell (World.block_lt_of_cell? _ _ h)).trans h
  obtain ⟨b, o, hb0, rfl, hlt, hr0⟩ := (hl.alloc hB (.cells (pgA zpg) 62)).at (k := 0) (by omega)
  have R0 : Hid ((w.alloc (.cells (pgA zpg) 62)).rangeAt b o (imL x)) := by have := hr0; rw [Nat.zero_mul] at this; exact this
  clear h hl hb0 hr0
  have hzero := (zero_of_info pg_info).1
  go_enter Try.func33, Try.ntmps33
  go_upto_region 1 with fail
  generalize w.alloc (.cells (pgA zpg) 62) = w1 at HA HB R0 c1 ⊢
  go_wp2_with (first
      | (refine wpList_of_exec 8 (.agg (pgA x.p)) rfl rfl (exec_load_pg (.tmp 7) rfl b (o + 1) rfl x o rfl R0.out) ?_)
      | (refine wpList_store_at 62 (.tmp 3) (.tmp 8) rfl rfl rfl w.heap.size rfl (pgA x.p) (pgA zpg) 224 rfl str49 (pgA_size _) (pgA_size _) (pgA_one _) HA.out ?_; intro w9 h9 g9; have H9 := Lib.hid h9; have HB9 := Lib.hid (HB.out.grown g9 HB.out.size (fun j e => by injection e with e; omega)); clear h9 g9))
  exact bodyPost_ret (results_at2 (g := w.heap.size) rfl H9.out str49 (pgA_size _) rfl rfl) rfl ⟨rfl, HB9.out⟩
theorem ent_one1 : ∀ args w, (callFunc 29 args).run Try.prog w = .ok (.enter 29 args) w := enters_of Try.func29 (by kernel_rfl) rfl
theorem ent_works1 : ∀ args w, (callFunc 33 args).run Try.prog w = .ok (.enter 33 args) w := enters_of Try.func33 (by kernel_rfl) rfl
theorem ent_works2 : ∀ args w, (callFunc 34 args).run Try.prog w = .ok (.enter 34 args) w := enters_of Try.func34 (by kernel_rfl) rfl
end Go.Proofs.Ytgjkbnplpioloaa
