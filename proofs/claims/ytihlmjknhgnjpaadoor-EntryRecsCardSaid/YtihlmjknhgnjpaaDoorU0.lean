/-
  The example that the laws ask: its entry, its bytes, as closed values.
  Conditions: none.
-/
import Derived.Test.YtihlmjknhgnjpaaDoorT7
import Derived.Test.YtihlmjknhgnjpaaDoorS3
namespace Go.Proofs.YtihlmjknhgnjpaaDoor
open Go.RowKit
set_option maxRecDepth 20000

def p0 : Pg := padPg [1, 0, 2]
def r0 : Rc := ⟨1, 9, 2, 3, [118], false⟩
def e0 : Ent := ⟨7, 2, 3, 5, 0, r0, [⟨4, p0⟩], [8]⟩
theorem r0_ok : r0.ok := ⟨by decide, by decide, by decide, by decide⟩
theorem e0_ok : e0.ok := ⟨by decide, by decide, by decide, by decide, r0_ok, by decide⟩
theorem e0_good : Good e0 := ⟨by decide, by decide, by decide, by decide, by decide, by decide⟩
theorem e0_chk : chk e0 = 0 := chk_good e0_good
theorem zent_chk : chk zent = 1 := by decide
def l0 : List UInt8 := sealL (entL e0)
theorem p0_stored : stored p0 = [1, 0, 2] := stored_pad _ (by decide) (by decide)
theorem p0_n : stN p0 = 3 := by rw [← stored_length, p0_stored]; rfl
def body0 : List UInt8 := [2] ++ (putL 7 8 ++ (putL 3 8 ++ (putL 5 8 ++ putL 0 8))) ++ (recL r0 ++ ([1] ++ (([4] ++ ([3] ++ [1, 0, 2])) ++ ([1] ++ putL 8 8))))
theorem body0_eq : entL e0 = body0 := by
  have h : pagesL e0.pages = [4] ++ ([3] ++ [1, 0, 2]) := by
    show pageL ⟨4, p0⟩ ++ [] = _
    rw [List.append_nil, pageL]
    show [UInt8.ofNat 4] ++ ([UInt8.ofNat (stN p0)] ++ stored p0) = _
    rw [p0_n, p0_stored]
    rfl
  rw [entL, h]
  rfl
theorem body0_len : body0.length = 89 := by decide +kernel
theorem l0_eq : l0 = sealL body0 := by rw [l0, body0_eq]
theorem l0_len : l0.length = 93 := by rw [l0_eq, sealL_length, body0_len]
theorem l0_take : l0.take 89 = entL e0 := by
  rw [l0, sealL, List.take_append_of_le_length (by rw [body0_eq, body0_len]; omega), List.take_of_length_le (by rw [body0_eq, body0_len]; omega)]
theorem l0_sum : (l0.drop 89 == Crc.le4 (Crc.sumN (l0.take 89))) = true := by
  rw [l0_take, l0, sealL, List.drop_append_of_le_length (by rw [body0_eq, body0_len]; omega), List.drop_of_length_le (by rw [body0_eq, body0_len]; omega)]
  simp
/-- The bytes with one bit turned. -/
def l1 : List UInt8 := (sealL body0).set 5 1
theorem l0_five : l0[5]? = some 0 := by rw [l0_eq]; decide +kernel
theorem l1_sum : (l1.drop 89 == Crc.le4 (Crc.sumN (l1.take 89))) = false := by decide +kernel
theorem l1_len : l1.length = 93 := by rw [l1, List.length_set, sealL_length, body0_len]
theorem e0_isE : isE (entL e0) = true := by
  obtain ⟨h1, h2, h3⟩ := re_put e0 e0_ok e0_good
  rw [isE, h1, h2, h3, e0_chk]
  rfl
theorem e0_reEnt : reEnt (entL e0, false) = e0 := (re_put e0 e0_ok e0_good).2.1
theorem r0_read : rrOk (recL r0, false) = true ∧ rrRec (recL r0, false) = r0 := by
  have := rr_put r0 [] r0_ok (by decide)
  rw [List.append_nil] at this
  exact ⟨this.1, this.2.1⟩
theorem r0_len : (recL r0).length = 41 := recL_length r0 (by decide)
theorem built49 : Tryd.prog.built 49 [(0, .int .u8 1), (1, .int .u8 0), (2, .int .u8 2)] = some (pgA p0) := by kernel_rfl
theorem built51 : Tryd.prog.built 51 [(0, .int .i64 4), (1, .agg (pgA p0))] = some (imA ⟨4, p0⟩) := by kernel_rfl
theorem wpList_build {ops : Array Oper} {rest : List Oper} {op : Oper} {a : Act} {w : World} {Q : Exit → Act → World → Prop} (d : Nat) (hop : op.dst = some d) (hgd : op.guard = none) (t : TypeId) (parts : Array (Nat × Operand)) (ho : op.op = .build t parts) (vs : Array (Nat × Value))
    (hv : (parts.map fun (i, x) => (i, a.eval x)) = vs) (cells : Array Value) (hb : Tryd.prog.built t vs.toList = some cells)
    (h : wpList Tryd.prog ops Q rest (a.put (some d) (.agg cells)) w) : wpList Tryd.prog ops Q (op :: rest) a w := by
  refine wpList_plain hgd fun K hK => ?_
  have hr := run_build w t vs cells hb
  unfold Oper.wp execOp
  simp only [ho, hv, Sem.run_bind, hr, Result.andThen_ok, Sem.run_pure]
  simp only [Oper.upon]
  rw [hop]
  exact hK _ _ h
theorem e0_sameZ : sameE e0 zent = false := by decide
end Go.Proofs.YtihlmjknhgnjpaaDoor
