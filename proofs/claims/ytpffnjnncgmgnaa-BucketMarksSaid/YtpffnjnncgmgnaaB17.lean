/-
  What Put needs: an image built of its number and its page; a slice cut; a slice of one image; append of an image.
  Conditions: none beyond those that each theorem names.
-/
import Derived.Test.YtpffnjnncgmgnaaB16
import Derived.Test.YtpffnjnncgmgnaaS0
namespace Go.Proofs.Ytpffnjnncgmgnaa
open Go.RowKit
attribute [local go_sem] Oper.semAt_some
set_option maxRecDepth 20000

theorem put_from (o : Nat) : ∀ (l : List Value) (k : Nat) (Z : Array Value) (i : Nat), o + k + l.length ≤ Z.size →
    ((l.zipIdx k).foldl (fun cs (p : Value × Nat) => cs.setIfInBounds (o + p.2) p.1) Z)[i]? = if o + k ≤ i ∧ i < o + k + l.length then l[i - (o + k)]? else Z[i]?
  | [], k, Z, i, _ => by simp; omega
  | v :: r, k, Z, i, h => by
    rw [List.zipIdx_cons, List.foldl_cons, put_from o r (k + 1) _ i (by simp at h ⊢; omega)]
    simp only [List.length_cons] at h ⊢
    by_cases h1 : o + (k + 1) ≤ i ∧ i < o + (k + 1) + r.length
    · rw [if_pos h1, if_pos (by omega), show i - (o + k) = (i - (o + (k + 1))) + 1 from by omega, List.getElem?_cons_succ]
    · rw [if_neg h1, Array.getElem?_setIfInBounds]
      by_cases h2 : o + k = i
      · subst h2
        rw [if_pos rfl, if_pos (by omega), if_pos (by omega)]
        simp
      · rw [if_neg (by omega), if_neg (by omega)]
theorem fill_im (z : Int) (p : Pg) (Z : Array Value) (hZ : Z.size = 225) : Instr.fill ((#[(0, 1), (1, 224)] : Array (Nat × Nat))[·]?) Z [(0, .int .i64 z), (1, .agg (pgA p))] = some (imA ⟨z, p⟩) := by
  have hp := pgA_size p
  have h1 : (Value.agg (pgA p)).cells = pgA p := rfl
  have h0 : (Value.int .i64 z).cells = #[.int .i64 z] := rfl
  simp [Instr.fill, h0, h1, hp, hZ]
  have hz : (pgA p).zipIdx.size = 224 := by simp [hp]
  rw [← hz, ← Array.foldl_toList, Array.toList_zipIdx]
  apply Array.ext_getElem?
  intro i
  rw [put_from 1 (pgA p).toList 0 _ i (by simp [hp, hZ])]
  have hl : (pgA p).toList.length = 224 := by simp [hp]
  have he : (imA ⟨z, p⟩)[i]? = (Value.int .i64 z :: (pgA p).toList)[i]? := by simp [imA, imL, pgA]
  rw [he, hl]
  rcases Nat.eq_zero_or_pos i with h | h
  · subst h
    rw [if_neg (by omega), Array.getElem?_setIfInBounds]
    simp [hZ]
  · obtain ⟨j, rfl⟩ : ∃ j, i = j + 1 := ⟨i - 1, by omega⟩
    rw [List.getElem?_cons_succ]
    by_cases hj : j < 224
    · rw [if_pos (by omega)]
      congr 1
    · rw [if_neg (by omega), Array.getElem?_eq_none (by simp [hZ]; omega), List.getElem?_eq_none (by omega)]
theorem im_info : ∃ i, Try.prog.info? 41 = some i ∧ i.zero = some (.agg (imA ⟨0, zpg⟩)) ∧ i.size = 225 ∧ i.bytes = 232 := ⟨_, rfl, by kernel_rfl, by kernel_rfl, by kernel_rfl⟩
theorem im_zero : (Try.prog.info? 41).map (fun i => (i.zero, i.size)) = some (some (.agg (imA ⟨0, zpg⟩)), 225) := by kernel_rfl
section
variable {op : Oper} {a : Act}
theorem exec_build_im {w : World} (x y : Operand) (ho : op.op = .build 41 #[(0, x), (1, y)]) (z : Int) (p : Pg) (hx : a.eval x = .int .i64 z) (hy : a.eval y = .agg (pgA p)) : (execOp a.eval op).run Try.prog w = .ok (.value (.agg (imA ⟨z, p⟩))) w := by
  have h0 : (Instr.build 41 #[(0, .int .i64 z), (1, .agg (pgA p))]).run Try.prog w = .ok (.agg (imA ⟨z, p⟩)) w := by
    have hf := fill_im z p (imA ⟨0, zpg⟩) (imA_size _)
    obtain ⟨i, hi, hz0, _, _⟩ := im_info
    have s3 : (sizeOf 3).run Try.prog w = .ok 1 w := by go_simp
    have s39 : (sizeOf 39).run Try.prog w = .ok 224 w := by go_simp
    have hzv : (zeroValue 41).run Try.prog w = .ok (.agg (imA ⟨0, zpg⟩)) w := by simp [zeroValue, typeInfo, hi, hz0]
    have hc : (Value.agg (imA ⟨0, zpg⟩)).cells = imA ⟨0, zpg⟩ := rfl
    simp only [Instr.build, Sem.run_bind, hzv, Result.andThen_ok, run_underlying Try.underlying41, hc]
    simp [s3, s39, Result.andThen]
    have hf2 := hf
    simp only [List.getElem?_toArray] at hf2
    rw [hf2]
    rfl
  unfold execOp
  simp [ho, hx, hy, h0, Result.andThen]
theorem exec_cut2 {w : World} (x y z : Operand) (ho : op.op = .slice 27 x none (some y) (some z)) (A : Option Addr) (m n c : Nat) (hx : a.eval x = .slice A m c) (hy : a.eval y = .int .i64 (n : Int)) (hz : a.eval z = .int .i64 (n : Int)) (hc : n ≤ c) (hn : n ≤ 100000) :
    (execOp a.eval op).run Try.prog w = .ok (.value (.slice A n n)) w := by
  have h0 : (Instr.slice 27 (.slice A m c) none (some (.int .i64 (n : Int))) (some (.int .i64 (n : Int)))).run Try.prog w = .ok (.slice A n n) w := by
    rw [run_slice_hm w 27 A m c (by rw [show Try.prog.elem 27 = 52 from rfl]; exact Try.underlying27) .i64 .i64 (n : Int) (n : Int) (by omega) (by omega) (by omega)]
    have : (sizeOf (Try.prog.elem 27)).run Try.prog w = .ok 6 w := by go_simp
    rw [this]
    cases A with
    | none => simp [Result.andThen, sliced]
    | some b =>
      have e0 : b.add 0 = b := by unfold Addr.add; simp
      simp [Result.andThen, sliced, e0]
  have h1 : (Instr.sliceAt 27 (.slice A m c) none (some (.int .i64 (n : Int))) (some (.int .i64 (n : Int)))).run Try.prog w = .ok (.slice A n n) w := by
    rw [run_sliceAt_slice w 27 _ _ _ _ (by rw [show Try.prog.elem 27 = 52 from rfl]; exact Try.underlying27)]
    exact h0
  unfold execOp
  simp [ho, hx, hy, hz, h1, Result.andThen]
end
end Go.Proofs.Ytpffnjnncgmgnaa
