/-
  What Put needs: an image built of its number and its page; a slice cut; a slice of one image; append of an image.
  Conditions: none beyond those that each theorem names.
-/
import Derived.Test.YtgjkbnplpioloaaB16
namespace Go.Proofs.Ytgjkbnplpioloaa
open Go.RowKit
attribute [local go_sem] Oper.semAt_some
set_option maxRecDepth 20000

theorem put_from (o : Nat) : ∀ (l : List Value) (k : Nat) (Z : Array Value) (i : Nat), o + k + l.length ≤ Z.size →
    ((l.zipIdx k).foldl (fun cs (p : Value × Nat) => cs.setIfInBounds (o + p.2) p.1) Z)[i]? = if o + k ≤ i ∧ i < o + k + l.length then l[i - (o + k)]? else Z[i]?
  | [], k, Z, i, _ => by simp; omega
  | v :: r, k, Z, i, h => by
    rw [List.zipIdx_cons, List.foldl_cons, put_from o r (k + 1) _ i (by simp at h ⊢; omega)]
    simp only [List.length_cons] at h ⊢
    by_cases h1 : o + (k + 1) ≤ i ∧ i < o + (k + 1) + r.length
    · rw [if_pos h1, if_pos (by omega), show i - (o + k) = (i - (o + (k + 1))) + 1 from by omega, List.getElem?_cons_succ]
    · rw [if_neg h1, Array.getElem?_setIfInBounds]
      by_cases h2 : o + k = i
      · subst h2
        rw [if_pos rfl, if_pos (by omega), if_pos (by omega)]
        simp
      · rw [if_neg (by omega), if_neg (by omega)]
theorem fill_im (z : Int) (p : Pg) (Z : Array Value) (hZ : Z.size = 225) : Instr.fill ((#[(0, 1), (1, 224)] : Array (Nat × Nat))[·]?) Z [(0, .int .i64 z), (1, .agg (pgA p))] = some (imA ⟨z, p⟩) := by
  have hp := pgA_size p
  have h1 : (Value.agg (pgA p)).cells = pgA p := rfl
  have h0 : (Value.int .i64 z).cells = #[.int .i64 z] := rfl
  simp [Instr.fill, h0, h1, hp, hZ]
  have hz : (pgA p).zipIdx.size = 224 := by simp [hp]
  rw [← hz, ← Array.foldl_toList, Array.toList_zipIdx]
  apply Array.ext_getElem?
  intro i
  rw [put_from 1 (pgA p).toList 0 _ i (by simp [hp, hZ])]
  have hl : (pgA p).toList.length = 224 := by simp [hp]
  have he : (imA ⟨z, p⟩)[i]? = (Value.int .i64 z :: (pgA p).toList)[i]? := by simp [imA, imL, pgA]
  rw [he, hl]
  rcases Nat.eq_zero_or_pos i with h | h
  · subst h
    rw [if_neg (by omega), Array.getElem?_setIfInBounds]
    simp [hZ]
  · obtain ⟨j, rfl⟩ : ∃ j, i = j + 1 := ⟨i - 1, by omega⟩
    rw [List.getElem?_cons_succ]
    by_cases hj : j < 224
    · rw [if_pos (by omega)]
      congr 1
    · rw [if_neg (by omega), Array.getElem?_eq_none (by simp [hZ]; omega), List.getElem?_eq_none (by omega)]
theorem im_info : ∃ i, Try.prog.info? 64 = some i ∧ i.zero = some (.agg (imA ⟨0, zpg⟩)) ∧ i.size = 225 ∧ i.bytes = 232 := ⟨_, rfl, by kernel_rfl, by kernel_rfl, by kernel_rfl⟩
theorem im_zero : (Try.prog.info? 64).map (fun i => (i.zero, i.size)) = some (some (.agg (imA ⟨0, zpg⟩)), 225) := by kernel_rfl
section
variable {op : Oper} {a : Act}
theorem exec_build_im {w : World} (x y : Operand) (ho : op.op = .build 64 #[(0, x), (1, y)]) (z : Int) (p : Pg) (hx : a.eval x = .int .i64 z) (hy : a.eval y = .agg (pgA p)) : (execOp a.eval op).run Try.prog w = .ok (.value (.agg (imA ⟨z, p⟩))) w := by
  have h0 : (Instr.build 64 #[(0, .int .i64 z), (1, .agg (pgA p))]).run Try.prog w = .ok (.agg (imA ⟨z, p⟩)) w := by
    have hf := fill_im z p (imA ⟨0, zpg⟩) (imA_size _)
    obtain ⟨i, hi, hz0, _, _⟩ := im_info
    have s3 : (sizeOf 3).run Try.prog w = .ok 1 w := by go_simp
    have s39 : (sizeOf 62).run Try.prog w = .ok 224 w := by go_simp
    have hzv : (zeroValue 64).run Try.prog w = .ok (.agg (imA ⟨0, zpg⟩)) w := by simp [zeroValue, typeInfo, hi, hz0]
    have hc : (Value.agg (imA ⟨0, zpg⟩)).cells = imA ⟨0, zpg⟩ := rfl
    simp only [Instr.build, Sem.run_bind, hzv, Result.andThen_ok, run_underlying Try.underlying64, hc]
    simp [s3, s39, Result.andThen]
    have hf2 := hf
    simp only [List.getElem?_toArray] at hf2
    rw [hf2]
    rfl
  unfold execOp
  simp [ho, hx, hy, h0, Result.andThen]
end
/-- A slice of pages. -/
structure LI (w : World) (B : Nat) (A : Option Addr) (n : Nat) (l : List Im) : Prop where
  len : l.length = n
  spot : 0 < n → ∃ b o, A = some ⟨b, o, none⟩ ∧ b < B ∧ w.rangeAt b o (flatI l)
section
variable {w w' : World} {B B' n : Nat} {A : Option Addr} {l : List Im}
theorem LI.empty : LI w B A 0 [] := ⟨rfl, fun h => absurd h (Nat.lt_irrefl 0)⟩
theorem LI.under (h : LI w B A n l) (hb : Below B w w') : LI w' B A n l := by
  refine ⟨h.len, fun hn => ?_⟩
  obtain ⟨b, o, ha, hlt, hr⟩ := h.spot hn
  exact ⟨b, o, ha, hlt, rangeAt_block hr (hb.block b hlt)⟩
theorem LI.up (h : LI w B A n l) (hB : B ≤ B') : LI w B' A n l := by
  refine ⟨h.len, fun hn => ?_⟩
  obtain ⟨b, o, ha, hlt, hr⟩ := h.spot hn
  exact ⟨b, o, ha, Nat.lt_of_lt_of_le hlt hB, hr⟩
theorem LI.drewN (h : LI w B A n l) (k : Nat) : LI (w.drewN k) B A n l := h.under ⟨rfl, rfl, rfl, Nat.le_refl _, fun _ _ => rfl⟩
theorem LI.alloc (h : LI w B A n l) (hB : B ≤ w.heap.size) (o : Obj) : LI (w.alloc o) B A n l := h.under ((Below.refl B w).alloc hB o)
theorem LI.at {k : Nat} (h : LI w B A n l) (hk : k < n) : ∃ b o, ∃ hl : k < l.length, A = some ⟨b, o, none⟩ ∧ b < B ∧ w.rangeAt b (o + k * 225) (imL (l[k]'hl)) := by
  obtain ⟨b, o, ha, hlt, hr⟩ := h.spot (by omega)
  have hl : k < l.length := by rw [h.len]; exact hk
  exact ⟨b, o, hl, ha, hlt, flatI_range hr hl⟩
theorem LI.of_own {base c : Nat} (h : w.ownsRow base 64 225 (.slice A n c) n (flatI l)) : LI w w.heap.size A n l := by
  have hl : l.length = n := by have := h.1; rw [flatI_length] at this; omega
  refine ⟨hl, fun hn => ?_⟩
  have hc := @World.ownsRow.cells w base 64 225 (.slice A n c) n (flatI l) h
  rcases h.2 with ⟨_, h0⟩ | ⟨g, cap, cur, hv, hb, hg, _⟩
  · omega
  · injection hv with hA
    subst hA
    refine ⟨g, 0, rfl, (Array.getElem?_eq_some_iff.1 hg).1, fun j u hu => ?_⟩
    have := hc rfl j u hu
    rwa [Addr.add_mid] at this
end
end Go.Proofs.Ytgjkbnplpioloaa
