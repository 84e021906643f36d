/-
  The walk of leaf.Put.
  Conditions: the page's cells are numbers.
-/
import Derived.Test.YtlanaplnhjdgcaaR
namespace Go.Proofs.Ytlanaplnhjdgcaa
open Go.RowKit

/-! ### Cuts of arrays -/
theorem alen22 : Try.prog.arrayLen 22 = 224 := by kernel_rfl
theorem alen45 : Try.prog.arrayLen 45 = 64 := by kernel_rfl
theorem elem22 : Try.prog.elem 22 = 5 := by kernel_rfl
theorem elem45 : Try.prog.elem 45 = 5 := by kernel_rfl
theorem und22 : Try.prog.underlying 22 = some (.array (Try.prog.arrayLen 22) (Try.prog.elem 22)) := by rw [alen22, elem22]; exact Try.underlying22
theorem und45 : Try.prog.underlying 45 = some (.array (Try.prog.arrayLen 45) (Try.prog.elem 45)) := by rw [alen45, elem45]; exact Try.underlying45
theorem exec_cut_all {op : Oper} {a : Act} {w : World} {g o : Nat} (x : Operand) (ho : op.op = .slice 45 x none none none) (hx : a.eval x = .pointer (some ⟨g, o, none⟩)) :
    (execOp a.eval op).run Try.prog w = .ok (.value (.slice (some ⟨g, o, none⟩) 64 64)) w := by
  unfold execOp
  simp [ho, hx, run_sliceAt_array_all (P := Try.prog) w 45 ⟨g, o, none⟩ und45, alen45, elem45, slicedAt, Addr.add]
theorem exec_cut_lh {op : Oper} {a : Act} {w : World} (x lo hi : Operand) (ho : op.op = .slice 22 x (some lo) (some hi) none) (g l h : Nat) (hx : a.eval x = .pointer (some ⟨g, 0, none⟩)) (hl : a.eval lo = .int .i64 (l : Int)) (hh : a.eval hi = .int .i64 (h : Int)) (h1 : h = l + 56) (h2 : h ≤ 224) :
    (execOp a.eval op).run Try.prog w = .ok (.value (.slice (some ⟨g, l, none⟩) 56 (224 - l))) w := by
  have := run_sliceAt_array_lh (P := Try.prog) w 22 ⟨g, 0, none⟩ und22 .i64 .i64 (l : Int) (h : Int) (by omega) (by omega) (by rw [alen22]; omega)
  unfold execOp
  simp [ho, hx, hl, hh, this, alen22, elem22, slicedAt, add_plain]
  exact ⟨by omega, by omega⟩
theorem own_some {w : World} {base : Nat} {e : TypeId} {size n c : Nat} {A : Option Addr} {xs : List Value} (h : w.ownsRow base e size (.slice A n c) n xs) (hn : 0 < n) : ∃ ad, A = some ad := by
  cases A with
  | some ad => exact ⟨ad, rfl⟩
  | none =>
    rcases h.2 with ⟨_, h0⟩ | ⟨g, cap, cur, hv, _⟩
    · omega
    · injection hv with hv
      cases hv

/-! ### Sectors as bytes -/
def byt : List Sect → List Int
  | [] => []
  | s :: r => s.toList ++ byt r
theorem byt_length : ∀ l : List Sect, (byt l).length = l.length * 64
  | [] => rfl
  | s :: r => by simp [byt, byt_length r]; omega
theorem byt_append : ∀ l m : List Sect, byt (l ++ m) = byt l ++ byt m
  | [], _ => rfl
  | s :: r, m => by simp [byt, byt_append r m]
theorem flat_byt : ∀ l : List Sect, flat l = CL (byt l)
  | [] => rfl
  | s :: r => by rw [flat, byt, CL_append, flat_byt r]; rfl
def PL (p : Pg) (n k : Nat) : List Sect := (puts p n).take k ++ List.replicate (4 - k) zsec
theorem PL_length (p : Pg) (n k : Nat) : (PL p n k).length = max 4 (min k 4 + (4 - k)) := by simp [PL, puts]; omega
theorem splice_mid {α : Type} (a z b m : List α) (h : z.length = m.length) : splice (a ++ (z ++ b)) a.length m = a ++ (m ++ b) := by
  unfold splice
  rw [List.take_left, ← h, ← List.length_append]
  conv => lhs; rhs; rhs; rw [← List.append_assoc, List.drop_left]
theorem PL_step (p : Pg) (n k : Nat) (h : k < 4) : splice (byt (PL p n k)) (k * 64) (layL p n k) = byt (PL p n (k + 1)) := by
  have hl : ((puts p n).take k).length = k := by simp [puts]; omega
  have e1 : (puts p n).take (k + 1) = (puts p n).take k ++ [lay p n k] := by
    rw [take_snoc (puts p n) k (by simp [puts]; omega)]
    congr 2
    rcases k with _ | _ | _ | _ | k <;> first | rfl | omega
  have := splice_mid (byt ((puts p n).take k)) zsec.toList (byt (List.replicate (3 - k) zsec)) (layL p n k) (by rw [layL_length p n k h, Vector.length_toList])
  rw [byt_length, hl] at this
  rw [PL, PL, show 4 - k = (3 - k) + 1 from by omega, List.replicate_succ, byt_append, byt, this, e1, byt_append, byt_append, byt, byt, lay_toList p n k h, show 4 - (k + 1) = 3 - k from by omega]
  simp
theorem PL_four (p : Pg) (n : Nat) : PL p n 4 = puts p n := by simp [PL, puts]
theorem below_drew {B : Nat} {a w : World} (h : Below B a w) : Below B a w.drew := ⟨h.os, h.tape, h.output, h.size, h.block⟩
theorem RowAt.drew {w : World} {g : Nat} {t : TypeId} {L : List Int} (h : RowAt w g t L) : RowAt w.drew g t L := h

set_option maxRecDepth 8000 in
set_option maxHeartbeats 800000 in
theorem put_any (p : Pg) (n : Nat) (w : World) : Calls Try.prog 7 #[.agg (pgA p), .int .u64 n] w (RetS w (puts p n)) := by
  have hmk : ∀ w : World, (Instr.makeSlice 24 (.int .i64 4) (.int .i64 4)).run Try.prog w = .ok (.slice (some ⟨w.heap.size, 0, none⟩) 4 4) (w.alloc (.cells (flat (List.replicate 4 zsec)).toArray 45)) := make_any 4 (by omega)
  have R0 := Lib.hid ((row_pg w p).alloc (.cells (flat (List.replicate 4 zsec)).toArray 45))
  have RL : RowAt ((w.alloc (.cells (pgA p) 22)).alloc (.cells (flat (List.replicate 4 zsec)).toArray 45)) (w.heap.size + 1) 45 (byt (PL p n 0)) := by
    have := RowAt.new (w.alloc (.cells (pgA p) 22)) 45 (byt (List.replicate 4 zsec))
    rw [← flat_byt, show (w.alloc (.cells (pgA p) 22)).heap.size = w.heap.size + 1 by simp] at this
    exact this
  have B1 := Lib.hid (((Below.refl w.heap.size w).alloc (Nat.le_refl _) (.cells (pgA p) 22)).alloc (by simp) (.cells (flat (List.replicate 4 zsec)).toArray 45))
  have RLH := Lib.hid RL
  clear RL
  go_enter Try.func7, Try.ntmps7
  go_wp2_with fail
  go_loopw [10] (fun i wr => ∃ k : Nat, k ≤ 4 ∧ i = .int .i64 k ∧ Hid (RowAt wr (w.heap.size + 1) 45 (byt (PL p n k))) ∧ Hid (RowAt wr w.heap.size 22 p.toList) ∧ Hid (Below w.heap.size w wr)) (fun i _ => 4 - (intOf i).toNat)
  case atStart => exact ⟨0, Nat.zero_le _, rfl, RLH, R0, B1⟩
  case round =>
    obtain ⟨k, hk, rfl, hR, hP, hB⟩ := hrel
    by_cases hlt : k < 4
    · go_wp2_with fail
      obtain ⟨lo, hlo⟩ : ∃ lo, lo = k * 56 := ⟨_, rfl⟩
      obtain ⟨hi, hhi⟩ : ∃ hi, hi = lo + 56 := ⟨_, rfl⟩
      have HLL := Lib.hid (layL_length p n k hlt)
      have WP : Hid (Calls Try.prog 21 #[.slice (some ⟨w.heap.size, lo, none⟩) 56 (224 - lo), .int .u64 n, .int .i64 8] wr.drew (RetB wr.drew (layL p n k))) := by
        show Calls _ _ _ _ _
        have := wput_any (fun _ => False) 56 (224 - lo) n _ _ wr.drew (hP.out.drew.lz (fun h => h) lo 56 (by rw [Vector.length_toList]; omega)) (by omega)
        rw [hlo] at this ⊢
        exact this
      have HLO := Lib.hid hlo
      have HHI := Lib.hid hhi
      clear hlo hhi
      refine wp_region_held_drew (S := fun _ => True) (by kernel_rfl) trivial (fun hS => ?_)
      refine takeH (i := 0) (d := 13) (v := ?vp0) rfl (by kernel_rfl) (by kernel_rfl) (by kernel_rfl) (fun _ _ _ h => h) rfl (by rfl) ?yp0 hS ?rp0
      case yp0 => (intro wz hz; go_simp <;> with_reducible rfl)
      simp only [List.setIfInBounds_toArray, List.set_cons_zero, List.set_cons_succ]
      refine takeH (i := 1) (d := 14) (v := ?vp1) rfl (by kernel_rfl) (by kernel_rfl) (by kernel_rfl) (fun _ _ _ h => h) rfl (by rfl) ?yp1 hS ?rp1
      case yp1 => (intro wz hz; go_simp <;> with_reducible rfl)
      simp only [List.setIfInBounds_toArray, List.set_cons_zero, List.set_cons_succ]
      refine takeH (i := 2) (d := 15) (v := .pointer (some ⟨w.heap.size + 1, k * 64, none⟩)) rfl (by kernel_rfl) (by kernel_rfl) (by kernel_rfl) (fun _ _ _ h => h) rfl (by rfl) ?yp2 hS ?rp2
      case yp2 => (intro wz hz; go_simp <;> (first | done | with_reducible rfl))
      simp only [List.setIfInBounds_toArray, List.set_cons_zero, List.set_cons_succ]
      refine takeH (i := 3) (d := 16) (v := .slice (some ⟨w.heap.size + 1, k * 64, none⟩) 64 64) rfl (by kernel_rfl) (by kernel_rfl) (by kernel_rfl) (fun _ _ _ h => h) rfl (by rfl) ?yp3 hS ?rp3
      case yp3 => (intro wz hz; exact exec_cut_all (.tmp 15) rfl rfl)
      simp only [List.setIfInBounds_toArray, List.set_cons_zero, List.set_cons_succ]
      refine takeH (i := 4) (d := 17) (v := ?vp4) rfl (by kernel_rfl) (by kernel_rfl) (by kernel_rfl) (fun _ _ _ h => h) rfl (by rfl) ?yp4 hS ?rp4
      case yp4 => (intro wz hz; go_simp <;> with_reducible rfl)
      simp only [List.setIfInBounds_toArray, List.set_cons_zero, List.set_cons_succ]
      refine takeH (i := 5) (d := 18) (v := .int .i64 (lo : Int)) rfl (by kernel_rfl) (by kernel_rfl) (by kernel_rfl) (fun _ _ _ h => h) rfl (by rfl) ?yp5 hS ?rp5
      case yp5 => (intro wz hz; have e1 := HLO.out; have e2 := HHI.out; clear HLO HHI; go_simp <;> (first | done | omega | (rw [IntKind.wrap_i64]; omega)))
      simp only [List.setIfInBounds_toArray, List.set_cons_zero, List.set_cons_succ]
      refine takeH (i := 6) (d := 19) (v := ?vp6) rfl (by kernel_rfl) (by kernel_rfl) (by kernel_rfl) (fun _ _ _ h => h) rfl (by rfl) ?yp6 hS ?rp6
      case yp6 => (intro wz hz; go_simp <;> with_reducible rfl)
      simp only [List.setIfInBounds_toArray, List.set_cons_zero, List.set_cons_succ]
      refine takeH (i := 7) (d := 20) (v := .int .i64 ((k + 1 : Nat) : Int)) rfl (by kernel_rfl) (by kernel_rfl) (by kernel_rfl) (fun _ _ _ h => h) rfl (by rfl) ?yp7 hS ?rp7
      case yp7 => (intro wz hz; have e1 := HLO.out; have e2 := HHI.out; clear HLO HHI; go_simp <;> (first | done | omega | (rw [IntKind.wrap_i64]; omega)))
      simp only [List.setIfInBounds_toArray, List.set_cons_zero, List.set_cons_succ]
      refine takeH (i := 8) (d := 21) (v := .int .i64 (hi : Int)) rfl (by kernel_rfl) (by kernel_rfl) (by kernel_rfl) (fun _ _ _ h => h) rfl (by rfl) ?yp8 hS ?rp8
      case yp8 => (intro wz hz; have e1 := HLO.out; have e2 := HHI.out; clear HLO HHI; go_simp <;> (first | done | omega | (rw [IntKind.wrap_i64]; omega)))
      simp only [List.setIfInBounds_toArray, List.set_cons_zero, List.set_cons_succ]
      refine takeH (i := 9) (d := 22) (v := .slice (some ⟨w.heap.size, lo, none⟩) 56 (224 - lo)) rfl (by kernel_rfl) (by kernel_rfl) (by kernel_rfl) (fun _ _ _ h => h) rfl (by rfl) ?yp9 hS ?rp9
      case yp9 => (intro wz hz; exact exec_cut_lh (.tmp 2) (.tmp 18) (.tmp 21) rfl w.heap.size lo hi rfl rfl rfl (by have := HHI.out; omega) (by have := HHI.out; have := HLO.out; omega))
      simp only [List.setIfInBounds_toArray, List.set_cons_zero, List.set_cons_succ]
      refine takeH (i := 10) (d := 23) (v := ?vp10) rfl (by kernel_rfl) (by kernel_rfl) (by kernel_rfl) (fun _ _ _ h => h) rfl (by rfl) ?yp10 hS ?rp10
      case yp10 => (intro wz hz; go_simp <;> with_reducible rfl)
      simp only [List.setIfInBounds_toArray, List.set_cons_zero, List.set_cons_succ]
      refine wpAnyH_ready (rs := [11]) (by kernel_rfl) (by simp) ?_
      refine AllReadyH.cons rfl (fun K hK => ?_) AllReadyH.nil
      go_simp
      refine (WP.out).mono ?_
      rintro e w1 ⟨A1, c1, rfl, ho, hb⟩
      rw [HLL.out] at ho ⊢
      obtain ⟨ad, rfl⟩ := own_some ho (by omega)
      have HO := Lib.hid ho
      have HB := Lib.hid hb
      clear ho hb
      refine hK.out _ _ (trivial) (fun hT => ?_)
      clear hK  hS
      have hS := hT
      clear hT
      refine wpAnyH_ready (rs := [12]) (by kernel_rfl) (by simp) ?_
      refine AllReadyH.cons rfl (fun K hK => ?_) AllReadyH.nil
      rw [if_pos (by rfl)]
      refine wp_copyB 25 (.tmp 16) (.tmp 24) rfl rfl (w.heap.size + 1) (k * 64) 64 64 64 c1 ad (layL p n k) (byt (PL p n k)) 45 rfl rfl (hR.out.drew.below HB.out) (by rw [HLL.out]; rfl) (Lz.of_own (X := fun _ => False) HO.out (fun _ h => h.elim)).cells (by rw [HLL.out, byt_length, PL_length]; omega) ?_
      intro w2 hr2 hm2
      rw [PL_step p n k hlt] at hr2
      have R2 := Lib.hid hr2
      have M2 := Lib.hid hm2
      clear hr2 hm2
      refine hK.out _ _ (trivial) (fun hT => ?_)
      clear hK  hS
      have hS := hT
      clear hT
      refine wpAnyH_done (by kernel_rfl) ?_ _
      go_wp2_with fail
      refine ⟨⟨k + 1, by omega, by go_num, R2, ?_, ?_⟩, by simp [intOf]; omega⟩
      · exact (hP.out.drew.below HB.out).kept M2.out (by show ¬ w.heap.size = w.heap.size + 1; omega)
      · have h1 : Below w.heap.size w w1 := (below_drew hB.out).trans (HB.out.mono hB.out.size)
        exact M2.out.below h1 (fun q hq => by omega) h1.size
    · obtain rfl : k = 4 := by omega
      go_wp2_with fail
      go_ret
      have hr := hR.out
      rw [PL_four] at hr
      refine RetS.mk (n := 4) ?_ hB.out
      refine ⟨by rw [flat_length]; rfl, .inr ⟨w.heap.size + 1, 4, _, rfl, by omega, hr, by omega, by simp [maxLen], by rw [List.size_toArray, CL_length, byt_length]; rfl, ?_⟩⟩
      rw [flat_byt]
      exact List.take_of_length_le (by rw [CL_length, byt_length]; exact Nat.le_refl _)
end Go.Proofs.Ytlanaplnhjdgcaa
