/-
  The example's mathematics.
  Conditions: none.
-/
import Derived.Test.YtpffnjnncgmgnaaB26
namespace Go.Proofs.Ytpffnjnncgmgnaa
open Go.RowKit
set_option maxRecDepth 20000

def rW (k : Nat) : Rc := ⟨k, 7, 0, 0, [118], decide ((k : Int) < 6)⟩
def rsW (k : Nat) : List Rc := (List.range k).map rW
theorem rsW_length (k : Nat) : (rsW k).length = k := by simp [rsW]
theorem addW (k : Nat) (h : k < 7) : addR 2 (rsW k) (rW k) = (rsW (k + 1), 0) := by
  match k, h with
  | 0, _ | 1, _ | 2, _ | 3, _ | 4, _ | 5, _ | 6, _ => rfl
theorem addW3 : addR 2 (rsW 7) ⟨3, 0, 0, 0, [], false⟩ = (rsW 7, 8) := rfl
def xW : Im := ⟨4, pageP 2 9 (chunk (rsW 7) 0)⟩
def yW : Im := ⟨9, pageP 2 0 (chunk (rsW 7) 1)⟩
theorem putW : putG 2 [4, 9] (rsW 7) = [xW, yW] := by
  unfold putG
  rw [if_pos (by rfl)]
  rfl
theorem okW : PutOk 2 [4, 9] (rsW 7) := (putOk_of (d := 2) (by rfl) (fun r hr => by
  obtain ⟨j, hj, rfl⟩ := List.mem_map.1 hr
  have := List.mem_range.1 hj
  exact ⟨⟨by show j < _; omega, by show 7 < _; omega, by show 0 < _; omega, by show 0 < _; omega⟩, by show 1 ≤ 15; omega⟩)).2
theorem rbX : rdOk xW.p = true ∧ rdDepth xW.p = 2 ∧ rdNext xW.p = 9 ∧ rdRecs xW.p = chunk (rsW 7) 0 := read_back 2 9 _ (chunk_fits okW 0) (by omega) (by omega)
theorem rbY : rdOk yW.p = true ∧ rdDepth yW.p = 2 ∧ rdNext yW.p = 0 ∧ rdRecs yW.p = chunk (rsW 7) 1 := read_back 2 0 _ (chunk_fits okW 1) (by omega) (by omega)
theorem fW4 : fW xW yW 4 = (xW.p, true) := rfl
theorem fW9 : fW xW yW 9 = (yW.p, true) := rfl
theorem gW1 : gN (fW xW yW) 4 1 = 9 := by
  show (rdNext (fW xW yW 4).1 : Int) = 9
  rw [fW4, rbX.2.2.1]
  rfl
theorem gW2 : gN (fW xW yW) 4 2 = 0 := by
  show (rdNext (fW xW yW (gN (fW xW yW) 4 1)).1 : Int) = 0
  rw [gW1, fW9, rbY.2.2.1]
  rfl
theorem fineW : fine (fW xW yW) 4 2 := fun j hj => by
  match j, hj with
  | 0, _ => exact ⟨by show (4 : Int) ≠ 0; omega, rfl, rbX.1⟩
  | 1, _ => rw [gW1, fW9]; exact ⟨by omega, rfl, rbY.1⟩
theorem gRsW : gRs (fW xW yW) 4 2 = rsW 7 := by
  rw [gRs_succ, gRs_succ]
  show ([] ++ rdRecs (fW xW yW 4).1) ++ rdRecs (fW xW yW (gN (fW xW yW) 4 1)).1 = _
  rw [gW1, fW9, fW4, rbX.2.2.2, rbY.2.2.2]
  rfl
theorem gPsW : gPs (fW xW yW) 4 2 = [4, 9] := by
  rw [gPs_succ, gPs_succ, gW1]
  rfl
theorem getW : GetAt (fW xW yW) 4 2 := by
  refine ⟨by omega, by rfl, fineW, gW2, ?_⟩
  rw [gRsW, gPsW, gIm_succ, gIm_succ, gW1, fW9]
  have e : gD (fW xW yW) 4 2 = 2 := by
    show (rdDepth (fW xW yW (gN (fW xW yW) 4 1)).1 : Int) = 2
    rw [gW1, fW9, rbY.2.1]
    rfl
  rw [e, putW]
  rfl
theorem zpg_no : rdOk zpg = false := by
  have hl : zpg.toList = List.replicate 224 0 := by unfold zpg; rw [padPg_toList [] (by simp)]; simp
  have hk : rdKind zpg = 0 := by
    unfold rdKind pS
    rw [hl, show List.replicate 224 (0 : UInt8) = 0 :: List.replicate 223 0 from rfl, vl_cons]
    rfl
  unfold rdOk
  rw [hk]
  rfl
theorem noW : ¬ ∃ m, GetAt (fun _ => (zpg, true)) 4 m := no_get (k := 0) (fun j hj => absurd hj (Nat.not_lt_zero _)) (by show (4 : Int) ≠ 0; omega) (.inr (.inl zpg_no))
theorem dropW : dropR (rsW 7) 0 = ((rsW 7).tail, true) := rfl
theorem markW : markR (rsW 7).tail 6 true = (ghostAt (rsW 7).tail 5 true, true) := rfl
theorem roomW : roomI 2 7 = 3 := rfl
theorem liveW : idxP (isLive 7) (rsW 7) = 6 := rfl
theorem liveW2 : idxP (isLive 7) (ghostAt (rsW 7).tail 5 true) = -1 := rfl
theorem findW : idxP (fun r => r.id == 6) (rsW 7).tail = 5 := rfl
/-- The fourth byte of the first page is five, the third one nine. -/
theorem bytesW : xW.p.toList.getD 3 0 = 5 ∧ xW.p.toList.getD 2 0 = 9 := by
  unfold xW
  rw [pageP_list _ _ _ (chunk_fits okW 0)]
  exact ⟨rfl, rfl⟩
end Go.Proofs.Ytpffnjnncgmgnaa
