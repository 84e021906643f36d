/-
  The example's mathematics.
  Conditions: none.
-/
import Derived.Test.YtgjkbnplpioloaaX7
namespace Go.Proofs.Ytgjkbnplpioloaa
open Go.RowKit
set_option maxRecDepth 20000

def bW : Bx := ⟨0, 1, 3, 2⟩
def loW : Bx := ⟨0, 1, 1, 2⟩
def hiW : Bx := ⟨1, 1, 3, 2⟩
theorem rtW : RtX bW := ⟨by decide, by decide, by decide, by decide, by decide, by decide⟩
theorem halvesW : halvesX bW = (loW, hiW, true) := by rfl
theorem joinW : joinX loW hiW = (bW, true) := by rfl
def pW : Rc := ⟨1, 2, 3, 4⟩
theorem addW : addR 1 [] pW = ([pW], 0) := by rfl
theorem addW2 : addR 1 [pW] pW = ([pW], 8) := by rfl
theorem dropW : dropR [pW] pW = ([], true) := by rfl
theorem okW : ∀ r ∈ [pW], r.ok := fun r hr => by
  obtain rfl := List.mem_singleton.1 hr
  exact ⟨by decide, by decide, by decide, by decide⟩
def xW : Im := ⟨7, pageP 0 (chunk [pW] 0)⟩
theorem putW : putG [7] [pW] = [xW] := by
  unfold putG
  rw [if_pos (by rfl)]
  rfl
theorem pokW : PutOk [7] [pW] := putOk_of (by rfl) okW
theorem rbW : rdOk xW.p = true ∧ rdNext xW.p = 0 ∧ rdRecs xW.p = chunk [pW] 0 := read_back 0 _ (chunk_fits pokW 0) (by omega)
def fW (n : Int) : Pg × Bool := (xW.p, decide (n = 7))
theorem gW1 : gN fW 7 1 = 0 := by
  show (rdNext (fW 7).1 : Int) = 0
  rw [show (fW 7).1 = xW.p from rfl, rbW.2.1]
  rfl
theorem fineW : fine fW 7 1 := fun j hj => by
  obtain rfl : j = 0 := by omega
  exact ⟨by show (7 : Int) ≠ 0; omega, rfl, rbW.1⟩
theorem gRsW : gRs fW 7 1 = [pW] := by
  rw [gRs_succ]
  show [] ++ rdRecs (fW 7).1 = _
  rw [show (fW 7).1 = xW.p from rfl, rbW.2.2]
  rfl
theorem gPsW : gPs fW 7 1 = [7] := by
  rw [gPs_succ]
  rfl
theorem getW : GetAt fW 7 1 := by
  refine ⟨by omega, by rfl, fineW, gW1, ?_⟩
  rw [gRsW, gPsW, gIm_succ, putW]
  rfl
theorem zpg_no : rdOk zpg = false := by
  have hl : zpg.toList = List.replicate 224 0 := by unfold zpg; rw [padPg_toList [] (by simp)]; simp
  have hk : rdKind zpg = 0 := by
    unfold rdKind pS
    rw [hl, show List.replicate 224 (0 : UInt8) = 0 :: List.replicate 223 0 from rfl, vl_cons]
    rfl
  unfold rdOk
  rw [hk]
  rfl
theorem noW : ¬ ∃ m, GetAt (fun _ => (zpg, true)) 7 m := no_get (k := 0) (fun j hj => absurd hj (Nat.not_lt_zero _)) (by show (7 : Int) ≠ 0; omega) (.inr (.inl zpg_no))
theorem has1W : hasX bW 2 1 = true := by rfl
theorem has2W : hasX bW 3 1 = false := by rfl
theorem cellsW : cellsX bW = 3 := by rfl
theorem rightW : rightX bW = true := by rfl
theorem room7W : roomI 1 0 = 8 := by rfl
theorem room8W : roomI 1 1 = 7 := by rfl
/-- The first byte of the page is 82, the third one 1. -/
theorem bytesW : xW.p.toList.getD 0 0 = 82 ∧ xW.p.toList.getD 2 0 = 1 := by
  unfold xW
  rw [pageP_list _ _ (chunk_fits pokW 0)]
  exact ⟨rfl, rfl⟩
end Go.Proofs.Ytgjkbnplpioloaa
