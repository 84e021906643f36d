/-
  Walks: the deferred closure of ReadRec, and ReadRec.
  Conditions: readers over at most 10000 bytes.
-/
import Derived.Test.YtpffnjnncgmgnaaA1
import Derived.Test.YtpffnjnncgmgnaaS0
import Derived.Defers
namespace Go.Proofs.Ytpffnjnncgmgnaa
open Go.RowKit
set_option maxRecDepth 8000

def rcL (r : Rc) : List Value := [.int .u64 (r.id : Nat), .int .u64 (r.key : Nat), .int .u32 (r.x : Nat), .int .u32 (r.y : Nat), .string (strOf r.val), .bool r.ghost]

theorem pair_one (x y : Value) (hx : x.oneCell' = true) (hy : y.oneCell' = true) : (#[x, y] : Array Value).all (·.oneCell') = true := by simp [hx, hy]

theorem rc_one (r : Rc) : (#[.int .u64 (r.id : Nat), .int .u64 (r.key : Nat), .int .u32 (r.x : Nat), .int .u32 (r.y : Nat), .string (strOf r.val), .bool r.ghost] : Array Value).all (·.oneCell') = true :=
  all_oneCell_toArray (cs := rcL r) (by intro v hv; simp only [rcL, List.mem_cons, List.not_mem_nil, or_false] at hv; rcases hv with rfl | rfl | rfl | rfl | rfl | rfl <;> rfl)

theorem clo_yes (ok bef rec rp : Nat) (u : FrameMode) (w : World) (h : w.cell? ⟨ok, 0, none⟩ = some (.bool true)) :
    CallsD Try.prog 64 #[.pointer (some ⟨ok, 0, none⟩), .pointer (some ⟨bef, 0, none⟩), .pointer (some ⟨rec, 0, none⟩), .pointer (some ⟨rp, 0, none⟩)] u w fun e u' w' => u' = u ∧ (e = .returned (.tuple #[]) ∧ w' = w) := by
  go_enter_d Try.func64, Try.ntmps64
  go_wp2
  go_end0
  exact ⟨rfl, rfl⟩

/-- What the closure leaves: the record zero, the reader as it was. -/
def Undid (w : World) (rec g : Nat) (cs : Array Value) (w' : World) : Prop :=
  At w' rec 52 #[.int .u64 (zrc.id : Nat), .int .u64 (zrc.key : Nat), .int .u32 (zrc.x : Nat), .int .u32 (zrc.y : Nat), .string (strOf zrc.val), .bool zrc.ghost] ∧ At w' g 99 cs ∧ (∀ k, k < w.heap.size → k ≠ rec → k ≠ g → w'.heap[k]? = w.heap[k]?) ∧ w'.os = w.os ∧ w'.tape = w.tape ∧ w'.output = w.output ∧ w.heap.size ≤ w'.heap.size

set_option maxHeartbeats 800000 in
theorem clo_no (ok bef rec rp g : Nat) (u : FrameMode) (w : World) (v b : Value) (old old2 : Array Value) (h : w.cell? ⟨ok, 0, none⟩ = some (.bool false)) (hr : w.cell? ⟨rp, 0, none⟩ = some (.pointer (some ⟨g, 0, none⟩)))
    (hb : At w bef 99 #[v, b]) (hv : v.oneCell' = true) (hv2 : b.oneCell' = true) (hrec : At w rec 52 old) (hg : At w g 99 old2) (ho : old.size = 6) (ho2 : old2.size = 2) (hne : rec ≠ g) :
    CallsD Try.prog 64 #[.pointer (some ⟨ok, 0, none⟩), .pointer (some ⟨bef, 0, none⟩), .pointer (some ⟨rec, 0, none⟩), .pointer (some ⟨rp, 0, none⟩)] u w fun e u' w' => u' = u ∧ (e = .returned (.tuple #[]) ∧ Undid w rec g #[v, b] w') := by
  have HB := Lib.hid hb
  have HR := Lib.hid hrec
  have HG := Lib.hid hg
  clear hb hrec hg
  go_enter_d Try.func64, Try.ntmps64
  go_wp2_with (first
    | refine wpList_load_at 99 8 (.tmp 1) rfl rfl rfl bef rfl #[v, b] 2 str69 rfl HB.out ?_
    | (refine wpList_store_at 52 (.tmp 2) (.tmp 7) rfl rfl rfl rec rfl #[.int .u64 (zrc.id : Nat), .int .u64 (zrc.key : Nat), .int .u32 (zrc.x : Nat), .int .u32 (zrc.y : Nat), .string (strOf zrc.val), .bool zrc.ghost] old 6 rfl str25 rfl ho (rc_one _) HR.out ?_
       intro w1 h1 g1
       have H1 := Lib.hid h1
       have G1 := Lib.hid (HG.out.grown g1 (by intro e; injection e with e; exact hne e.symm))
       clear h1)
    | (refine wpList_store_at 99 (.tmp 9) (.tmp 8) rfl rfl rfl g rfl #[v, b] old2 2 rfl str69 rfl ho2 (pair_one v b hv hv2) G1.out ?_
       intro w2 h2 g2))
  go_end0
  refine ⟨rfl, H1.out.grown g2 (by intro e; injection e with e; exact hne e), h2, fun k hk h3 h4 => ?_, g2.os.trans g1.os, g2.tape.trans g1.tape, g2.output.trans g1.output, Nat.le_trans g1.size g2.size⟩
  rw [g2.block k (by have := g1.size; omega) (by intro e; injection e with e; exact h4 e), g1.block k hk (by intro e; injection e with e; exact h3 e)]
end Go.Proofs.Ytpffnjnncgmgnaa
