/-
  A region that draws its order within a round of a range over a function; slices.Chunk and the iterator that it makes: the shares of some bytes, in their order.
  Conditions: at most 10000 bytes, shares of 54.
-/
import Derived.Test.YthicidpdgggbjaaDoorK1Q
import Derived.Deep.RegionHeld
import Derived.RangeFuncNested
import Derived.RangeFuncBound
import Derived.RangeFuncCalls
import Derived.RangeFuncLeaves
import Derived.OrdersIn
import Derived.Shelf.Abstract
import Derived.Shelf.RegionOpen
import Derived.OwnWalkIn
import Derived.TacticsInMore
import Derived.LoopNIn
import Derived.LoopIn
import Derived.Sort.CutIn
namespace Go.Proofs.YthicidpdgggbjaaDoor
open Go.RowKit Go.Shelf
attribute [local go_sem] Oper.semAt_some
set_option maxRecDepth 8000

section
variable {P : Program} {ops : Array Oper} {Q : Exit → Act → World → Prop} {md : Region.Mode} {S : World → Prop}
/-- No operation of the region is a 'defer' statement. -/
def noDefer (ops : Array Oper) : Bool := ops.all fun o => match o.op with | .defer _ => false | _ => true
theorem noDefer_spec (h : noDefer ops = true) {o : Oper} (ho : o ∈ ops) : ∀ c, o.op ≠ .defer c := by
  have := Array.all_eq_true_iff_forall_mem.1 h o ho
  intro c hc
  rw [hc] at this
  cases this
theorem rowsIn_wide {n l : Nat} {row : String} {args : Array Value} {w : World} {R : Value → World → Prop} (h : Rows P row args w R) : RowsIn (Fence.wide.inRound l) n P row args w R :=
  fun c cs _ => let ⟨v, w', r, s⟩ := h c cs; ⟨v, w', r, stepsIn_wide.2 s⟩

/-- What holds of an operation outside holds of it within a round. -/
theorem opIn {l n i : Nat} (hd : noDefer ops = true) (hQ : ¬ LetsOut Q) {K : Act → World → Prop} {a : Act} {w : World} (h : wpOp P ops Q i K a w) : wpOpIn (Fence.wide.inRound l) n P ops Q i K a w := by
  unfold wpOp at h
  unfold wpOpIn
  cases ho : ops[i]? with
  | none => simpa [ho] using h
  | some o =>
    have hm : o ∈ ops := Array.mem_of_getElem? ho
    simp only [ho] at h ⊢
    split
    · rename_i hw
      simp only [hw, if_true] at h
      rcases h with h | ⟨_, hl⟩
      · refine ⟨fun _ _ => trivial, ?_⟩
        show o.uponIn _ _ _ _ _ _ ((o.semAt (some l) a.eval).run P w)
        rw [Oper.semAt_eq _ _ _ (noDefer_spec hd hm)]
        unfold Oper.wp at h
        generalize (execOp a.eval o).run P w = r at *
        cases r with
        | ok x w' =>
          cases x <;> simp only [Oper.upon, Oper.uponIn] at h ⊢
          case value u => exact h
          case skip => exact h
          case defer d => exact h
          case enter f args => exact ⟨(fun h => by cases h), CallsIn.inRound l (callsIn_wide.2 h)⟩
          case row row args => exact ⟨(fun h => by cases h), rowsIn_wide h⟩
        | halt x w' => cases x <;> simp only [Oper.upon, Oper.uponIn] at h ⊢ <;> exact h
      · exact absurd hl hQ
    · rename_i hw
      simp only [hw] at h
      exact ⟨fun _ _ => trivial, h⟩
theorem anyIn {l n : Nat} (hd : noDefer ops = true) (hQ : ¬ LetsOut Q) : ∀ (fuel : Nat) (listed : Array Bool) (a : Act) (w : World), wpAny P md ops Q fuel listed a w → wpAnyIn (Fence.wide.inRound l) n P md ops Q fuel listed a w
  | 0, _, _, _, h => h
  | fuel + 1, _, _, _, h => ⟨h.1, fun i hi => wpOpIn_mono (fun a' w' h' => anyIn hd hQ fuel _ a' w' h') (opIn hd hQ (h.2 i hi))⟩
theorem only_not : ¬ LetsOut (Only Q) := fun ⟨_, _, h⟩ => h
/-- A region that draws its order, within a round: by the laws of one outside. -/
theorem region_round {id l n : Nat} {a : Act} {w : World} (hm : P.follows .mixedOrders = true) (hd : noDefer ops = true) (hS : S w.drew)
    (h : S w.drew → wpAnyH P .any ops (Only Q) S ops.size (Array.replicate ops.size false) a w.drew) : (Code.region id ops true).wpIn (Fence.wide.inRound l) n P Q a w :=
  wpIn_mono (wpIn_region_any hm (anyIn hd only_not _ _ _ _ (wpAny_of_held _ _ _ _ (h hS)))) only_up
/-- The same outside a round, in the walk inside a fence. -/
theorem region_wide {id n : Nat} {a : Act} {w : World} (hm : P.follows .mixedOrders = true) (hS : S w.drew)
    (h : S w.drew → wpAnyH P .any ops (Only Q) S ops.size (Array.replicate ops.size false) a w.drew) : (Code.region id ops true).wpIn Fence.wide n P Q a w :=
  wpIn_mono (wpIn_wide.2 (wp_region_held_drew hm hS h)) only_up
end

theorem sectorOf_any (f l : Bool) (B n c m : Nat) (A : Option Addr) (sh : List UInt8) (w : World) (h : Lies w B 1 A n (BC sh)) (hB : B ≤ w.heap.size) (hn : n ≤ 54) (hm : m < 18446744073709551616) :
    Calls Tryd.prog 42 #[.slice A n c, .int .u64 m, .bool f, .bool l] w fun e w' => e = .returned (.agg (secA (secOf sh m f l))) ∧ Below w.heap.size w w' := by
  cases f <;> cases l
  · exact sectorOf_ff B n c m A sh w h hB hn hm
  · exact sectorOf_ft B n c m A sh w h hB hn hm
  · exact sectorOf_tf B n c m A sh w h hB hn hm
  · exact sectorOf_tt B n c m A sh w h hB hn hm

theorem wcall {P : Program} {f : FuncId} {args : Array Value} {w : World} {R : Ending → World → Prop} {n m : Nat} (h : Calls P f args w R) :
    Fence.wide.fn f ∧ (Fence.wide.depth.isSome = true → 1 ≤ n) ∧ CallsIn Fence.wide m P f args w R := ⟨trivial, (fun h => by cases h), callsIn_wide.2 h⟩
theorem wcall2 {P : Program} {f : FuncId} {args : Array Value} {w : World} {R : Ending → World → Prop} {m : Nat} (h : Calls P f args w R) : Fence.wide.fn f ∧ CallsIn Fence.wide m P f args w R := ⟨trivial, callsIn_wide.2 h⟩

/-! ### slices.Chunk -/
/-- The boxes that the iterator reads: the bytes and the size. -/
def Box (W : World) (Bn Cn : Nat) (A : Option Addr) (n c : Nat) : Prop := At W Bn 59 #[.slice A n c] ∧ At W Cn 3 #[.int .i64 54]
theorem Box.cells {W : World} {Bn Cn : Nat} {A : Option Addr} {n c : Nat} (h : Box W Bn Cn A n c) : W.cell? ⟨Bn, 0, none⟩ = some (.slice A n c) ∧ W.cell? ⟨Cn, 0, none⟩ = some (.int .i64 54) := ⟨h.1.cell 0, h.2.cell 0⟩
theorem Box.kept {W W' : World} {Bn Cn : Nat} {A : Option Addr} {n c : Nat} (h : Box W Bn Cn A n c) (h1 : W'.heap[Bn]? = W.heap[Bn]?) (h2 : W'.heap[Cn]? = W.heap[Cn]?) : Box W' Bn Cn A n c := ⟨h1.trans h.1, h2.trans h.2⟩
theorem Box.below {W W' : World} {Bn Cn : Nat} {A : Option Addr} {n c : Nat} (h : Box W Bn Cn A n c) (hb : Below W.heap.size W W') : Box W' Bn Cn A n c := h.kept (hb.block _ h.1.lt) (hb.block _ h.2.lt)

set_option maxHeartbeats 400000 in
theorem chunk_any (A : Option Addr) (n c : Nat) (w : World) :
    Calls Tryd.prog 41 #[.slice A n c, .int .i64 54] w
      fun e w' => e = .returned (.func (.func 65) #[] #[.pointer (some ⟨w.heap.size, 0, none⟩), .pointer (some ⟨w.heap.size + 1, 0, none⟩)]) ∧ (w.alloc (.cells #[.slice A n c] 59)).alloc (.cells #[.int .i64 54] 3) = w' := by
  have hmf : ∀ (fn : Fn) (first cap : Array Value) (w : World), (Instr.makeFunc fn first cap).run Tryd.prog w = .ok (.func fn first cap) w := fun _ _ _ _ => rfl
  go_enter Tryd.func41, Tryd.ntmps41
  go_wp2_with fail
  go_ret
  exact ⟨rfl, rfl⟩

def KpB (Bn Cn : Nat) (A B : World) : Prop := B.heap[Bn]? = A.heap[Bn]? ∧ B.heap[Cn]? = A.heap[Cn]?
/-- The share with number k, as a slice. -/
def chV (A : Option Addr) (n : Nat) (k : Nat) : Value := .slice (A.map (·.add (54 * k))) (min 54 (n - 54 * k)) (min 54 (n - 54 * k))
def AtI (J : List Nat → World → Prop) (Bn Cn : Nat) (A : Option Addr) (n c : Nat) (k : Nat) (W : World) : Prop := J (List.range k) W ∧ Box W Bn Cn A n c
def RowR (J : List Nat → World → Prop) (Bn Cn : Nat) (A : Option Addr) (n c : Nat) (v : Value) (W : World) : Prop := ∃ k q : Nat, k ≤ numSec n ∧ q = 54 * k ∧ v = .int .i64 (q : Int) ∧ Hid (AtI J Bn Cn A n c k W)
def IterEnd (J Jx : List Nat → World → Prop) (L : List Nat) (e : Ending) (W' : World) : Prop := (∃ v, e = .returned v) ∧ ((∃ ys, ys = L ∧ J ys W') ∨ (∃ pre, pre <+: L ∧ Jx pre W'))

set_option maxRecDepth 100000 in
set_option maxHeartbeats 4000000 in
theorem iter_any (n : Nat) (L Bn Cn : Nat) (A : Option Addr) (m c : Nat) (hm : m ≤ 10000) (hc : m ≤ c) (hA : 0 < m → ∃ a, A = some a) (J Jx : List Nat → World → Prop)
    (hY : ∀ pre x W, J pre W → pre.length < numSec m → YieldAt Fence.wide (n - 1) Tryd.prog L #[chV A m x] W fun e W' =>
      (e = .returned (.bool true) ∧ J (pre ++ [x]) W' ∧ KpB Bn Cn W W') ∨ (e = .returned (.bool false) ∧ Jx (pre ++ [x]) W'))
    (W : World) (hJ : AbidesFrom W.heap.size J) (hB : Box W Bn Cn A m c) (h0 : J [] W) :
    CallsIn Fence.wide n Tryd.prog 65 #[.func (.yield L) #[] #[], .pointer (some ⟨Bn, 0, none⟩), .pointer (some ⟨Cn, 0, none⟩)] W (IterEnd J Jx (List.range (numSec m))) := by
  obtain ⟨c0, c1⟩ := hB.cells
  refine callsIn_of_wp Tryd.func65 rfl trivial ?_ rfl
  simp only [Tryd.ntmps65, List.size_toArray, List.length_cons, List.length_nil, Nat.reduceAdd, Nat.reduceSub, Array.replicate_succ, Array.replicate_zero, List.push_toArray, List.append_toArray, List.nil_append, List.cons_append]
  gi_wp2_with fail
  gi_loopw [4] (fun v wr => RowR J Bn Cn A m c v wr) (fun v _ => 54 * (numSec m) + 54 - (intOf v).toNat)
  case atStart => exact ⟨0, 0, Nat.zero_le _, rfl, rfl, h0, hB⟩
  case round =>
    clear c0 c1 hB h0
    obtain ⟨k, q, hk0, hq, rfl, hA'⟩ := hrel
    obtain ⟨c0, c1⟩ := hA'.out.2.cells
    by_cases hlt : q < m
    · obtain ⟨a, rfl⟩ := hA (by omega)
      have hk1 : k < numSec m := by unfold numSec; omega
      obtain ⟨m', hm'⟩ : ∃ m', min 54 (m - q) = m' := ⟨_, rfl⟩
      have hlen : (List.range k).length < numSec m := by simpa using hk1
      have hA1 : Hid (AtI J Bn Cn (some a) m c k wr.drew) := ⟨hJ _ _ _ none hA'.out.1 (grown_ofBelow (Below.refl _ wr).drew) (fun r e => by cases e), hA'.out.2.below (Below.refl _ wr).drew⟩
      obtain ⟨fn, tmps, assign, body, hy, hR⟩ := hY _ k _ hA1.out.1 hlen
      have hch : chV (some a) m k = .slice (some (a.add q)) m' m' := by rw [chV, ← hq, hm']; rfl
      rw [hch] at hy
      have rt := fun W => run_tail (P := Tryd.prog) 59 5 Tryd.underlying59 u8_size (some a) m c q (by omega) W
      have e0 := (hA1.out.2.cells).1
      have HQ := Lib.hid hq
      have HK1 := Lib.hid hk1
      have hmn : (if ((m - q : Nat) : Int) < 54 then ((m - q : Nat) : Int) else 54) = (m' : Int) := by rw [← hm']; split <;> omega
      have hmi : min (54 : Int) ((m - q : Nat) : Int) = (m' : Int) := by rw [← hm']; omega
      have hm0 : 0 < m' := by omega
      have hmq : q + m' ≤ m := by omega
      have HM := Lib.hid hm'
      clear hq hm' hch hlen hk1 hY
      gi_wp2_with fail
      refine region_wide (S := fun z => Box z Bn Cn (some a) m c) (by kernel_rfl) hA1.out.2 (fun hS => ?_)
      refine takeH (i := 0) (d := 13) (v := ?vq0) rfl (by kernel_rfl) (by kernel_rfl) (by kernel_rfl) (fun _ _ _ h => h) rfl (by rfl) ?yq0 hS ?rq0
      case yq0 => (intro wz hz; obtain ⟨e0, e1⟩ := hz.cells; go_simp <;> with_reducible rfl)
      simp only [List.setIfInBounds_toArray, List.set_cons_zero, List.set_cons_succ]
      refine takeH (i := 1) (d := 14) (v := ?vq1) rfl (by kernel_rfl) (by kernel_rfl) (by kernel_rfl) (fun _ _ _ h => h) rfl (by rfl) ?yq1 hS ?rq1
      case yq1 => (intro wz hz; obtain ⟨e0, e1⟩ := hz.cells; go_simp <;> with_reducible rfl)
      simp only [List.setIfInBounds_toArray, List.set_cons_zero, List.set_cons_succ]
      refine takeH (i := 2) (d := 15) (v := ?vq2) rfl (by kernel_rfl) (by kernel_rfl) (by kernel_rfl) (fun _ _ _ h => h) rfl (by rfl) ?yq2 hS ?rq2
      case yq2 => (intro wz hz; obtain ⟨e0, e1⟩ := hz.cells; go_simp <;> with_reducible rfl)
      simp only [List.setIfInBounds_toArray, List.set_cons_zero, List.set_cons_succ]
      refine takeH (i := 3) (d := 16) (v := ?vq3) rfl (by kernel_rfl) (by kernel_rfl) (by kernel_rfl) (fun _ _ _ h => h) rfl (by rfl) ?yq3 hS ?rq3
      case yq3 => (intro wz hz; obtain ⟨e0, e1⟩ := hz.cells; go_simp <;> with_reducible rfl)
      simp only [List.setIfInBounds_toArray, List.set_cons_zero, List.set_cons_succ]
      refine takeH (i := 4) (d := 17) (v := ?vq4) rfl (by kernel_rfl) (by kernel_rfl) (by kernel_rfl) (fun _ _ _ h => h) rfl (by rfl) ?yq4 hS ?rq4
      case yq4 => (intro wz hz; obtain ⟨e0, e1⟩ := hz.cells; go_simp <;> with_reducible rfl)
      simp only [List.setIfInBounds_toArray, List.set_cons_zero, List.set_cons_succ]
      refine takeH (i := 5) (d := 18) (v := .int .i64 (m' : Int)) rfl (by kernel_rfl) (by kernel_rfl) (by kernel_rfl) (fun _ _ _ h => h) rfl (by rfl) ?yq5 hS ?rq5
      case yq5 => (intro wz hz; obtain ⟨e0, e1⟩ := hz.cells; go_simp <;> (first | done | exact hmn | exact hmi | (simp [hmn]; done) | (split <;> simp_all <;> omega)))
      simp only [List.setIfInBounds_toArray, List.set_cons_zero, List.set_cons_succ]
      refine takeH (i := 6) (d := 5) (v := ?vq6) rfl (by kernel_rfl) (by kernel_rfl) (by kernel_rfl) (fun _ _ _ h => h) rfl (by rfl) ?yq6 hS ?rq6
      case yq6 => (intro wz hz; obtain ⟨e0, e1⟩ := hz.cells; go_simp <;> with_reducible rfl)
      simp only [List.setIfInBounds_toArray, List.set_cons_zero, List.set_cons_succ]
      refine wpAnyH_done (by kernel_rfl) ?_ _
      refine only_done ?_
      clear hS
      gi_wp2_with fail
      refine ⟨(fun h => by cases h), hR.mono ?_⟩
      clear hy hR
      rintro e w2 (⟨rfl, hJ2, hk2⟩ | ⟨rfl, hJx⟩)
      · have hA2 : Hid (AtI J Bn Cn (some a) m c (k + 1) w2) := ⟨by rw [List.range_succ]; exact hJ2, hA1.out.2.kept hk2.1 hk2.2⟩
        clear hJ2 hk2
        have f0 := (hA2.out.2.cells).1
        have f1 := (hA2.out.2.cells).2
        gi_wp2_with fail
        go_roundw
        case rel => exact ⟨k + 1, q + 54, by have := HK1.out; omega, by have := HQ.out; omega, by go_num, hA2⟩
        case measure => (simp [intOf]; have := HQ.out; have := HK1.out; omega)
      · have HX := Lib.hid hJx
        clear hJx
        gi_wp2_with fail
        refine bodyPost_ret (results_none rfl _ _ _) rfl ?_
        refine ⟨⟨_, rfl⟩, .inr ⟨_, ?_, HX.out⟩⟩
        rw [← List.range_succ]
        refine ⟨(List.range (numSec m)).drop (k + 1), ?_⟩
        rw [show List.range (k + 1) = (List.range (numSec m)).take (k + 1) by rw [List.take_range, Nat.min_eq_left (by have := HK1.out; omega)], List.take_append_drop]
    · gi_wp2_with fail
      go_end0
      refine ⟨⟨_, rfl⟩, .inl ⟨_, rfl, ?_⟩⟩
      rw [show numSec m = k by unfold numSec at hk0 ⊢; omega]
      exact hA'.out.1

theorem kpB_t {Bn Cn : Nat} {A B C : World} (h : KpB Bn Cn A B) (k : KpB Bn Cn B C) : KpB Bn Cn A C := ⟨k.1.trans h.1, k.2.trans h.2⟩
theorem kpB_b {Bn Cn : Nat} {w : World} (hn : Bn < w.heap.size) (hc : Cn < w.heap.size) (W : World) (l : Nat) (o o' : Obj) (hl : w.heap.size ≤ l) (_ : W.heap[l]? = some o) (_ : o.isCells = false) (_ : o.isWalk = false) : KpB Bn Cn W (W.putObj l o') :=
  ⟨World.putObj_heap_other (by omega), World.putObj_heap_other (by omega)⟩
theorem iter_stops (n Bn Cn : Nat) (A : Option Addr) (m c : Nat) (hm : m ≤ 10000) (hc : m ≤ c) (hA : 0 < m → ∃ a, A = some a) (w : World) (hB : Box w Bn Cn A m c) :
    SeqStopsK Fence.wide n Tryd.prog 65 #[.pointer (some ⟨Bn, 0, none⟩), .pointer (some ⟨Cn, 0, none⟩)] (fun x : Nat => #[chV A m x]) (KpB Bn Cn) (fun ys => ys = List.range (numSec m)) (fun pre => pre <+: List.range (numSec m)) (numSec m) w := fun L J Jx W hW hJ _ hY h0 =>
  iter_any n L Bn Cn A m c hm hc hA J Jx hY W hJ (hB.below hW) h0
end Go.Proofs.YthicidpdgggbjaaDoor
