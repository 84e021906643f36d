/-
  The iterator over whom somebody's arcs lead to.
  Conditions: at most 1000 arcs.
-/
import Derived.Test.YtnkphpjnhjbokaaSI0
import Derived.RangeFuncNested
import Derived.RangeFuncBound
import Derived.RangeFuncCalls
import Derived.RangeFuncLeaves
import Derived.OrdersIn
import Derived.OwnWalkIn
import Derived.TacticsInMore
import Derived.RegionIn
import Derived.LoopNIn
import Derived.LoopIn
import Derived.Shelf.RegionOpen
namespace Go.Proofs.Ytnkphpjnhjbokaa
open Go.RowKit Go.Shelf
attribute [local go_sem] Oper.semAt_some
set_option maxRecDepth 100000

section
variable {P : Program} {ops : Array Oper} {Q : Exit → Act → World → Prop} {md : Region.Mode} {S : World → Prop}
def Only (Q : Exit → Act → World → Prop) : Exit → Act → World → Prop
  | .normal, a, w => Q .normal a w
  | _, _, _ => False
theorem only_done {a : Act} {w : World} (h : Q .normal a w) : Only Q .normal a w := h
theorem only_up : ∀ (e : Exit) (a : Act) (w : World), Only Q e a w → Q e a w
  | .normal, _, _, h => h
theorem only_not : ¬ LetsOut (Only Q) := fun ⟨_, _, h⟩ => h
/-- The same outside a round, in the walk inside a fence. -/
theorem region_wide {id n : Nat} {a : Act} {w : World} (hm : P.follows .mixedOrders = true) (hS : S w.drew)
    (h : S w.drew → wpAnyH P .any ops (Only Q) S ops.size (Array.replicate ops.size false) a w.drew) : (Code.region id ops true).wpIn Fence.wide n P Q a w :=
  wpIn_mono (wpIn_wide.2 (wp_region_held_drew hm hS h)) only_up
end
theorem wcall {P : Program} {f : FuncId} {args : Array Value} {w : World} {R : Ending → World → Prop} {n m : Nat} (h : Calls P f args w R) :
    Fence.wide.fn f ∧ (Fence.wide.depth.isSome = true → 1 ≤ n) ∧ CallsIn Fence.wide m P f args w R := ⟨trivial, (fun h => by cases h), callsIn_wide.2 h⟩
theorem below_grown {w w' : World} (h : Below w.heap.size w w') : w.grownBy w' none := ⟨h.os, h.tape, h.output, h.size, fun k hk _ => h.block k hk⟩
/-- What the iterator reads: the graph's box, the node's, the graph. -/
structure GrB (Bg Bn : Nat) (A : Option Addr) (n c : Nat) (g : List Ar) (x : Nat) (W : World) : Prop where
  bg : At W Bg 42 #[.slice A n c]
  bn : At W Bn 23 #[.int .u64 (x : Int)]
  lz : Lz (fun _ => False) W 2 A n (arL g)
/-- What a round must keep for the iterator. -/
def KpG (Bg Bn : Nat) (A : Option Addr) (W W' : World) : Prop := W'.heap[Bg]? = W.heap[Bg]? ∧ W'.heap[Bn]? = W.heap[Bn]? ∧ ∀ a, A = some a → W'.heap[a.block]? = W.heap[a.block]?
theorem lz_heap {W W' : World} {A : Option Addr} {n size : Nat} {xs : List Value} (h : Lz (fun _ => False) W size A n xs) (he : ∀ a, A = some a → W'.heap[a.block]? = W.heap[a.block]?) : Lz (fun _ => False) W' size A n xs := ⟨h.len, fun hn => by
  obtain ⟨b, o, h1, h2, h3, h4⟩ := h.spot hn
  have hb := he _ h1
  dsimp only at hb
  refine ⟨b, o, h1, h2, ?_, fun j u hu => ?_⟩
  · have h5 : W.heap[b]? = some W.heap[b] := Array.getElem?_eq_getElem h3
    rw [h5] at hb
    exact (Array.getElem?_eq_some_iff.1 hb).1
  · exact (World.cell?_of_block (a := ⟨b, o + j, none⟩) hb).trans (h4 j u hu)⟩
theorem GrB.kept {Bg Bn : Nat} {A : Option Addr} {n c : Nat} {g : List Ar} {x : Nat} {W W' : World} (h : GrB Bg Bn A n c g x W) (hk : KpG Bg Bn A W W') : GrB Bg Bn A n c g x W' := ⟨hk.1.trans h.bg, hk.2.1.trans h.bn, lz_heap h.lz hk.2.2⟩
theorem GrB.below {Bg Bn : Nat} {A : Option Addr} {n c : Nat} {g : List Ar} {x : Nat} {W W' : World} (h : GrB Bg Bn A n c g x W) (hb : Below W.heap.size W W') : GrB Bg Bn A n c g x W' := ⟨h.bg.under hb h.bg.lt, h.bn.under hb h.bn.lt, h.lz.below hb⟩
theorem GrB.cells {Bg Bn : Nat} {b o n c : Nat} {g : List Ar} {x k : Nat} {W : World} (h : GrB Bg Bn (some ⟨b, o, none⟩) n c g x W) (hk : k < n) (hl : k < g.length) : W.cell? ⟨b, o + k * 2, none⟩ = some (.int .u64 (g[k].1 : Int)) ∧ W.cell? ⟨b, o + k * 2 + 1, none⟩ = some (.int .u64 (g[k].2 : Int)) := by
  obtain ⟨b', o', _, h1, _, h2⟩ := h.lz.ar hk
  injection h1 with h1
  injection h1 with h1 h3
  subst h1 h3
  exact ⟨h2 0 _ rfl, h2 1 _ rfl⟩
def IterEnd (J Jx : List Nat → World → Prop) (L : List Nat) (e : Ending) (W' : World) : Prop := (∃ v, e = .returned v) ∧ ((∃ ys, ys = L ∧ J ys W') ∨ (∃ pre, pre <+: L ∧ Jx pre W'))
set_option maxHeartbeats 6400000 in
theorem succ_iter (m L Bg Bn : Nat) (A : Option Addr) (n c : Nat) (g : List Ar) (x : Nat) (hn : n ≤ 1000) (hu : g.Pairwise arLe) (J Jx : List Nat → World → Prop)
    (hY : ∀ pre y W, J pre W → pre ++ [y] <+: sucI g x → YieldAt Fence.wide (m - 1) Try.prog L #[.int .u64 ((y : Nat) : Int)] W fun e W' =>
      (e = .returned (.bool true) ∧ J (pre ++ [y]) W' ∧ KpG Bg Bn A W W') ∨ (e = .returned (.bool false) ∧ Jx (pre ++ [y]) W'))
    (W : World) (hJ : AbidesFrom W.heap.size J) (hB : GrB Bg Bn A n c g x W) (h0 : J [] W) :
    CallsIn Fence.wide m Try.prog 36 #[.func (.yield L) #[] #[], .pointer (some ⟨Bg, 0, none⟩), .pointer (some ⟨Bn, 0, none⟩)] W (IterEnd J Jx (sucI g x)) := by
  have hlen := hB.lz.arlen
  have c0 : W.cell? ⟨Bg, 0, none⟩ = some (.slice A n c) := hB.bg.cell 0
  have c1 : W.cell? ⟨Bn, 0, none⟩ = some (.int .u64 (x : Int)) := hB.bn.cell 0
  have HY := Lib.hid hY
  have HG0 := Lib.hid hB
  have HJ := Lib.hid hJ
  have HU := Lib.hid hu
  have HBS := Lib.hid (bsf_any A n c g (x, 0) W hB.lz (by omega) hu)
  clear hY hB hu
  refine callsIn_of_wp Try.func36 rfl trivial ?_ rfl
  simp only [Try.ntmps36, List.size_toArray, List.length_cons, List.length_nil, Nat.reduceAdd, Nat.reduceSub, Array.replicate_succ, Array.replicate_zero, List.push_toArray, List.append_toArray, List.nil_append, List.cons_append]
  have hmx : Try.prog.follows .mixedOrders = true := by kernel_rfl
  gi_wp2_with fail
  refine wcall (HBS.out.mono ?_)
  rintro e z ⟨i, bz, rfl, hi, hlo, hhi, hb⟩
  have HLO := Lib.hid hlo
  have HHI := Lib.hid hhi
  have hJ0 : Hid (J (sucI (g.take i) x) z) := by
    rw [suc_none HLO.out]
    exact HJ.out [] W z none h0 (below_grown hb) (fun r e => by cases e)
  have HGZ := Lib.hid (HG0.out.below hb)
  clear hlo hhi hb h0 c0 c1 HBS HG0
  gi_wp2_with fail
  gi_loopw [4] (fun v wr => ∃ k : Nat, i ≤ k ∧ k ≤ n ∧ v = .int .i64 (k : Int) ∧ Hid (J (sucI (g.take k) x) wr) ∧ Hid (GrB Bg Bn A n c g x wr)) (fun v _ => n - (intOf v).toNat)
  case atStart => exact ⟨i, Nat.le_refl _, hi, rfl, hJ0, HGZ⟩
  case round =>
    clear hJ0 HGZ
    obtain ⟨k, hik, hk, rfl, hJk, HG⟩ := hrel
    by_cases hlt : k < n
    · have hl : k < g.length := by omega
      have hst := suc_take (x := x) hl
      obtain ⟨b, o, _, hA, hb0, _⟩ := HG.out.lz.ar hlt
      subst hA
      obtain ⟨y, hy⟩ : ∃ y, g[k] = y := ⟨_, rfl⟩
      obtain ⟨y1, y2⟩ := y
      have HC1 : Hid (∀ wz, GrB Bg Bn (some ⟨b, o, none⟩) n c g x wz → wz.cell? ⟨b, o + k * 2, none⟩ = some (.int .u64 (y1 : Int))) := fun wz hz => by have := (hz.cells hlt hl).1; rw [hy] at this; exact this
      have HC2 : Hid (∀ wz, GrB Bg Bn (some ⟨b, o, none⟩) n c g x wz → wz.cell? ⟨b, o + k * 2 + 1, none⟩ = some (.int .u64 (y2 : Int))) := fun wz hz => by have := (hz.cells hlt hl).2; rw [hy] at this; exact this
      have HYK := Lib.hid hy
      by_cases hyx : y1 = x
      · have e : ((y1 : Int) == (x : Int)) = true := by rw [nat_beq, hyx, beq_self_eq_true]
        have hE : sucI (g.take (k + 1)) x = sucI (g.take k) x ++ [y2] := by rw [hst, hy, if_pos hyx]
        have hpre := suc_pre (x := x) (show k + 1 ≤ g.length by omega) (Nat.le_refl g.length)
        rw [List.take_length, hE] at hpre
        have HE := Lib.hid hE
        have HPRE := Lib.hid hpre
        clear hst hE hpre hy hyx
        gi_wp2_with fail
        refine region_wide (S := GrB Bg Bn (some ⟨b, o, none⟩) n c g x) (by kernel_rfl) (HG.out.below (Below.refl _ wr).drew) (fun hS => ?_)
        refine tk 0 hS ?_
        refine tk 1 hS ?_ (hy := by intro wz hz; have e0 : wz.cell? ⟨Bg, 0, none⟩ = some (.slice (some ⟨b, o, none⟩) n c) := hz.bg.cell 0; have e1 : wz.cell? ⟨Bn, 0, none⟩ = some (.int .u64 (x : Int)) := hz.bn.cell 0; have e2 : wz.cell? ⟨b, o + k * 2, none⟩ = some (.int .u64 (y1 : Int)) := HC1.out wz hz; go_simp <;> with_reducible rfl)
        refine tk 2 hS ?_
        refine tk 3 hS ?_
        refine tk 4 hS ?_
        refine tk 5 hS ?_ (hy := by intro wz hz; have e0 : wz.cell? ⟨Bg, 0, none⟩ = some (.slice (some ⟨b, o, none⟩) n c) := hz.bg.cell 0; have e1 : wz.cell? ⟨Bn, 0, none⟩ = some (.int .u64 (x : Int)) := hz.bn.cell 0; have e2 : wz.cell? ⟨b, o + k * 2, none⟩ = some (.int .u64 (y1 : Int)) := HC1.out wz hz; go_simp <;> with_reducible rfl)
        refine tk 6 hS ?_
        refine tk 7 hS ?_
        refine tk 8 hS ?_
        refine tk 9 hS ?_ (hy := by intro wz hz; have e0 : wz.cell? ⟨Bg, 0, none⟩ = some (.slice (some ⟨b, o, none⟩) n c) := hz.bg.cell 0; have e1 : wz.cell? ⟨Bn, 0, none⟩ = some (.int .u64 (x : Int)) := hz.bn.cell 0; have e2 : wz.cell? ⟨b, o + k * 2, none⟩ = some (.int .u64 (y1 : Int)) := HC1.out wz hz; go_simp <;> with_reducible rfl)
        refine tk 10 hS ?_ (hy := by intro wz hz; have e0 : wz.cell? ⟨Bg, 0, none⟩ = some (.slice (some ⟨b, o, none⟩) n c) := hz.bg.cell 0; have e1 : wz.cell? ⟨Bn, 0, none⟩ = some (.int .u64 (x : Int)) := hz.bn.cell 0; have e2 : wz.cell? ⟨b, o + k * 2, none⟩ = some (.int .u64 (y1 : Int)) := HC1.out wz hz; go_simp <;> with_reducible rfl)
        refine tk 11 hS ?_
        refine tk 12 hS ?_
        refine wpAnyH_done (by kernel_rfl) ?_ _
        refine only_done ?_
        have HG1 := Lib.hid hS
        have HJ1 := Lib.hid (HJ.out _ wr wr.drew none hJk.out (below_grown (Below.refl _ wr).drew) (fun r e => by cases e))
        clear hS hJk HG
        generalize wr.drew = wd at HG1 HJ1 ⊢
        have d0 : wd.cell? ⟨Bg, 0, none⟩ = some (.slice (some ⟨b, o, none⟩) n c) := HG1.out.bg.cell 0
        have d2 := HC2.out wd HG1.out
        obtain ⟨fn, tmps, assign, body, hy, hR⟩ := HY.out _ y2 wd HJ1.out HPRE.out
        gi_wp2_with fail
        refine ⟨(fun h => by cases h), hR.mono ?_⟩
        rintro e W3 (⟨rfl, hJ4, hk4⟩ | ⟨rfl, hJx⟩)
        · have HJ4 := Lib.hid hJ4
          have HK4 := Lib.hid hk4
          clear hJ4 hk4 hR hy d0 d2
          gi_wp2_with fail
          go_roundw
          case rel => exact ⟨k + 1, by omega, by omega, by go_num, Lib.hid (by rw [HE.out]; exact HJ4.out), Lib.hid (HG1.out.kept HK4.out)⟩
          case measure => simp [intOf]; omega
        · have HJX := Lib.hid hJx
          clear hJx hR hy d0 d2
          gi_wp2_with fail
          refine bodyPost_ret (results_none rfl _ _ _) rfl ?_
          exact ⟨⟨_, rfl⟩, .inr ⟨_, HPRE.out, HJX.out⟩⟩
      · have e : ((y1 : Int) == (x : Int)) = false := by rw [nat_beq]; simpa using hyx
        have HEND := Lib.hid (suc_all HU.out HHI.out hik (fun h => by rw [hy]; exact hyx))
        clear hst hy hyx
        gi_wp2_with fail
        refine region_wide (S := GrB Bg Bn (some ⟨b, o, none⟩) n c g x) (by kernel_rfl) (HG.out.below (Below.refl _ wr).drew) (fun hS => ?_)
        refine tk 0 hS ?_
        refine tk 1 hS ?_ (hy := by intro wz hz; have e0 : wz.cell? ⟨Bg, 0, none⟩ = some (.slice (some ⟨b, o, none⟩) n c) := hz.bg.cell 0; have e1 : wz.cell? ⟨Bn, 0, none⟩ = some (.int .u64 (x : Int)) := hz.bn.cell 0; have e2 : wz.cell? ⟨b, o + k * 2, none⟩ = some (.int .u64 (y1 : Int)) := HC1.out wz hz; go_simp <;> with_reducible rfl)
        refine tk 2 hS ?_
        refine tk 3 hS ?_
        refine tk 4 hS ?_
        refine tk 5 hS ?_ (hy := by intro wz hz; have e0 : wz.cell? ⟨Bg, 0, none⟩ = some (.slice (some ⟨b, o, none⟩) n c) := hz.bg.cell 0; have e1 : wz.cell? ⟨Bn, 0, none⟩ = some (.int .u64 (x : Int)) := hz.bn.cell 0; have e2 : wz.cell? ⟨b, o + k * 2, none⟩ = some (.int .u64 (y1 : Int)) := HC1.out wz hz; go_simp <;> with_reducible rfl)
        refine tk 6 hS ?_
        refine tk 7 hS ?_
        refine tk 8 hS ?_
        refine tk 9 hS ?_ (hy := by intro wz hz; have e0 : wz.cell? ⟨Bg, 0, none⟩ = some (.slice (some ⟨b, o, none⟩) n c) := hz.bg.cell 0; have e1 : wz.cell? ⟨Bn, 0, none⟩ = some (.int .u64 (x : Int)) := hz.bn.cell 0; have e2 : wz.cell? ⟨b, o + k * 2, none⟩ = some (.int .u64 (y1 : Int)) := HC1.out wz hz; go_simp <;> with_reducible rfl)
        refine tk 10 hS ?_ (hy := by intro wz hz; have e0 : wz.cell? ⟨Bg, 0, none⟩ = some (.slice (some ⟨b, o, none⟩) n c) := hz.bg.cell 0; have e1 : wz.cell? ⟨Bn, 0, none⟩ = some (.int .u64 (x : Int)) := hz.bn.cell 0; have e2 : wz.cell? ⟨b, o + k * 2, none⟩ = some (.int .u64 (y1 : Int)) := HC1.out wz hz; go_simp <;> with_reducible rfl)
        refine tk 11 hS ?_
        refine tk 12 hS ?_
        refine wpAnyH_done (by kernel_rfl) ?_ _
        refine only_done ?_
        have HJ1 := Lib.hid (HJ.out _ wr wr.drew none hJk.out (below_grown (Below.refl _ wr).drew) (fun r e => by cases e))
        clear hS
        gi_wp2_with fail
        go_end0
        exact ⟨⟨_, rfl⟩, .inl ⟨_, HEND.out, HJ1.out⟩⟩
    · obtain rfl : k = n := by omega
      have HEND := Lib.hid (suc_all HU.out HHI.out hik (fun h => by omega))
      gi_wp2_with fail
      refine region_wide (S := GrB Bg Bn A k c g x) (by kernel_rfl) (HG.out.below (Below.refl _ wr).drew) (fun hS => ?_)
      refine tk 0 hS ?_
      refine tk 1 hS ?_ (hy := by intro wz hz; have e0 : wz.cell? ⟨Bg, 0, none⟩ = some (.slice A k c) := hz.bg.cell 0; have e1 : wz.cell? ⟨Bn, 0, none⟩ = some (.int .u64 (x : Int)) := hz.bn.cell 0; go_simp <;> with_reducible rfl)
      refine tk 2 hS ?_
      refine tk 3 hS ?_
      refine tk 4 hS ?_
      refine sk 5 hS ?_
      refine sk 6 hS ?_
      refine sk 7 hS ?_
      refine sk 8 hS ?_
      refine sk 9 hS ?_
      refine sk 10 hS ?_
      refine sk 11 hS ?_
      refine tk 12 hS ?_
      refine wpAnyH_done (by kernel_rfl) ?_ _
      refine only_done ?_
      have HJ1 := Lib.hid (HJ.out _ wr wr.drew none hJk.out (below_grown (Below.refl _ wr).drew) (fun r e => by cases e))
      clear hS
      gi_wp2_with fail
      go_end0
      exact ⟨⟨_, rfl⟩, .inl ⟨_, HEND.out, HJ1.out⟩⟩
end Go.Proofs.Ytnkphpjnhjbokaa
