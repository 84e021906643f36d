/-
  Stuck; the distances of a graph that graphOf or opposite made.
  Conditions: at most 1000 arcs; numbers below 2^64.
-/
import Derived.Test.YtnkphpjnhjbokaaSP
import Derived.Test.YtnkphpjnhjbokaaSG
namespace Go.Proofs.Ytnkphpjnhjbokaa
open Go.RowKit Go.Shelf
open Go.Maps (Keyed)
attribute [local go_sem] Oper.semAt_some
set_option maxRecDepth 20000

theorem mem_perm {g l : List Ar} (h : g.Perm l) : ∀ e, e ∈ g ↔ e ∈ l := fun _ => h.mem_iff
theorem u64_perm {g l : List Ar} (h : g.Perm l) (hU : ∀ a ∈ l, U64 a.2) : ∀ a ∈ g, U64 a.2 := fun a ha => hU a (h.mem_iff.1 ha)
/-- What is looked up in the distances. -/
theorem look_dist {W : World} {b : Nat} {d : Nat → Nat} (hm : MapAt u64V U64 W b (fD d)) {y : Nat} (hy : U64 y) : (Instr.lookup 41 (.map (some b)) (.int .u64 (y : Int)) false).run Try.prog W = .ok (.int .i64 (d y : Int)) W := by
  have h1 := hm.look keyT_u64 Try.underlying41 (Try.zeroValue3 W) false hy
  rw [fD_look] at h1
  exact h1
theorem dist_graph {w z : World} {l g : List Ar} {n c : Nat} {A : Option Addr} (x : Nat) (hG : GrS w l g (.slice A n c) n z) (hn : n ≤ 1000) (hU : ∀ a ∈ l, U64 a.2) : Calls Try.prog 23 #[.slice A n c, .int .u64 (x : Int)] z (RetD z g x) :=
  distances_any A n c w.heap.size g x z hG.own hn (by rw [hG.perm.length_eq]; exact hG.len) hG.up (u64_perm hG.perm hU)
set_option maxHeartbeats 800000 in
theorem Stuck_any (A : Option Addr) (n c : Nat) (l : List Ar) (x : Nat) (w : World) (h : Lz (fun _ => False) w 2 A n (arL l)) (hn : n ≤ 1000) (hU : ∀ a ∈ l, U64 a.2) (hx : U64 x) :
    Calls Try.prog 12 #[.slice A n c, .int .u64 (x : Int)] w (RetB w (.bool (decide (0 < farU l x x)))) := by
  have HG := Lib.hid (graphOf_any (fun _ => False) n c A l w h (by omega))
  have HU := Lib.hid hU
  have HX := Lib.hid hx
  clear h hU hx
  go_enter Try.func12, Try.ntmps12
  go_wp2_with fail
  refine HG.out.mono ?_
  rintro e z ⟨B, cB, g, rfl, hG⟩
  have HGS := Lib.hid hG
  clear hG
  go_wp2_with fail
  refine (dist_graph x HGS.out hn HU.out).mono ?_
  rintro e y ⟨b, d, q, rfl, hD⟩
  have hlk := look_dist hD.mp HX.out
  have HDS := Lib.hid hD
  clear hD
  obtain ⟨k, hk⟩ : ∃ k, d x = k := ⟨_, rfl⟩
  rw [hk] at hlk
  have HK := Lib.hid hk
  clear hk
  go_wp2_with fail
  go_ret
  refine ⟨?_, HGS.out.below.trans (HDS.out.low.mono HGS.out.below.size)⟩
  have e1 : farU l x x = k := (farU_isD l x x).uniq (by rw [← HK.out]; exact (isD_congr (mem_perm HGS.out.perm)).1 (HDS.out.is x))
  rw [e1]
  congr 2
end Go.Proofs.Ytnkphpjnhjbokaa
