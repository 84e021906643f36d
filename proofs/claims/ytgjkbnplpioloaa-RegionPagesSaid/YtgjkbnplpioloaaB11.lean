/-
  slices.Grow of no points, slices.Concat of two slices of points.
  Conditions: at most 90000 points.
-/
import Derived.Test.YtgjkbnplpioloaaB9
import Derived.Lib.AppendZeros
namespace Go.Proofs.Ytgjkbnplpioloaa
open Go.RowKit
attribute [local go_sem] Oper.semAt_some
set_option maxRecDepth 20000

/-- A row without elements, the call's own. -/
def RetE (w : World) (e : Ending) (z : World) : Prop := ∃ v, e = .returned v ∧ z.ownsRow w.heap.size 50 4 v 0 [] ∧ Below w.heap.size w z
set_option maxHeartbeats 1600000 in
theorem growR_any (m : Nat) (w : World) (hm : m ≤ 90000) : Calls Try.prog 49 #[.slice none 0 0, .int .i64 (m : Int)] w (RetE w) := by
  obtain ⟨i0, hi0, hz0, hz1, hz2⟩ := rc_info
  by_cases h0 : m = 0
  · subst h0
    go_enter Try.func49, Try.ntmps49
    go_wp2_with fail
    go_ret
    exact ⟨_, rfl, World.ownsRow_nil _ _ _ _, Below.refl _ _⟩
  · have hr := Lib.run_append_nil_zeros (P := Try.prog) w 40 3 40 50 i0 _ .i64 .i64 Try.underlying40 Try.underlying3 hi0 hz0 m (by omega) (by omega) (by omega) (by rw [hz2]; omega)
    have hge := grownCap_ge w m 0 50
    have hcm := grownCap_le_maxLen w m 0 50 (by simp only [maxLen]; omega)
    obtain ⟨cap, hcap⟩ : ∃ cap, grownCap w m 0 50 = cap := ⟨_, rfl⟩
    rw [hcap] at hr hge hcm
    clear hcap
    have hsz : (Builtin.zeroCells (Value.agg (rcA zrc)).cells m ++ Builtin.zeroCells (Value.agg (rcA zrc)).cells (cap - m)).size = cap * 4 := by
      rw [Array.size_append, size_zeroCells, size_zeroCells]
      have : (Value.agg (rcA zrc)).cells.size = 4 := rfl
      rw [this]
      omega
    generalize (Builtin.zeroCells (Value.agg (rcA zrc)).cells m ++ Builtin.zeroCells (Value.agg (rcA zrc)).cells (cap - m)) = cs at hr hsz
    have HO : Hid ((w.drew.alloc (.cells cs 50)).ownsRow w.heap.size 50 4 (.slice (some ⟨w.heap.size, 0, none⟩) 0 cap) 0 []) := ⟨rfl, .inr ⟨w.heap.size, cap, cs, rfl, Nat.le_refl _, heap_alloc_new w.drew _, Nat.zero_le _, hcm, hsz, rfl⟩⟩
    have HB : Hid (Below w.heap.size w (w.drew.alloc (.cells cs 50))) := ((Below.refl _ w).drew).alloc (Nat.le_refl _) _
    have HR := Lib.hid hr
    clear hr hsz hcm
    go_enter Try.func49, Try.ntmps49
    go_wp2_with (at_builtin; refine Lib.wpList_append_run _ rfl (.tmp 20) (.tmp 21) _ _ rfl _ _ rfl rfl _ _ HR.out ?_; generalize (w.drew.alloc (.cells cs 50)) = w1 at HO HB ⊢)
    go_ret
    exact ⟨_, rfl, HO.out, HB.out⟩
def sm (a b : Nat) : Nat → Int
  | 0 => 0
  | 1 => a
  | _ => (a : Int) + b
def pt (a b : List Rc) : Nat → List Rc
  | 0 => []
  | 1 => a
  | _ => a ++ b
/-- The first k slices one behind the other: the call's own. -/
def CatR (w : World) (a b : List Rc) (k : Nat) (v : Value) (wr : World) : Prop := ∃ m, m ≤ 90000 ∧ wr.ownsRow w.heap.size 50 4 v m (rcsL (pt a b k)) ∧ Below w.heap.size w wr
theorem CatR.put {w wr w1 : World} {a b l : List Rc} {k m n : Nat} {v v1 : Value} (hb : Below w.heap.size w wr) (ho : wr.ownsRow w.heap.size 50 4 v m (rcsL (pt a b k))) (h1 : w1.ownsRow w.heap.size 50 4 v1 (m + n) (rcsL (pt a b k) ++ rcsL l)) (hg : wr.grownBy w1 v.ownBlock) (hl : pt a b k ++ l = pt a b (k + 1)) (hn : a.length + b.length ≤ 90000) (hk : k < 2) : CatR w a b (k + 1) v1 w1 := by
  refine ⟨m + n, ?_, by rw [← hl, rcsL_append]; exact h1, hb.grown hg hb.size fun j hj => (ho.lt j hj).1⟩
  have := h1.1
  rw [← rcsL_append, hl, rcsL_length] at this
  have h2 : (pt a b (k + 1)).length ≤ a.length + b.length := by
    have : k = 0 ∨ k = 1 := by omega
    rcases this with rfl | rfl <;> simp [pt]
  omega
set_option maxHeartbeats 3200000 in
theorem concat_any (g c : Nat) (A1 A2 : Option Addr) (n1 c1 n2 c2 : Nat) (a b : List Rc) (w : World) (hg1 : w.cell? ⟨g, 0, none⟩ = some (.slice A1 n1 c1)) (hg2 : w.cell? ⟨g, 1, none⟩ = some (.slice A2 n2 c2)) (h1 : Lz NoX w 4 A1 n1 (rcsL a)) (h2 : Lz NoX w 4 A2 n2 (rcsL b)) (hn : n1 + n2 ≤ 90000) :
    Calls Try.prog 38 #[.slice (some ⟨g, 0, none⟩) 2 c] w (RetRs w (a ++ b)) := by
  obtain ⟨i0, hi0, hz0, hz1, hz2⟩ := rc_info
  have HN : Hid (a.length + b.length ≤ 90000) := by show _ ≤ _; rw [h1.rclen, h2.rclen]; exact hn
  have H1 := Lib.hid h1
  have H2 := Lib.hid h2
  have hb := World.block_lt_of_cell? _ _ hg1
  have HG : Hid (∀ z, Below w.heap.size w z → z.cell? ⟨g, 0, none⟩ = some (.slice A1 n1 c1) ∧ z.cell? ⟨g, 1, none⟩ = some (.slice A2 n2 c2)) := fun z hz => ⟨(hz.cell (p := ⟨g, 0, none⟩) hb).trans hg1, (hz.cell (p := ⟨g, 1, none⟩) hb).trans hg2⟩
  clear h1 h2 hb
  go_enter Try.func38, Try.ntmps38
  go_wp2_with fail
  go_loop [3, 11] (fun s vi => ∃ k : Nat, k ≤ 2 ∧ vi = .int .i64 (k : Int) ∧ s = .int .i64 (sm n1 n2 k)) (fun _ i => 2 - (intOf i).toNat)
  case atStart => exact ⟨0, by omega, by go_num, by first | rfl | go_num⟩
  case round =>
    obtain ⟨k, hk, rfl, hs⟩ := hrel
    rcases (by omega : k = 0 ∨ k = 1 ∨ k = 2) with rfl | rfl | rfl
    · obtain rfl := (show _ = Value.int .i64 0 from hs)
      clear hs
      go_wp2_with fail
      go_round
      case rel => exact ⟨1, by omega, by go_num, by first | rfl | (simp [sm]; done) | go_num⟩
      case measure => simp [intOf]
    · obtain rfl := (show _ = Value.int .i64 (n1 : Int) from hs)
      clear hs
      go_wp2_with fail
      go_round
      case rel => exact ⟨2, by omega, by go_num, by first | rfl | (simp [sm]; done) | go_num⟩
      case measure => simp [intOf]
    · obtain rfl := (show _ = Value.int .i64 ((n1 : Int) + (n2 : Int)) from hs)
      clear hs
      have e12 : ((n1 + n2 : Nat) : Int) = (n1 : Int) + (n2 : Int) := by omega
      go_wp2_with (go_at_call 49; rw [← e12]; refine (growR_any (n1 + n2) w hn).mono ?_; rintro e z ⟨v, rfl, ho, hb⟩; have HO := Lib.hid ho; have HB := Lib.hid hb; clear ho hb)
      go_loopw [6, 27] (fun v vi wr => ∃ k : Nat, k ≤ 2 ∧ vi = .int .i64 (k : Int) ∧ Hid (CatR w a b k v wr)) (fun _ i _ => 2 - (intOf i).toNat)
      case atStart => exact ⟨0, by omega, by go_num, Lib.hid ⟨0, by omega, HO.out, HB.out⟩⟩
      case round =>
        obtain ⟨k, hk, rfl, HK⟩ := hrel
        obtain ⟨m, hm, ho, hb⟩ := HK.out
        obtain ⟨q1, q2⟩ := HG.out _ hb
        have HO := Lib.hid ho
        have HBW := Lib.hid hb
        clear ho hb
        rcases (by omega : k = 0 ∨ k = 1 ∨ k = 2) with rfl | rfl | rfl
        · go_wp2_with (at_builtin; refine wpList_app _ rfl (.tmp 31) (.tmp 32) _ rfl w.heap.size 50 i0 _ 4 24 Try.underlying40 hi0 hz0 hz1 hz2 rfl (by omega) _ m _ rfl HO.out _ A1 n1 c1 (rcsL a) rfl (H1.out.below HBW.out).lies (rcsL_cell a) (by simp only [maxLen]; omega) (by omega) HBW.out.size ?_; intro v1 w1 hown hg; have HC := Lib.hid (CatR.put HBW.out HO.out hown hg rfl HN.out (by omega)); clear hown hg)
          go_round
          case rel => exact ⟨1, by omega, by go_num, HC⟩
          case measure => simp [intOf]
        · go_wp2_with (at_builtin; refine wpList_app _ rfl (.tmp 31) (.tmp 32) _ rfl w.heap.size 50 i0 _ 4 24 Try.underlying40 hi0 hz0 hz1 hz2 rfl (by omega) _ m _ rfl HO.out _ A2 n2 c2 (rcsL b) rfl (H2.out.below HBW.out).lies (rcsL_cell b) (by simp only [maxLen]; omega) (by omega) HBW.out.size ?_; intro v1 w1 hown hg; have HC := Lib.hid (CatR.put HBW.out HO.out hown hg rfl HN.out (by omega)); clear hown hg)
          go_round
          case rel => exact ⟨2, by omega, by go_num, HC⟩
          case measure => simp [intOf]
        · go_wp2_with fail
          go_ret
          exact RetRs.mk HO.out HBW.out
end Go.Proofs.Ytgjkbnplpioloaa
