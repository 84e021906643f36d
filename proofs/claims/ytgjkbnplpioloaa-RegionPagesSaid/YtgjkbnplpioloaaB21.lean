/-
  Put of any bucket whose points are as they must be.
  Conditions: at most 100 pages, 90000 points.
-/
import Derived.Test.YtgjkbnplpioloaaB20
namespace Go.Proofs.Ytgjkbnplpioloaa
open Go.RowKit
attribute [local go_sem] Oper.semAt_some
set_option maxRecDepth 20000

def putG (ps : List Int) (rs : List Rc) : List Im := if rightB ps.length rs.length ps = true then putI ps rs else []
theorem putOk_of {ps : List Int} {rs : List Rc} (h : rightB ps.length rs.length ps = true) (hr : ∀ r ∈ rs, r.ok) : PutOk ps rs := by
  unfold rightB at h
  simp only [Bool.and_eq_true, decide_eq_true_eq, Bool.not_eq_true'] at h
  obtain ⟨h3, h4⟩ := h
  refine ⟨fun p hp => ?_, by unfold roomI at h3; omega, hr⟩
  rw [List.any_eq_false] at h4
  have := h4 p hp
  simp [noPage, pageB] at this
  exact this
/-- Pages come back. -/
def RetIm (w : World) (l : List Im) (e : Ending) (z : World) : Prop := ∃ A n c, e = .returned (.slice A n c) ∧ LI z z.heap.size A n l ∧ Below w.heap.size w z
set_option maxHeartbeats 800000 in
theorem putG_any (d : Bx) (PA : Option Addr) (pn pc : Nat) (RA : Option Addr) (rn rc : Nat) (ps : List Int) (rs : List Rc) (w : World) (h : BkL w PA pn RA rn ps rs) (hr : ∀ r ∈ rs, r.ok) (hpn : pn ≤ 100) (hrn : rn ≤ 90000) (hrc : rn ≤ rc) :
    Calls Try.prog 25 #[.agg (bkA d (.slice PA pn pc) (.slice RA rn rc))] w (RetIm w (putG ps rs)) := by
  have hp := h.p.iclen
  have hq := h.r.rclen
  by_cases hR : rightB pn rn ps = true
  · subst hp
    subst hq
    have hok := putOk_of hR hr
    have := Put_any d PA pc RA rc ps rs w h hok hpn hrc
    refine this.mono ?_
    rintro e z ⟨A, c, rfl, ho, hb⟩
    exact ⟨A, ps.length, c, rfl, by unfold putG; rw [if_pos hR]; exact LI.of_own ho, hb⟩
  · have hG : putG ps rs = [] := by unfold putG; rw [hp, hq, if_neg hR]
    rw [hG]
    have hF : rightB pn rn ps = false := by simpa using hR
    have HF := Lib.hid hF
    have HBK := Lib.hid h
    have HA : Hid (At (w.alloc (.cells (bkA d (.slice PA pn pc) (.slice RA rn rc)) 44)) w.heap.size 44 (bkA d (.slice PA pn pc) (.slice RA rn rc))) := At.new w 44 _
    have HB : Hid (Below w.heap.size w (w.alloc (.cells (bkA d (.slice PA pn pc) (.slice RA rn rc)) 44))) := (Below.refl _ w).alloc (Nat.le_refl _) _
    clear h hp hq hG hR hF hr
    go_enter Try.func25, Try.ntmps25
    go_upto_region 1 with fail
    generalize (w.alloc (.cells (bkA d (.slice PA pn pc) (.slice RA rn rc)) 44)) = w1 at HA HB ⊢
    go_wp2_with (first
      | (refine wpList_load_at 44 9 (.tmp 1) rfl rfl rfl w.heap.size rfl (bkA d (.slice PA pn pc) (.slice RA rn rc)) 6 strBk rfl HA.out ?_)
      | (go_at_call 41; refine (rightP_any d PA pn pc RA rn rc ps rs _ (HBK.out.below HB.out) (by omega) (by omega)).mono ?_; rintro e z1 ⟨rfl, hz1⟩; rw [HF.out]; have HB1 := Lib.hid (HB.out.trans (hz1.mono HB.out.size)); clear hz1))
    go_ret
    exact ⟨none, 0, 0, rfl, LI.empty, HB1.out⟩
/-! ### What at tells -/
section
variable (f : Int → Pg × Bool) (first : Int)
def gN : Nat → Int
  | 0 => first
  | k + 1 => (rdNext (f (gN k)).1 : Int)
def gPs (k : Nat) : List Int := (List.range k).map (gN f first)
def gIm (k : Nat) : List Im := (List.range k).map fun j => ⟨gN f first j, (f (gN f first j)).1⟩
def gRs (k : Nat) : List Rc := (List.range k).flatMap fun j => rdRecs (f (gN f first j)).1
def fine (k : Nat) : Prop := ∀ j, j < k → gN f first j ≠ 0 ∧ (f (gN f first j)).2 = true ∧ rdOk (f (gN f first j)).1 = true
/-- The chain ends well behind k pages. -/
def GetAt (k : Nat) : Prop := k ≤ 6 ∧ pageB first = true ∧ fine f first k ∧ gN f first k = 0 ∧ putG (gPs f first k) (gRs f first k) = gIm f first k
theorem gPs_succ (k : Nat) : gPs f first (k + 1) = gPs f first k ++ [gN f first k] := by simp [gPs, List.range_succ]
theorem gIm_succ (k : Nat) : gIm f first (k + 1) = gIm f first k ++ [⟨gN f first k, (f (gN f first k)).1⟩] := by simp [gIm, List.range_succ]
theorem gRs_succ (k : Nat) : gRs f first (k + 1) = gRs f first k ++ rdRecs (f (gN f first k)).1 := by simp [gRs, List.range_succ]
variable {f first}
theorem GetAt.one {k m : Nat} (h : GetAt f first k) (hm : fine f first m) (h0 : gN f first m = 0) : k = m := by
  obtain ⟨_, _, h1, h2, _⟩ := h
  rcases Nat.lt_trichotomy k m with h | h | h
  · exact absurd h2 (hm k h).1
  · exact h
  · exact absurd h0 (h1 m h).1
theorem fine.succ {k : Nat} (h : fine f first k) (h0 : gN f first k ≠ 0) (h1 : (f (gN f first k)).2 = true) (h2 : rdOk (f (gN f first k)).1 = true) : fine f first (k + 1) := fun j hj => by
  by_cases e : j = k
  · subst e
    exact ⟨h0, h1, h2⟩
  · exact h j (by omega)
/-- No bucket, where the chain cannot go on behind k pages. -/
theorem no_get {k : Nat} (h : fine f first k) (h0 : gN f first k ≠ 0) (hb : (f (gN f first k)).2 = false ∨ rdOk (f (gN f first k)).1 = false ∨ 6 ≤ k) : ¬ ∃ m, GetAt f first m := by
  rintro ⟨m, h1, _, h2, h3, _⟩
  rcases Nat.lt_trichotomy k m with hk | hk | hk
  · obtain ⟨_, a, b⟩ := h2 k hk
    rcases hb with hb | hb | hb
    · rw [a] at hb; cases hb
    · rw [b] at hb; cases hb
    · omega
  · subst hk
    exact h0 h3
  · exact absurd h3 (h m hk).1
end
theorem rdRecs_ok (p : Pg) : ∀ r ∈ rdRecs p, r.ok := fun r hr => by
  obtain ⟨j, hj, rfl⟩ := List.mem_map.1 hr
  exact rrRec_ok _
theorem rdRecs_len (p : Pg) : (rdRecs p).length ≤ 255 := by
  have := vl_lt1 (s2 p)
  unfold rdRecs recsK
  rw [List.length_map, List.length_range]
  unfold rdCnt
  omega
theorem gRs_len (f : Int → Pg × Bool) (first : Int) : ∀ k, (gRs f first k).length ≤ 255 * k
  | 0 => Nat.le_refl _
  | k + 1 => by
    rw [gRs_succ, List.length_append]
    have := gRs_len f first k
    have := rdRecs_len (f (gN f first k)).1
    omega
theorem gRs_ok {f : Int → Pg × Bool} {first : Int} {k : Nat} : ∀ r ∈ gRs f first k, r.ok := fun r hr => by
  obtain ⟨j, hj, hrj⟩ := List.mem_flatMap.1 hr
  exact rdRecs_ok _ r hrj
end Go.Proofs.Ytgjkbnplpioloaa
