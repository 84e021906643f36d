/-
  ContainsFunc, isPage, right.
  Conditions: at most 90000 records and pages.
-/
import Derived.Test.YtgjkbnplpioloaaB3
namespace Go.Proofs.Ytgjkbnplpioloaa
open Go.RowKit
attribute [local go_sem] Oper.semAt_some
set_option maxRecDepth 20000

theorem any_of_at {α : Type} {p : α → Bool} {l : List α} {k : Nat} (hk : k < l.length) (h : p l[k] = true) : l.any p = true := List.any_eq_true.2 ⟨l[k], List.getElem_mem hk, h⟩
theorem any_of_none {α : Type} {p : α → Bool} {l : List α} (h : ∀ (j : Nat) (hj : j < l.length), j < l.length → p l[j] = false) : l.any p = false := by
  rw [List.any_eq_false]
  intro x hx
  obtain ⟨j, hj, rfl⟩ := List.getElem_of_mem hx
  rw [h j hj hj]
  decide
/-- A function that answers p of each number. -/
def PredI (f : Nat) (lb : Array Value) (p : Int → Bool) (w : World) : Prop := ∀ (W : World) (r : Int), Below w.heap.size w W → Calls Try.prog f (#[.int .i64 r] ++ lb) W (fun e z => e = .returned (.bool (p r)) ∧ Below W.heap.size W z)
/-- An index, or -1: whether p takes one. -/
def RetX (w : World) (b : Bool) (e : Ending) (z : World) : Prop := ∃ v : Int, e = .returned (.int .i64 v) ∧ decide (0 ≤ v) = b ∧ Below w.heap.size w z
set_option maxHeartbeats 1600000 in
theorem idxI_any (f : Nat) (lb : Array Value) (p : Int → Bool) (eg : ∀ args w, (callFunc f args).run Try.prog w = .ok (.enter f args) w) (A : Option Addr) (n c : Nat) (l : List Int) (w : World) (hp : PredI f lb p w) (h : Lz NoX w 1 A n (ICs l)) (hn : n ≤ 100000) :
    Calls Try.prog 59 #[.slice A n c, .func (.func f) #[] lb] w (RetX w (l.any p)) := by
  have HLN := Lib.hid h.iclen
  have HL := Lib.hid h
  have HP := Lib.hid hp
  clear h hp
  go_enter Try.func59, Try.ntmps59
  go_wp2_with fail
  go_loopw [8] (fun vi wr => ∃ k : Nat, k ≤ n ∧ vi = .int .i64 (k : Int) ∧ Hid (Below w.heap.size w wr) ∧ Hid (∀ (j : Nat) (hj : j < l.length), j < k → p l[j] = false)) (fun i _ => n - (intOf i).toNat)
  case atStart => exact ⟨0, Nat.zero_le _, by go_num, Lib.hid (Below.refl _ w), Lib.hid (fun _ _ h => absurd h (Nat.not_lt_zero _))⟩
  case round =>
    obtain ⟨k, hk, rfl, HB, HN⟩ := hrel
    by_cases hlt : k < n
    · obtain ⟨g, o, hl, rfl, hb, hc⟩ := HL.out.ic hlt
      obtain ⟨r, hr⟩ : ∃ r, l[k] = r := ⟨_, rfl⟩
      rw [hr] at hc
      have R1 : wr.cell? ⟨g, o + k, none⟩ = some (.int .i64 r) := (HB.out.cell (p := ⟨g, o + k, none⟩) hb).trans hc
      obtain ⟨b, hbv⟩ : ∃ b, p r = b := ⟨_, rfl⟩
      have HC := Lib.hid (HP.out wr r HB.out)
      rw [hbv] at HC
      have HBV : Hid (p l[k] = b) := by show _ = _; rw [hr]; exact hbv
      clear hc hr hbv
      cases b
      · go_wp2_with (go_at_fn f; refine HC.out.mono ?_; rintro e z ⟨rfl, hb2⟩; have HB2 := Lib.hid (HB.out.trans (hb2.mono HB.out.size)); clear hb2)
        exact ⟨⟨k + 1, by omega, by go_num, HB2, Lib.hid fun j hj hjk => by
          by_cases e : j = k
          · subst e
            exact HBV.out
          · exact HN.out j hj (by omega)⟩, by simp [intOf]; omega⟩
      · have HI := Lib.hid (any_of_at hl HBV.out)
        go_wp2_with (go_at_fn f; refine HC.out.mono ?_; rintro e z ⟨rfl, hb2⟩; have HB2 := Lib.hid (HB.out.trans (hb2.mono HB.out.size)); clear hb2)
        go_ret
        exact ⟨_, rfl, by rw [HI.out]; exact decide_eq_true (Int.natCast_nonneg k), HB2.out⟩
    · obtain rfl : k = n := by omega
      have HI : Hid (l.any p = false) := any_of_none fun j hj _ => HN.out j hj (by have := HLN.out; omega)
      go_wp2_with fail
      go_ret
      exact ⟨_, rfl, by rw [HI.out]; rfl, HB.out⟩
set_option maxHeartbeats 800000 in
theorem contI_any (f : Nat) (p : Int → Bool) (eg : ∀ args w, (callFunc f args).run Try.prog w = .ok (.enter f args) w) (A : Option Addr) (n c : Nat) (l : List Int) (w : World) (hp : PredI f #[] p w) (h : Lz NoX w 1 A n (ICs l)) (hn : n ≤ 100000) :
    Calls Try.prog 50 #[.slice A n c, .func (.func f) #[] #[]] w (RetV w (.bool (l.any p))) := by
  have HC := Lib.hid (idxI_any f #[] p eg A n c l w hp h hn)
  clear h hp
  go_enter Try.func50, Try.ntmps50
  go_wp2_with (go_at_call 59; refine HC.out.mono ?_; rintro e z ⟨v, rfl, hv, hz⟩; have HV := Lib.hid hv; have HZ := Lib.hid hz; clear hv hz)
  go_ret
  exact ⟨by rw [← HV.out]; rfl, HZ.out⟩
def pageB (n : Int) : Bool := decide (1 ≤ n) && decide (n ≤ 255)
set_option maxHeartbeats 400000 in
theorem isPage_any (n : Int) (w : World) : Calls Try.prog 44 #[.int .i64 n] w (fun e z => e = .returned (.bool (pageB n)) ∧ z = w) := by
  by_cases h1 : 1 ≤ n
  · have HE : Hid (pageB n = decide (n ≤ 255)) := by show _ = _; unfold pageB; rw [decide_eq_true h1]; rfl
    go_enter Try.func44, Try.ntmps44
    go_wp2_with fail
    go_ret
    exact ⟨by rw [HE.out]; rfl, rfl⟩
  · have HE : Hid (pageB n = false) := by show _ = _; unfold pageB; rw [decide_eq_false h1]; rfl
    go_enter Try.func44, Try.ntmps44
    go_wp2_with fail
    go_ret
    exact ⟨by rw [HE.out]; rfl, rfl⟩
def noPage (n : Int) : Bool := !pageB n
set_option maxHeartbeats 400000 in
theorem right1_any (n : Int) (w : World) : Calls Try.prog 51 #[.int .i64 n] w (RetV w (.bool (noPage n))) := by
  go_enter Try.func51, Try.ntmps51
  go_wp2_with (go_at_call 44; refine (isPage_any n w).mono ?_; rintro e z ⟨rfl, rfl⟩)
  go_ret
  exact ⟨rfl, Below.refl _ _⟩
theorem ent_right1 : ∀ args w, (callFunc 51 args).run Try.prog w = .ok (.enter 51 args) w := enters_of Try.func51 (by kernel_rfl) rfl
/-- Whether Put takes the region. -/
def rightB (pn rn : Nat) (ps : List Int) : Bool := decide (0 ≤ roomI pn rn) && !ps.any noPage
set_option maxHeartbeats 3200000 in
theorem rightP_any (d : Bx) (PA : Option Addr) (pn pc : Nat) (RA : Option Addr) (rn rc : Nat) (ps : List Int) (rs : List Rc) (w : World) (h : BkL w PA pn RA rn ps rs) (hpn : pn ≤ 90000) (hrn : rn ≤ 90000) :
    Calls Try.prog 41 #[.agg (bkA d (.slice PA pn pc) (.slice RA rn rc))] w (RetV w (.bool (rightB pn rn ps))) := by
  have HBK := Lib.hid h
  clear h
  have HA : Hid (At (w.alloc (.cells (bkA d (.slice PA pn pc) (.slice RA rn rc)) 44)) w.heap.size 44 (bkA d (.slice PA pn pc) (.slice RA rn rc))) := At.new w 44 (bkA d (.slice PA pn pc) (.slice RA rn rc))
  have HB : Hid (Below w.heap.size w (w.alloc (.cells (bkA d (.slice PA pn pc) (.slice RA rn rc)) 44))) := (Below.refl _ w).alloc (Nat.le_refl _) _
  obtain ⟨b4, hb4⟩ : ∃ b, ps.any noPage = b := ⟨_, rfl⟩
  have H4 := Lib.hid hb4
  have HE0 : Hid (rightB pn rn ps = (decide (0 ≤ roomI pn rn) && !b4)) := by show _ = _; unfold rightB; rw [hb4]
  clear hb4
  by_cases h3 : 0 ≤ roomI pn rn
  · have HE : Hid (rightB pn rn ps = !b4) := by show _ = _; rw [HE0.out, decide_eq_true h3]; rfl
    clear HE0
    go_enter Try.func41, Try.ntmps41
    go_wp2_with (first
      | (refine wpList_load_at 44 3 (.tmp 1) rfl rfl rfl w.heap.size rfl (bkA d (.slice PA pn pc) (.slice RA rn rc)) 6 strBk rfl HA.out ?_)
      | (go_at_call 24; refine (Room_any d PA pn pc RA rn rc _ (by omega) (by omega)).mono ?_; rintro e z1 ⟨rfl, hz1⟩; have HW1 := Lib.hid (HB.out.trans (hz1.mono HB.out.size)); have c1a : z1.cell? ⟨w.heap.size, 4, none⟩ = some (.slice PA pn pc) := (HA.out.under hz1 HA.out.lt).cell 4; clear hz1)
      | (go_at_call 50; refine (contI_any 51 noPage ent_right1 PA pn pc ps _ (fun W r _ => right1_any r W) (HBK.out.p.below HW1.out) (by omega)).mono ?_; rintro e z2 ⟨rfl, hz2⟩; have HW2 := Lib.hid (HW1.out.trans (hz2.mono HW1.out.size)); clear hz2; rw [H4.out])
      )
    go_ret
    exact ⟨by rw [HE.out]; rfl, HW2.out⟩
  · have HE : Hid (rightB pn rn ps = false) := by show _ = _; rw [HE0.out, decide_eq_false h3]; rfl
    clear HE0
    go_enter Try.func41, Try.ntmps41
    go_wp2_with (first
      | (refine wpList_load_at 44 3 (.tmp 1) rfl rfl rfl w.heap.size rfl (bkA d (.slice PA pn pc) (.slice RA rn rc)) 6 strBk rfl HA.out ?_)
      | (go_at_call 24; refine (Room_any d PA pn pc RA rn rc _ (by omega) (by omega)).mono ?_; rintro e z1 ⟨rfl, hz1⟩; have HW1 := Lib.hid (HB.out.trans (hz1.mono HB.out.size)); have c1a : z1.cell? ⟨w.heap.size, 4, none⟩ = some (.slice PA pn pc) := (HA.out.under hz1 HA.out.lt).cell 4; clear hz1)
      )
    go_ret
    exact ⟨by rw [HE.out]; rfl, HW1.out⟩
end Go.Proofs.Ytgjkbnplpioloaa
