/-
  ContainsFunc, isPage, right.
  Conditions: at most 90000 records and pages.
-/
import Derived.Test.YtpffnjnncgmgnaaB4
namespace Go.Proofs.Ytpffnjnncgmgnaa
open Go.RowKit
attribute [local go_sem] Oper.semAt_some
set_option maxRecDepth 20000

theorem any_of_at {α : Type} {p : α → Bool} {l : List α} {k : Nat} (hk : k < l.length) (h : p l[k] = true) : l.any p = true := List.any_eq_true.2 ⟨l[k], List.getElem_mem hk, h⟩
theorem any_of_none {α : Type} {p : α → Bool} {l : List α} (h : ∀ (j : Nat) (hj : j < l.length), j < l.length → p l[j] = false) : l.any p = false := by
  rw [List.any_eq_false]
  intro x hx
  obtain ⟨j, hj, rfl⟩ := List.getElem_of_mem hx
  rw [h j hj hj]
  decide
theorem idxP_any (p : Rc → Bool) (l : List Rc) : decide (0 ≤ idxP p l) = l.any p := by
  unfold idxP
  cases h : l.findIdx? p with
  | none =>
    rw [List.findIdx?_eq_none_iff] at h
    rw [List.any_eq_false.2 (fun x hx => by rw [h x hx]; decide)]
    rfl
  | some k =>
    obtain ⟨hk, hp, _⟩ := List.findIdx?_eq_some_iff_getElem.1 h
    rw [any_of_at hk hp]
    exact decide_eq_true (Int.natCast_nonneg k)
/-- A function that answers p of each number. -/
def PredI (f : Nat) (lb : Array Value) (p : Int → Bool) (w : World) : Prop := ∀ (W : World) (r : Int), Below w.heap.size w W → Calls Try.prog f (#[.int .i64 r] ++ lb) W (fun e z => e = .returned (.bool (p r)) ∧ Below W.heap.size W z)
/-- An index, or -1: whether p takes one. -/
def RetX (w : World) (b : Bool) (e : Ending) (z : World) : Prop := ∃ v : Int, e = .returned (.int .i64 v) ∧ decide (0 ≤ v) = b ∧ Below w.heap.size w z
set_option maxHeartbeats 1600000 in
theorem idxI_any (f : Nat) (lb : Array Value) (p : Int → Bool) (eg : ∀ args w, (callFunc f args).run Try.prog w = .ok (.enter f args) w) (A : Option Addr) (n c : Nat) (l : List Int) (w : World) (hp : PredI f lb p w) (h : Lz NoX w 1 A n (ICs l)) (hn : n ≤ 100000) :
    Calls Try.prog 56 #[.slice A n c, .func (.func f) #[] lb] w (RetX w (l.any p)) := by
  have HLN := Lib.hid h.iclen
  have HL := Lib.hid h
  have HP := Lib.hid hp
  clear h hp
  go_enter Try.func56, Try.ntmps56
  go_wp2_with fail
  go_loopw [8] (fun vi wr => ∃ k : Nat, k ≤ n ∧ vi = .int .i64 (k : Int) ∧ Hid (Below w.heap.size w wr) ∧ Hid (∀ (j : Nat) (hj : j < l.length), j < k → p l[j] = false)) (fun i _ => n - (intOf i).toNat)
  case atStart => exact ⟨0, Nat.zero_le _, by go_num, Lib.hid (Below.refl _ w), Lib.hid (fun _ _ h => absurd h (Nat.not_lt_zero _))⟩
  case round =>
    obtain ⟨k, hk, rfl, HB, HN⟩ := hrel
    by_cases hlt : k < n
    · obtain ⟨g, o, hl, rfl, hb, hc⟩ := HL.out.ic hlt
      obtain ⟨r, hr⟩ : ∃ r, l[k] = r := ⟨_, rfl⟩
      rw [hr] at hc
      have R1 : wr.cell? ⟨g, o + k, none⟩ = some (.int .i64 r) := (HB.out.cell (p := ⟨g, o + k, none⟩) hb).trans hc
      obtain ⟨b, hbv⟩ : ∃ b, p r = b := ⟨_, rfl⟩
      have HC := Lib.hid (HP.out wr r HB.out)
      rw [hbv] at HC
      have HBV : Hid (p l[k] = b) := by show _ = _; rw [hr]; exact hbv
      clear hc hr hbv
      cases b
      · go_wp2_with (go_at_fn f; refine HC.out.mono ?_; rintro e z ⟨rfl, hb2⟩; have HB2 := Lib.hid (HB.out.trans (hb2.mono HB.out.size)); clear hb2)
        exact ⟨⟨k + 1, by omega, by go_num, HB2, Lib.hid fun j hj hjk => by
          by_cases e : j = k
          · subst e
            exact HBV.out
          · exact HN.out j hj (by omega)⟩, by simp [intOf]; omega⟩
      · have HI := Lib.hid (any_of_at hl HBV.out)
        go_wp2_with (go_at_fn f; refine HC.out.mono ?_; rintro e z ⟨rfl, hb2⟩; have HB2 := Lib.hid (HB.out.trans (hb2.mono HB.out.size)); clear hb2)
        go_ret
        exact ⟨_, rfl, by rw [HI.out]; exact decide_eq_true (Int.natCast_nonneg k), HB2.out⟩
    · obtain rfl : k = n := by omega
      have HI : Hid (l.any p = false) := any_of_none fun j hj _ => HN.out j hj (by have := HLN.out; omega)
      go_wp2_with fail
      go_ret
      exact ⟨_, rfl, by rw [HI.out]; rfl, HB.out⟩
set_option maxHeartbeats 800000 in
theorem contI_any (f : Nat) (p : Int → Bool) (eg : ∀ args w, (callFunc f args).run Try.prog w = .ok (.enter f args) w) (A : Option Addr) (n c : Nat) (l : List Int) (w : World) (hp : PredI f #[] p w) (h : Lz NoX w 1 A n (ICs l)) (hn : n ≤ 100000) :
    Calls Try.prog 42 #[.slice A n c, .func (.func f) #[] #[]] w (RetV w (.bool (l.any p))) := by
  have HC := Lib.hid (idxI_any f #[] p eg A n c l w hp h hn)
  clear h hp
  go_enter Try.func42, Try.ntmps42
  go_wp2_with (go_at_call 56; refine HC.out.mono ?_; rintro e z ⟨v, rfl, hv, hz⟩; have HV := Lib.hid hv; have HZ := Lib.hid hz; clear hv hz)
  go_ret
  exact ⟨by rw [← HV.out]; rfl, HZ.out⟩
set_option maxHeartbeats 800000 in
theorem contR_any (f : Nat) (p : Rc → Bool) (eg : ∀ args w, (callFunc f args).run Try.prog w = .ok (.enter f args) w) (A : Option Addr) (n c : Nat) (l : List Rc) (w : World) (hp : PredF f #[] p w) (h : Lz NoX w 6 A n (rcsL l)) (hn : n ≤ 100000) :
    Calls Try.prog 44 #[.slice A n c, .func (.func f) #[] #[]] w (RetV w (.bool (l.any p))) := by
  have HC := Lib.hid (idxR_any f #[] p eg A n c l w hp h hn)
  have HV := Lib.hid (idxP_any p l)
  clear h hp
  go_enter Try.func44, Try.ntmps44
  go_wp2_with (go_at_call 30; refine HC.out.mono ?_; rintro e z ⟨rfl, hz⟩; have HZ := Lib.hid hz; clear hz)
  go_ret
  exact ⟨by rw [← HV.out]; rfl, HZ.out⟩
def pageB (n : Int) : Bool := decide (1 ≤ n) && decide (n ≤ 255)
set_option maxHeartbeats 400000 in
theorem isPage_any (n : Int) (w : World) : Calls Try.prog 36 #[.int .i64 n] w (fun e z => e = .returned (.bool (pageB n)) ∧ z = w) := by
  by_cases h1 : 1 ≤ n
  · have HE : Hid (pageB n = decide (n ≤ 255)) := by show _ = _; unfold pageB; rw [decide_eq_true h1]; rfl
    go_enter Try.func36, Try.ntmps36
    go_wp2_with fail
    go_ret
    exact ⟨by rw [HE.out]; rfl, rfl⟩
  · have HE : Hid (pageB n = false) := by show _ = _; unfold pageB; rw [decide_eq_false h1]; rfl
    go_enter Try.func36, Try.ntmps36
    go_wp2_with fail
    go_ret
    exact ⟨by rw [HE.out]; rfl, rfl⟩
def noPage (n : Int) : Bool := !pageB n
set_option maxHeartbeats 400000 in
theorem right1_any (n : Int) (w : World) : Calls Try.prog 43 #[.int .i64 n] w (RetV w (.bool (noPage n))) := by
  go_enter Try.func43, Try.ntmps43
  go_wp2_with (go_at_call 36; refine (isPage_any n w).mono ?_; rintro e z ⟨rfl, rfl⟩)
  go_ret
  exact ⟨rfl, Below.refl _ _⟩
def bigV (r : Rc) : Bool := decide (15 < r.val.length)
set_option maxHeartbeats 400000 in
theorem right2_any (r : Rc) (w : World) : Calls Try.prog 45 #[.agg (rcA r)] w (RetV w (.bool (bigV r))) := by
  obtain ⟨sv, hsv⟩ : ∃ sv, strOf r.val = sv := ⟨_, rfl⟩
  obtain ⟨k, hk⟩ : ∃ k, r.val.length = k := ⟨_, rfl⟩
  have hsz : sv.size = k := by rw [← hsv, strOf_size, hk]
  have c4 : (w.alloc (.cells (rcA r) 52)).cell? ⟨w.heap.size, 4, none⟩ = some (.string sv) := by rw [← hsv]; exact (At.new w 52 (rcA r)).cell 4
  have HE : Hid (bigV r = decide (15 < k)) := by show _ = _; unfold bigV; rw [hk]
  have HB : Hid (Below w.heap.size w (w.alloc (.cells (rcA r) 52))) := (Below.refl _ w).alloc (Nat.le_refl _) _
  clear hsv hk
  go_enter Try.func45, Try.ntmps45
  go_wp2_with fail
  go_ret
  exact ⟨by rw [HE.out]; first | rfl | (congr 3; simp; omega), HB.out⟩
theorem ent_right1 : ∀ args w, (callFunc 43 args).run Try.prog w = .ok (.enter 43 args) w := enters_of Try.func43 (by kernel_rfl) rfl
theorem ent_right2 : ∀ args w, (callFunc 45 args).run Try.prog w = .ok (.enter 45 args) w := enters_of Try.func45 (by kernel_rfl) rfl
/-- Whether Put takes the bucket. -/
def rightB (d : Int) (pn rn : Nat) (ps : List Int) (rs : List Rc) : Bool := decide (0 ≤ d) && (decide (d ≤ 6) && (decide (0 ≤ roomI pn rn) && (!ps.any noPage && !rs.any bigV)))
set_option maxHeartbeats 3200000 in
theorem rightP_any (d : Int) (PA : Option Addr) (pn pc : Nat) (RA : Option Addr) (rn rc : Nat) (ps : List Int) (rs : List Rc) (w : World) (h : BkL w PA pn RA rn ps rs) (hpn : pn ≤ 90000) (hrn : rn ≤ 90000) :
    Calls Try.prog 33 #[.agg (bkA d (.slice PA pn pc) (.slice RA rn rc))] w (RetV w (.bool (rightB d pn rn ps rs))) := by
  have HBK := Lib.hid h
  clear h
  have hA := At.new w 29 (bkA d (.slice PA pn pc) (.slice RA rn rc))
  have c0 : (w.alloc (.cells (bkA d (.slice PA pn pc) (.slice RA rn rc)) 29)).cell? ⟨w.heap.size, 0, none⟩ = some (.int .i64 d) := hA.cell 0
  have c1 : (w.alloc (.cells (bkA d (.slice PA pn pc) (.slice RA rn rc)) 29)).cell? ⟨w.heap.size, 1, none⟩ = some (.slice PA pn pc) := hA.cell 1
  have c2 : (w.alloc (.cells (bkA d (.slice PA pn pc) (.slice RA rn rc)) 29)).cell? ⟨w.heap.size, 2, none⟩ = some (.slice RA rn rc) := hA.cell 2
  have HB : Hid (Below w.heap.size w (w.alloc (.cells (bkA d (.slice PA pn pc) (.slice RA rn rc)) 29))) := (Below.refl _ w).alloc (Nat.le_refl _) _
  have HLT := Lib.hid hA.lt
  clear hA
  obtain ⟨b4, hb4⟩ : ∃ b, ps.any noPage = b := ⟨_, rfl⟩
  obtain ⟨b5, hb5⟩ : ∃ b, rs.any bigV = b := ⟨_, rfl⟩
  have H4 := Lib.hid hb4
  have H5 := Lib.hid hb5
  have HE0 : Hid (rightB d pn rn ps rs = (decide (0 ≤ d) && (decide (d ≤ 6) && (decide (0 ≤ roomI pn rn) && (!b4 && !b5))))) := by show _ = _; unfold rightB; rw [hb4, hb5]
  clear hb4 hb5
  by_cases h1 : 0 ≤ d
  · by_cases h2 : d ≤ 6
    · by_cases h3 : 0 ≤ roomI pn rn
      · cases b4
        · have HE : Hid (rightB d pn rn ps rs = !b5) := by show _ = _; rw [HE0.out, decide_eq_true h1, decide_eq_true h2, decide_eq_true h3]; rfl
          clear HE0
          go_enter Try.func33, Try.ntmps33
          go_wp2_with (first
            | (go_at_call 11; refine (Room_any d PA pn pc RA rn rc _ (by omega) (by omega)).mono ?_; rintro e z1 ⟨rfl, hz1⟩; have HW1 := Lib.hid (HB.out.trans (hz1.mono HB.out.size)); have c1a : z1.cell? ⟨w.heap.size, 1, none⟩ = some (.slice PA pn pc) := (hz1.cell (p := ⟨w.heap.size, 1, none⟩) HLT.out).trans c1; have c2a : z1.cell? ⟨w.heap.size, 2, none⟩ = some (.slice RA rn rc) := (hz1.cell (p := ⟨w.heap.size, 2, none⟩) HLT.out).trans c2; have hsize1 := hz1.size; clear hz1)
            | (go_at_call 42; refine (contI_any 43 noPage ent_right1 PA pn pc ps _ (fun W r _ => right1_any r W) (HBK.out.p.below HW1.out) (by omega)).mono ?_; rintro e z2 ⟨rfl, hz2⟩; have hsz1 : (w.alloc (.cells (bkA d (.slice PA pn pc) (.slice RA rn rc)) 29)).heap.size ≤ z1.heap.size := hsize1; have HW2 := Lib.hid (HW1.out.trans (hz2.mono HW1.out.size)); have c2b : z2.cell? ⟨w.heap.size, 2, none⟩ = some (.slice RA rn rc) := (hz2.cell (p := ⟨w.heap.size, 2, none⟩) (Nat.lt_of_lt_of_le HLT.out hsz1)).trans c2a; clear hz2; rw [H4.out])
            | (go_at_call 44; refine (contR_any 45 bigV ent_right2 RA rn rc rs _ (fun W r _ => right2_any r W) (HBK.out.r.below HW2.out) (by omega)).mono ?_; rintro e z3 ⟨rfl, hz3⟩; have HW3 := Lib.hid (HW2.out.trans (hz3.mono HW2.out.size)); clear hz3; rw [H5.out])
            )
          go_ret
          exact ⟨by rw [HE.out]; rfl, HW3.out⟩
        · have HE : Hid (rightB d pn rn ps rs = false) := by show _ = _; rw [HE0.out, decide_eq_true h1, decide_eq_true h2, decide_eq_true h3]; rfl
          clear HE0
          go_enter Try.func33, Try.ntmps33
          go_wp2_with (first
            | (go_at_call 11; refine (Room_any d PA pn pc RA rn rc _ (by omega) (by omega)).mono ?_; rintro e z1 ⟨rfl, hz1⟩; have HW1 := Lib.hid (HB.out.trans (hz1.mono HB.out.size)); have c1a : z1.cell? ⟨w.heap.size, 1, none⟩ = some (.slice PA pn pc) := (hz1.cell (p := ⟨w.heap.size, 1, none⟩) HLT.out).trans c1; have c2a : z1.cell? ⟨w.heap.size, 2, none⟩ = some (.slice RA rn rc) := (hz1.cell (p := ⟨w.heap.size, 2, none⟩) HLT.out).trans c2; have hsize1 := hz1.size; clear hz1)
            | (go_at_call 42; refine (contI_any 43 noPage ent_right1 PA pn pc ps _ (fun W r _ => right1_any r W) (HBK.out.p.below HW1.out) (by omega)).mono ?_; rintro e z2 ⟨rfl, hz2⟩; have hsz1 : (w.alloc (.cells (bkA d (.slice PA pn pc) (.slice RA rn rc)) 29)).heap.size ≤ z1.heap.size := hsize1; have HW2 := Lib.hid (HW1.out.trans (hz2.mono HW1.out.size)); have c2b : z2.cell? ⟨w.heap.size, 2, none⟩ = some (.slice RA rn rc) := (hz2.cell (p := ⟨w.heap.size, 2, none⟩) (Nat.lt_of_lt_of_le HLT.out hsz1)).trans c2a; clear hz2; rw [H4.out])
            )
          go_ret
          exact ⟨by rw [HE.out]; rfl, HW2.out⟩
      · have HE : Hid (rightB d pn rn ps rs = false) := by show _ = _; rw [HE0.out, decide_eq_true h1, decide_eq_true h2, decide_eq_false h3]; rfl
        clear HE0
        go_enter Try.func33, Try.ntmps33
        go_wp2_with (first
          | (go_at_call 11; refine (Room_any d PA pn pc RA rn rc _ (by omega) (by omega)).mono ?_; rintro e z1 ⟨rfl, hz1⟩; have HW1 := Lib.hid (HB.out.trans (hz1.mono HB.out.size)); have c1a : z1.cell? ⟨w.heap.size, 1, none⟩ = some (.slice PA pn pc) := (hz1.cell (p := ⟨w.heap.size, 1, none⟩) HLT.out).trans c1; have c2a : z1.cell? ⟨w.heap.size, 2, none⟩ = some (.slice RA rn rc) := (hz1.cell (p := ⟨w.heap.size, 2, none⟩) HLT.out).trans c2; have hsize1 := hz1.size; clear hz1)
          )
        go_ret
        exact ⟨by rw [HE.out]; rfl, HW1.out⟩
    · have HE : Hid (rightB d pn rn ps rs = false) := by show _ = _; rw [HE0.out, decide_eq_true h1, decide_eq_false h2]; rfl
      clear HE0
      go_enter Try.func33, Try.ntmps33
      go_wp2_with fail
      go_ret
      exact ⟨by rw [HE.out]; rfl, HB.out⟩
  · have HE : Hid (rightB d pn rn ps rs = false) := by show _ = _; rw [HE0.out, decide_eq_false h1]; rfl
    clear HE0
    go_enter Try.func33, Try.ntmps33
    go_wp2_with fail
    go_ret
    exact ⟨by rw [HE.out]; rfl, HB.out⟩
end Go.Proofs.Ytpffnjnncgmgnaa
