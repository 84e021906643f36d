/-
  The reference's claims in memory, four cells each; the walks of Waits, Mode.
  Conditions: at most 100000 claims.
-/
import Derived.Test.YthbifccankfngaaGreatDoorKXQ
namespace Go.Proofs.YthbifccankfngaaGreatDoor
open Go.RowKit Go.Shelf
attribute [local go_sem] Oper.semAt_some
set_option maxRecDepth 20000

def rcV (c : Cl) : List Value := [.int .i64 c.1.1, .int .u64 (c.1.2 : Int), .int .u64 (c.2.1 : Int), .int .i64 c.2.2]
def rcA (c : Cl) : Array Value := #[.int .i64 c.1.1, .int .u64 (c.1.2 : Int), .int .u64 (c.2.1 : Int), .int .i64 c.2.2]
def rcL (l : List Cl) : List Value := l.flatMap rcV
theorem rcL_cons (c : Cl) (l : List Cl) : rcL (c :: l) = rcV c ++ rcL l := rfl
theorem rcL_append (a b : List Cl) : rcL (a ++ b) = rcL a ++ rcL b := by simp [rcL]
theorem rcL_one (c : Cl) : rcL [c] = rcV c := by simp [rcL]
theorem rcL_length : ∀ l : List Cl, (rcL l).length = l.length * 4
  | [] => rfl
  | c :: l => by
    rw [rcL_cons, List.length_append, rcL_length l, List.length_cons]
    simp only [rcV, List.length_cons, List.length_nil]
    omega
theorem rcL_get : ∀ (l : List Cl) (k : Nat) (h : k < l.length) (j : Nat) (u : Value), (rcV l[k])[j]? = some u → (rcL l)[k * 4 + j]? = some u
  | [], k, h, _, _, _ => absurd h (Nat.not_lt_zero _)
  | c :: l, 0, _, j, u, hu => by
    have hj : j < (rcV c).length := by
      rcases Nat.lt_or_ge j (rcV c).length with h | h
      · exact h
      · have : (rcV c)[j]? = none := List.getElem?_eq_none h
        rw [List.getElem_cons_zero] at hu
        rw [this] at hu
        cases hu
    rw [rcL_cons, List.getElem?_append_left (by omega), Nat.zero_mul, Nat.zero_add]
    exact hu
  | c :: l, k + 1, h, j, u, hu => by
    have hl : (rcV c).length = 4 := rfl
    rw [rcL_cons, List.getElem?_append_right (by omega), hl, show (k + 1) * 4 + j - 4 = k * 4 + j by omega]
    exact rcL_get l k (by simpa using h) j u (by simpa using hu)
theorem Lz.rc {X : Nat → Prop} {w : World} {A : Option Addr} {n k : Nat} {l : List Cl} (h : Lz X w 4 A n (rcL l)) (hk : k < n) : ∃ b o, ∃ hl : k < l.length, A = some ⟨b, o, none⟩ ∧ b < w.heap.size ∧ w.rangeAt b (o + k * 4) (rcV l[k]) := by
  have hl : k < l.length := by have := h.len; rw [rcL_length] at this; omega
  obtain ⟨b, o, h1, _, h3, h4⟩ := h.spot (by omega)
  refine ⟨b, o, hl, h1, h3, fun j v hv => ?_⟩
  rw [Nat.add_assoc]
  exact h4 _ _ (rcL_get l k hl j v hv)
theorem Lz.rclen {X : Nat → Prop} {w : World} {A : Option Addr} {n : Nat} {l : List Cl} (h : Lz X w 4 A n (rcL l)) : l.length = n := by
  have := h.len
  rw [rcL_length] at this
  omega
/-- Where somebody's wish stands; -1: they have none. -/
def wIdx (q : List Cl) (t : Nat) : Int := match q.findIdx? fun c => c.2.1 == t with
  | some i => (i : Int)
  | none => -1
theorem wIdx_none {q : List Cl} {t : Nat} (h : ∀ (j : Nat) (hj : j < q.length), q[j].2.1 ≠ t) : wIdx q t = -1 := by
  unfold wIdx
  have : (q.findIdx? fun c => c.2.1 == t) = none := by
    rw [List.findIdx?_eq_none_iff]
    intro x hx
    obtain ⟨j, hj, rfl⟩ := List.getElem_of_mem hx
    simpa using h j hj
  rw [this]
theorem wIdx_some {q : List Cl} {t k : Nat} (hk : k < q.length) (h1 : q[k].2.1 = t) (h : ∀ (j : Nat) (hj : j < q.length), j < k → q[j].2.1 ≠ t) : wIdx q t = (k : Int) := by
  unfold wIdx
  have : (q.findIdx? fun c => c.2.1 == t) = some k := by
    rw [List.findIdx?_eq_some_iff_getElem]
    exact ⟨hk, by simpa using h1, fun j hj => by simpa using h j (by omega) hj⟩
  rw [this]
/-- A table of the reference as it is passed. -/
def rtA (A1 A2 : Option Addr) (n1 c1 n2 c2 : Nat) : Array Value := #[.slice A1 n1 c1, .slice A2 n2 c2]
def ScL (w : World) (p : Cl → Bool) (l : List Cl) (n : Nat) (i : Value) (z : World) : Prop :=
  ∃ k : Nat, k ≤ n ∧ i = .int .i64 (k : Int) ∧ Hid (Below w.heap.size w z) ∧ Hid (∀ (j : Nat) (h : j < l.length), j < k → p l[j] = false)
theorem sc_start (w : World) (p : Cl → Bool) (l : List Cl) (n : Nat) : ScL w p l n (.int .i64 0) w := ⟨0, Nat.zero_le _, rfl, Lib.hid (Below.refl _ w), Lib.hid (fun _ _ h => absurd h (Nat.not_lt_zero _))⟩
theorem sc_next {p : Cl → Bool} {l : List Cl} {k : Nat} (h : ∀ (j : Nat) (h : j < l.length), j < k → p l[j] = false) (hk : k < l.length) (h1 : p l[k] = false) : ∀ (j : Nat) (h : j < l.length), j < k + 1 → p l[j] = false := fun j hj hjk => by
  rcases Nat.lt_succ_iff_lt_or_eq.1 hjk with h2 | rfl
  · exact h j hj h2
  · exact h1
set_option maxHeartbeats 1600000 in
theorem rWaits_any (A1 A : Option Addr) (n1 c1 n c : Nat) (q : List Cl) (t : Nat) (w : World) (h : Lz (fun _ => False) w 4 A n (rcL q)) (hn : n ≤ 100000) :
    Calls Tryz.prog 16 #[.agg (rtA A1 A n1 c1 n c), .int .u64 (t : Int)] w (RetB w (.int .i64 (wIdx q t))) := by
  obtain ⟨b2, hb2⟩ : ∃ b2, w.heap.size = b2 := ⟨_, rfl⟩
  have HB := Lib.hid (show Below w.heap.size w (w.alloc (.cells (rtA A1 A n1 c1 n c) 28)) from (Below.refl _ w).alloc (Nat.le_refl _) _)
  have HL := Lib.hid (h.below HB.out)
  have A2 := Lib.hid (At.new w 28 (rtA A1 A n1 c1 n c))
  have hlen := h.rclen
  clear h
  go_enter Tryz.func16, Tryz.ntmps16
  go_upto_region 1 with fail
  rw [hb2] at A2
  generalize w.alloc (.cells (rtA A1 A n1 c1 n c) 28) = z at HB HL A2 ⊢
  have hbz : b2 < z.heap.size := A2.out.lt
  clear hb2
  go_wp2_with fail
  go_loopw [5] (fun i wr => ScL z (fun c => c.2.1 == t) q n i wr) (fun i _ => n - (intOf i).toNat)
  case atStart => exact sc_start z _ q n
  case round =>
    obtain ⟨k, hk, rfl, HR, HN⟩ := hrel
    have p1 : wr.cell? ⟨b2, 1, none⟩ = some (.slice A n c) := (A2.out.under HR.out hbz).cell 1
    by_cases hlt : k < n
    · obtain ⟨b, o, hl, rfl, hb, hr⟩ := HL.out.rc hlt
      have q2 : wr.cell? ⟨b, o + k * 4 + 2, none⟩ = some (.int .u64 (q[k].2.1 : Int)) := (HR.out.cell (p := ⟨b, o + k * 4 + 2, none⟩) hb).trans (hr 2 _ rfl)
      obtain ⟨x, hx⟩ : ∃ x, q[k] = x := ⟨_, rfl⟩
      rw [hx] at q2
      have HX := Lib.hid hx
      clear hr hx
      by_cases hpx : x.2.1 = t
      · have e : ((x.2.1 : Int) == (t : Int)) = true := by rw [nat_beq, hpx, beq_self_eq_true]
        have HPX := Lib.hid hpx
        clear hpx
        go_wp2_with fail
        go_ret
        exact ⟨by rw [wIdx_some hl (by rw [HX.out]; exact HPX.out) (fun j hj hjk => by have := HN.out j hj hjk; simpa using this)]; rfl, HB.out.trans (HR.out.mono HB.out.size)⟩
      · have e : ((x.2.1 : Int) == (t : Int)) = false := by rw [nat_beq]; simpa using hpx
        have HPX := Lib.hid hpx
        clear hpx
        go_wp2_with fail
        exact ⟨⟨k + 1, by omega, by go_num, HR, Lib.hid (sc_next (p := fun c => c.2.1 == t) HN.out hl (by rw [HX.out]; simpa using HPX.out))⟩, by simp [intOf]; omega⟩
    · obtain rfl : k = n := by omega
      go_wp2_with fail
      go_ret
      exact ⟨by rw [wIdx_none (fun j hj => by have := HN.out j hj (by omega); simpa using this)]; rfl, HB.out.trans (HR.out.mono HB.out.size)⟩
/-- Two resources, compared. -/
theorem rs_beq (a b : Rs) : (a == b) = (a.1 == b.1 && ((a.2 : Int) == (b.2 : Int))) := by
  obtain ⟨a1, a2⟩ := a
  obtain ⟨b1, b2⟩ := b
  rw [nat_beq]
  rfl
theorem exec_eqR {o : Oper} {a : Act} {w : World} (x y : Operand) (ho : o.op = .binOp .eql 33 x y 33) (r s : Rs) (hx : a.eval x = .agg (rsA r)) (hy : a.eval y = .agg (rsA s)) : (execOp a.eval o).run Tryz.prog w = .ok (.value (.bool (r == s))) w := by
  obtain ⟨r1, r2⟩ := r
  obtain ⟨s1, s2⟩ := s
  unfold rsA at hx hy
  unfold execOp
  rw [ho]
  simp only [hx, hy]
  rw [rs_beq]
  go_simp
  by_cases h1 : r1 = s1
  · by_cases h2 : (r2 : Int) = (s2 : Int)
    · simp [h1, h2]
    · simp [h1, h2]
  · simp [h1]
theorem modeR_none {l : List Cl} {t : Nat} {r : Rs} (h : ∀ (j : Nat) (hj : j < l.length), isC t r l[j] = false) : modeR l t r = 0 := by
  unfold modeR
  have : l.find? (isC t r) = none := by
    rw [List.find?_eq_none]
    intro x hx
    obtain ⟨j, hj, rfl⟩ := List.getElem_of_mem hx
    rw [h j hj]
    simp
  rw [this]
  rfl
theorem modeR_at {l : List Cl} {t k : Nat} {r : Rs} (hk : k < l.length) (h1 : isC t r l[k] = true) (h : ∀ (j : Nat) (hj : j < l.length), j < k → isC t r l[j] = false) : modeR l t r = l[k].2.2 := by
  unfold modeR
  have : l.find? (isC t r) = some l[k] := by
    rw [List.find?_eq_some_iff_getElem]
    exact ⟨h1, k, hk, rfl, fun j hj => by rw [h j (by omega) hj]; rfl⟩
  rw [this]
  rfl
set_option maxHeartbeats 3200000 in
theorem rMode_any (A : Option Addr) (n c : Nat) (l : List Cl) (t : Nat) (r : Rs) (w : World) (h : Lz (fun _ => False) w 4 A n (rcL l)) (hn : n ≤ 100000) :
    Calls Tryz.prog 31 #[.slice A n c, .int .u64 (t : Int), .agg (rsA r)] w (RetB w (.int .i64 (modeR l t r))) := by
  obtain ⟨b5, hb5⟩ : ∃ b5, w.heap.size = b5 := ⟨_, rfl⟩
  have HB := Lib.hid (show Below w.heap.size w (w.alloc (.cells (rsA r) 33)) from (Below.refl _ w).alloc (Nat.le_refl _) _)
  have HL := Lib.hid (h.below HB.out)
  have A5 := Lib.hid (At.new w 33 (rsA r))
  have hlen := h.rclen
  clear h
  go_enter Tryz.func31, Tryz.ntmps31
  go_upto_region 1 with fail
  rw [hb5] at A5
  generalize w.alloc (.cells (rsA r) 33) = z at HB HL A5 ⊢
  have hbz : b5 < z.heap.size := A5.out.lt
  clear hb5
  go_wp2_with fail
  go_loopw [7] (fun i wr => ScL z (fun c => isC t r c) l n i wr) (fun i _ => n - (intOf i).toNat)
  case atStart => exact sc_start z _ l n
  case round =>
    obtain ⟨k, hk, rfl, HR, HN⟩ := hrel
    have A5R := Lib.hid (A5.out.under HR.out hbz)
    by_cases hlt : k < n
    · obtain ⟨b, o, hl, rfl, hb0, hr⟩ := HL.out.rc hlt
      have hb : b < wr.heap.size := Nat.lt_of_lt_of_le hb0 HR.out.size
      have R1 : Hid (wr.rangeAt b (o + k * 4) (rcV l[k])) := fun j v hv => (HR.out.cell (p := ⟨b, o + k * 4 + j, none⟩) hb0).trans (hr j v hv)
      obtain ⟨x, hx⟩ : ∃ x, l[k] = x := ⟨_, rfl⟩
      rw [hx] at R1
      have R0 : Hid (wr.rangeAt b (o + k * 4) (encR x.1)) := fun j v hv => R1.out j v (by
        match j, hv with
        | 0, hv => exact hv
        | 1, hv => exact hv)
      have HX := Lib.hid hx
      clear hr hx hb0
      go_upto_region 4 with fail
      obtain ⟨bq, hbq⟩ : ∃ bq, (x.1 == r) = bq := ⟨_, rfl⟩
      have HBQ := Lib.hid hbq
      clear hbq
      by_cases hpx : x.2.1 = t
      · have e : ((x.2.1 : Int) == (t : Int)) = true := by rw [nat_beq, hpx, beq_self_eq_true]
        have HPX := Lib.hid hpx
        clear hpx
        refine wp_region_held_drew (S := Below wr.heap.size wr) (by kernel_rfl) ((Below.refl _ wr).drew) (fun hS => ?_)
        refine takeH (i := 0) (d := 14) (v := ?vrm10) rfl (by kernel_rfl) (by kernel_rfl) (by kernel_rfl) (fun _ _ _ h => h) rfl (by rfl) ?yrm10 hS ?rrm10
        case yrm10 => (intro wz hz; have q0 : wz.rangeAt b (o + k * 4) (encR x.1) := fun j v hv => (hz.cell (p := ⟨b, o + k * 4 + j, none⟩) hb).trans (R0.out j v hv); have q2 : wz.cell? ⟨b, o + k * 4 + 2, none⟩ = some (.int .u64 (x.2.1 : Int)) := (hz.cell (p := ⟨b, o + k * 4 + 2, none⟩) hb).trans (R1.out 2 _ rfl); have q3 : wz.cell? ⟨b, o + k * 4 + 3, none⟩ = some (.int .i64 x.2.2) := (hz.cell (p := ⟨b, o + k * 4 + 3, none⟩) hb).trans (R1.out 3 _ rfl); go_simp <;> with_reducible rfl)
        simp only [List.setIfInBounds_toArray, List.set_cons_zero, List.set_cons_succ]
        refine takeH (i := 1) (d := 15) (v := ?vrm11) rfl (by kernel_rfl) (by kernel_rfl) (by kernel_rfl) (fun _ _ _ h => h) rfl (by rfl) ?yrm11 hS ?rrm11
        case yrm11 => (intro wz hz; have q0 : wz.rangeAt b (o + k * 4) (encR x.1) := fun j v hv => (hz.cell (p := ⟨b, o + k * 4 + j, none⟩) hb).trans (R0.out j v hv); have q2 : wz.cell? ⟨b, o + k * 4 + 2, none⟩ = some (.int .u64 (x.2.1 : Int)) := (hz.cell (p := ⟨b, o + k * 4 + 2, none⟩) hb).trans (R1.out 2 _ rfl); have q3 : wz.cell? ⟨b, o + k * 4 + 3, none⟩ = some (.int .i64 x.2.2) := (hz.cell (p := ⟨b, o + k * 4 + 3, none⟩) hb).trans (R1.out 3 _ rfl); go_simp <;> with_reducible rfl)
        simp only [List.setIfInBounds_toArray, List.set_cons_zero, List.set_cons_succ]
        refine takeH (i := 2) (d := 16) (v := ?vrm12) rfl (by kernel_rfl) (by kernel_rfl) (by kernel_rfl) (fun _ _ _ h => h) rfl (by rfl) ?yrm12 hS ?rrm12
        case yrm12 => (intro wz hz; have q0 : wz.rangeAt b (o + k * 4) (encR x.1) := fun j v hv => (hz.cell (p := ⟨b, o + k * 4 + j, none⟩) hb).trans (R0.out j v hv); have q2 : wz.cell? ⟨b, o + k * 4 + 2, none⟩ = some (.int .u64 (x.2.1 : Int)) := (hz.cell (p := ⟨b, o + k * 4 + 2, none⟩) hb).trans (R1.out 2 _ rfl); have q3 : wz.cell? ⟨b, o + k * 4 + 3, none⟩ = some (.int .i64 x.2.2) := (hz.cell (p := ⟨b, o + k * 4 + 3, none⟩) hb).trans (R1.out 3 _ rfl); go_simp <;> with_reducible rfl)
        simp only [List.setIfInBounds_toArray, List.set_cons_zero, List.set_cons_succ]
        refine takeH (i := 3) (d := 17) (v := ?vrm13) rfl (by kernel_rfl) (by kernel_rfl) (by kernel_rfl) (fun _ _ _ h => h) rfl (by rfl) ?yrm13 hS ?rrm13
        case yrm13 => (intro wz hz; have q0 : wz.rangeAt b (o + k * 4) (encR x.1) := fun j v hv => (hz.cell (p := ⟨b, o + k * 4 + j, none⟩) hb).trans (R0.out j v hv); have q2 : wz.cell? ⟨b, o + k * 4 + 2, none⟩ = some (.int .u64 (x.2.1 : Int)) := (hz.cell (p := ⟨b, o + k * 4 + 2, none⟩) hb).trans (R1.out 2 _ rfl); have q3 : wz.cell? ⟨b, o + k * 4 + 3, none⟩ = some (.int .i64 x.2.2) := (hz.cell (p := ⟨b, o + k * 4 + 3, none⟩) hb).trans (R1.out 3 _ rfl); go_simp <;> with_reducible rfl)
        simp only [List.setIfInBounds_toArray, List.set_cons_zero, List.set_cons_succ]
        refine takeH (i := 4) (d := 18) (v := ?vrm14) rfl (by kernel_rfl) (by kernel_rfl) (by kernel_rfl) (fun _ _ _ h => h) rfl (by rfl) ?yrm14 hS ?rrm14
        case yrm14 => (intro wz hz; have q0 : wz.rangeAt b (o + k * 4) (encR x.1) := fun j v hv => (hz.cell (p := ⟨b, o + k * 4 + j, none⟩) hb).trans (R0.out j v hv); have q2 : wz.cell? ⟨b, o + k * 4 + 2, none⟩ = some (.int .u64 (x.2.1 : Int)) := (hz.cell (p := ⟨b, o + k * 4 + 2, none⟩) hb).trans (R1.out 2 _ rfl); have q3 : wz.cell? ⟨b, o + k * 4 + 3, none⟩ = some (.int .i64 x.2.2) := (hz.cell (p := ⟨b, o + k * 4 + 3, none⟩) hb).trans (R1.out 3 _ rfl); go_simp <;> with_reducible rfl)
        simp only [List.setIfInBounds_toArray, List.set_cons_zero, List.set_cons_succ]
        refine takeH (i := 5) (d := 19) (v := ?vrm15) rfl (by kernel_rfl) (by kernel_rfl) (by kernel_rfl) (fun _ _ _ h => h) rfl (by rfl) ?yrm15 hS ?rrm15
        case yrm15 => (intro wz hz; have q0 : wz.rangeAt b (o + k * 4) (encR x.1) := fun j v hv => (hz.cell (p := ⟨b, o + k * 4 + j, none⟩) hb).trans (R0.out j v hv); have q2 : wz.cell? ⟨b, o + k * 4 + 2, none⟩ = some (.int .u64 (x.2.1 : Int)) := (hz.cell (p := ⟨b, o + k * 4 + 2, none⟩) hb).trans (R1.out 2 _ rfl); have q3 : wz.cell? ⟨b, o + k * 4 + 3, none⟩ = some (.int .i64 x.2.2) := (hz.cell (p := ⟨b, o + k * 4 + 3, none⟩) hb).trans (R1.out 3 _ rfl); go_simp <;> with_reducible rfl)
        simp only [List.setIfInBounds_toArray, List.set_cons_zero, List.set_cons_succ]
        refine takeH (i := 6) (d := 20) (v := ?vrm16) rfl (by kernel_rfl) (by kernel_rfl) (by kernel_rfl) (fun _ _ _ h => h) rfl (by rfl) ?yrm16 hS ?rrm16
        case yrm16 => (intro wz hz; have q0 : wz.rangeAt b (o + k * 4) (encR x.1) := fun j v hv => (hz.cell (p := ⟨b, o + k * 4 + j, none⟩) hb).trans (R0.out j v hv); have q2 : wz.cell? ⟨b, o + k * 4 + 2, none⟩ = some (.int .u64 (x.2.1 : Int)) := (hz.cell (p := ⟨b, o + k * 4 + 2, none⟩) hb).trans (R1.out 2 _ rfl); have q3 : wz.cell? ⟨b, o + k * 4 + 3, none⟩ = some (.int .i64 x.2.2) := (hz.cell (p := ⟨b, o + k * 4 + 3, none⟩) hb).trans (R1.out 3 _ rfl); go_simp <;> with_reducible rfl)
        simp only [List.setIfInBounds_toArray, List.set_cons_zero, List.set_cons_succ]
        refine takeH (i := 7) (d := 21) (v := ?vrm17) rfl (by kernel_rfl) (by kernel_rfl) (by kernel_rfl) (fun _ _ _ h => h) rfl (by rfl) ?yrm17 hS ?rrm17
        case yrm17 => (intro wz hz; have q0 : wz.rangeAt b (o + k * 4) (encR x.1) := fun j v hv => (hz.cell (p := ⟨b, o + k * 4 + j, none⟩) hb).trans (R0.out j v hv); have q2 : wz.cell? ⟨b, o + k * 4 + 2, none⟩ = some (.int .u64 (x.2.1 : Int)) := (hz.cell (p := ⟨b, o + k * 4 + 2, none⟩) hb).trans (R1.out 2 _ rfl); have q3 : wz.cell? ⟨b, o + k * 4 + 3, none⟩ = some (.int .i64 x.2.2) := (hz.cell (p := ⟨b, o + k * 4 + 3, none⟩) hb).trans (R1.out 3 _ rfl); go_simp <;> with_reducible rfl)
        simp only [List.setIfInBounds_toArray, List.set_cons_zero, List.set_cons_succ]
        refine takeH (i := 8) (d := 22) (v := ?vrm18) rfl (by kernel_rfl) (by kernel_rfl) (by kernel_rfl) (fun _ _ _ h => h) rfl (by rfl) ?yrm18 hS ?rrm18
        case yrm18 => (intro wz hz; have q0 : wz.rangeAt b (o + k * 4) (encR x.1) := fun j v hv => (hz.cell (p := ⟨b, o + k * 4 + j, none⟩) hb).trans (R0.out j v hv); have q2 : wz.cell? ⟨b, o + k * 4 + 2, none⟩ = some (.int .u64 (x.2.1 : Int)) := (hz.cell (p := ⟨b, o + k * 4 + 2, none⟩) hb).trans (R1.out 2 _ rfl); have q3 : wz.cell? ⟨b, o + k * 4 + 3, none⟩ = some (.int .i64 x.2.2) := (hz.cell (p := ⟨b, o + k * 4 + 3, none⟩) hb).trans (R1.out 3 _ rfl); go_simp <;> with_reducible rfl)
        simp only [List.setIfInBounds_toArray, List.set_cons_zero, List.set_cons_succ]
        refine takeH (i := 9) (d := 23) (v := ?vrm19) rfl (by kernel_rfl) (by kernel_rfl) (by kernel_rfl) (fun _ _ _ h => h) rfl (by rfl) ?yrm19 hS ?rrm19
        case yrm19 => (intro wz hz; have q0 : wz.rangeAt b (o + k * 4) (encR x.1) := fun j v hv => (hz.cell (p := ⟨b, o + k * 4 + j, none⟩) hb).trans (R0.out j v hv); have q2 : wz.cell? ⟨b, o + k * 4 + 2, none⟩ = some (.int .u64 (x.2.1 : Int)) := (hz.cell (p := ⟨b, o + k * 4 + 2, none⟩) hb).trans (R1.out 2 _ rfl); have q3 : wz.cell? ⟨b, o + k * 4 + 3, none⟩ = some (.int .i64 x.2.2) := (hz.cell (p := ⟨b, o + k * 4 + 3, none⟩) hb).trans (R1.out 3 _ rfl); go_simp <;> with_reducible rfl)
        simp only [List.setIfInBounds_toArray, List.set_cons_zero, List.set_cons_succ]
        refine takeH (i := 10) (d := 24) (v := ?vrm110) rfl (by kernel_rfl) (by kernel_rfl) (by kernel_rfl) (fun _ _ _ h => h) rfl (by rfl) ?yrm110 hS ?rrm110
        case yrm110 => (intro wz hz; have q0 : wz.rangeAt b (o + k * 4) (encR x.1) := fun j v hv => (hz.cell (p := ⟨b, o + k * 4 + j, none⟩) hb).trans (R0.out j v hv); have q2 : wz.cell? ⟨b, o + k * 4 + 2, none⟩ = some (.int .u64 (x.2.1 : Int)) := (hz.cell (p := ⟨b, o + k * 4 + 2, none⟩) hb).trans (R1.out 2 _ rfl); have q3 : wz.cell? ⟨b, o + k * 4 + 3, none⟩ = some (.int .i64 x.2.2) := (hz.cell (p := ⟨b, o + k * 4 + 3, none⟩) hb).trans (R1.out 3 _ rfl); go_simp <;> with_reducible rfl)
        simp only [List.setIfInBounds_toArray, List.set_cons_zero, List.set_cons_succ]
        refine takeH (i := 11) (d := 25) (v := ?vrm111) rfl (by kernel_rfl) (by kernel_rfl) (by kernel_rfl) (fun _ _ _ h => h) rfl (by rfl) ?yrm111 hS ?rrm111
        case yrm111 => (intro wz hz; have q0 : wz.rangeAt b (o + k * 4) (encR x.1) := fun j v hv => (hz.cell (p := ⟨b, o + k * 4 + j, none⟩) hb).trans (R0.out j v hv); have q2 : wz.cell? ⟨b, o + k * 4 + 2, none⟩ = some (.int .u64 (x.2.1 : Int)) := (hz.cell (p := ⟨b, o + k * 4 + 2, none⟩) hb).trans (R1.out 2 _ rfl); have q3 : wz.cell? ⟨b, o + k * 4 + 3, none⟩ = some (.int .i64 x.2.2) := (hz.cell (p := ⟨b, o + k * 4 + 3, none⟩) hb).trans (R1.out 3 _ rfl); go_simp <;> with_reducible rfl)
        simp only [List.setIfInBounds_toArray, List.set_cons_zero, List.set_cons_succ]
        refine takeH (i := 12) (d := 26) (v := .agg (rsA x.1)) rfl (by kernel_rfl) (by kernel_rfl) (by kernel_rfl) (fun _ _ _ h => h) rfl (by rfl) ?yrm112 hS ?rrm112
        case yrm112 => (intro wz hz; have q0 : wz.rangeAt b (o + k * 4) (encR x.1) := fun j v hv => (hz.cell (p := ⟨b, o + k * 4 + j, none⟩) hb).trans (R0.out j v hv); have q2 : wz.cell? ⟨b, o + k * 4 + 2, none⟩ = some (.int .u64 (x.2.1 : Int)) := (hz.cell (p := ⟨b, o + k * 4 + 2, none⟩) hb).trans (R1.out 2 _ rfl); have q3 : wz.cell? ⟨b, o + k * 4 + 3, none⟩ = some (.int .i64 x.2.2) := (hz.cell (p := ⟨b, o + k * 4 + 3, none⟩) hb).trans (R1.out 3 _ rfl); exact exec_load_in 33 (.tmp 25) rfl b (o + k * 4) rfl (encR x.1) 2 strR rfl q0)
        simp only [List.setIfInBounds_toArray, List.set_cons_zero, List.set_cons_succ]
        refine takeH (i := 13) (d := 27) (v := .agg (rsA r)) rfl (by kernel_rfl) (by kernel_rfl) (by kernel_rfl) (fun _ _ _ h => h) rfl (by rfl) ?yrm113 hS ?rrm113
        case yrm113 => (intro wz hz; have q0 : wz.rangeAt b (o + k * 4) (encR x.1) := fun j v hv => (hz.cell (p := ⟨b, o + k * 4 + j, none⟩) hb).trans (R0.out j v hv); have q2 : wz.cell? ⟨b, o + k * 4 + 2, none⟩ = some (.int .u64 (x.2.1 : Int)) := (hz.cell (p := ⟨b, o + k * 4 + 2, none⟩) hb).trans (R1.out 2 _ rfl); have q3 : wz.cell? ⟨b, o + k * 4 + 3, none⟩ = some (.int .i64 x.2.2) := (hz.cell (p := ⟨b, o + k * 4 + 3, none⟩) hb).trans (R1.out 3 _ rfl); exact exec_load_at 33 (.tmp 5) rfl b5 rfl (rsA r) 2 strR rfl (A5R.out.under hz A5R.out.lt))
        simp only [List.setIfInBounds_toArray, List.set_cons_zero, List.set_cons_succ]
        refine takeH (i := 14) (d := 28) (v := .bool bq) rfl (by kernel_rfl) (by kernel_rfl) (by kernel_rfl) (fun _ _ _ h => h) rfl (by rfl) ?yrm114 hS ?rrm114
        case yrm114 => (intro wz hz; have q0 : wz.rangeAt b (o + k * 4) (encR x.1) := fun j v hv => (hz.cell (p := ⟨b, o + k * 4 + j, none⟩) hb).trans (R0.out j v hv); have q2 : wz.cell? ⟨b, o + k * 4 + 2, none⟩ = some (.int .u64 (x.2.1 : Int)) := (hz.cell (p := ⟨b, o + k * 4 + 2, none⟩) hb).trans (R1.out 2 _ rfl); have q3 : wz.cell? ⟨b, o + k * 4 + 3, none⟩ = some (.int .i64 x.2.2) := (hz.cell (p := ⟨b, o + k * 4 + 3, none⟩) hb).trans (R1.out 3 _ rfl); rw [← HBQ.out]; exact exec_eqR (.tmp 26) (.tmp 27) rfl x.1 r rfl rfl)
        simp only [List.setIfInBounds_toArray, List.set_cons_zero, List.set_cons_succ]
        refine takeH (i := 15) (d := 29) (v := ?vrm115) rfl (by kernel_rfl) (by kernel_rfl) (by kernel_rfl) (fun _ _ _ h => h) rfl (by rfl) ?yrm115 hS ?rrm115
        case yrm115 => (intro wz hz; have q0 : wz.rangeAt b (o + k * 4) (encR x.1) := fun j v hv => (hz.cell (p := ⟨b, o + k * 4 + j, none⟩) hb).trans (R0.out j v hv); have q2 : wz.cell? ⟨b, o + k * 4 + 2, none⟩ = some (.int .u64 (x.2.1 : Int)) := (hz.cell (p := ⟨b, o + k * 4 + 2, none⟩) hb).trans (R1.out 2 _ rfl); have q3 : wz.cell? ⟨b, o + k * 4 + 3, none⟩ = some (.int .i64 x.2.2) := (hz.cell (p := ⟨b, o + k * 4 + 3, none⟩) hb).trans (R1.out 3 _ rfl); go_simp <;> with_reducible rfl)
        simp only [List.setIfInBounds_toArray, List.set_cons_zero, List.set_cons_succ]
        refine wpAnyH_done (by kernel_rfl) ?_ _
        have HS := Lib.hid (HR.out.trans (hS.mono HR.out.size))
        have q3 : ∀ wz, Below wr.heap.size wr wz → wz.cell? ⟨b, o + k * 4 + 3, none⟩ = some (.int .i64 x.2.2) := fun wz hz => (hz.cell (p := ⟨b, o + k * 4 + 3, none⟩) hb).trans (R1.out 3 _ rfl)
        have q4 := q3 _ hS
        clear hS q3
        cases bq
        · go_wp2_with fail
          exact ⟨⟨k + 1, by omega, by go_num, HS, Lib.hid (sc_next (p := fun c => isC t r c) HN.out hl (by rw [HX.out]; unfold isC; rw [HBQ.out]; simp))⟩, by simp [intOf]; omega⟩
        · go_wp2_with fail
          go_ret
          exact ⟨by rw [modeR_at hl (by rw [HX.out]; unfold isC; rw [HBQ.out, HPX.out]; simp) HN.out, HX.out]; rfl, HB.out.trans (HS.out.mono HB.out.size)⟩
      · have e : ((x.2.1 : Int) == (t : Int)) = false := by rw [nat_beq]; simpa using hpx
        have HPX := Lib.hid hpx
        clear hpx
        refine wp_region_held_drew (S := Below wr.heap.size wr) (by kernel_rfl) ((Below.refl _ wr).drew) (fun hS => ?_)
        refine takeH (i := 0) (d := 14) (v := ?vrm00) rfl (by kernel_rfl) (by kernel_rfl) (by kernel_rfl) (fun _ _ _ h => h) rfl (by rfl) ?yrm00 hS ?rrm00
        case yrm00 => (intro wz hz; have q0 : wz.rangeAt b (o + k * 4) (encR x.1) := fun j v hv => (hz.cell (p := ⟨b, o + k * 4 + j, none⟩) hb).trans (R0.out j v hv); have q2 : wz.cell? ⟨b, o + k * 4 + 2, none⟩ = some (.int .u64 (x.2.1 : Int)) := (hz.cell (p := ⟨b, o + k * 4 + 2, none⟩) hb).trans (R1.out 2 _ rfl); have q3 : wz.cell? ⟨b, o + k * 4 + 3, none⟩ = some (.int .i64 x.2.2) := (hz.cell (p := ⟨b, o + k * 4 + 3, none⟩) hb).trans (R1.out 3 _ rfl); go_simp <;> with_reducible rfl)
        simp only [List.setIfInBounds_toArray, List.set_cons_zero, List.set_cons_succ]
        refine takeH (i := 1) (d := 15) (v := ?vrm01) rfl (by kernel_rfl) (by kernel_rfl) (by kernel_rfl) (fun _ _ _ h => h) rfl (by rfl) ?yrm01 hS ?rrm01
        case yrm01 => (intro wz hz; have q0 : wz.rangeAt b (o + k * 4) (encR x.1) := fun j v hv => (hz.cell (p := ⟨b, o + k * 4 + j, none⟩) hb).trans (R0.out j v hv); have q2 : wz.cell? ⟨b, o + k * 4 + 2, none⟩ = some (.int .u64 (x.2.1 : Int)) := (hz.cell (p := ⟨b, o + k * 4 + 2, none⟩) hb).trans (R1.out 2 _ rfl); have q3 : wz.cell? ⟨b, o + k * 4 + 3, none⟩ = some (.int .i64 x.2.2) := (hz.cell (p := ⟨b, o + k * 4 + 3, none⟩) hb).trans (R1.out 3 _ rfl); go_simp <;> with_reducible rfl)
        simp only [List.setIfInBounds_toArray, List.set_cons_zero, List.set_cons_succ]
        refine takeH (i := 2) (d := 16) (v := ?vrm02) rfl (by kernel_rfl) (by kernel_rfl) (by kernel_rfl) (fun _ _ _ h => h) rfl (by rfl) ?yrm02 hS ?rrm02
        case yrm02 => (intro wz hz; have q0 : wz.rangeAt b (o + k * 4) (encR x.1) := fun j v hv => (hz.cell (p := ⟨b, o + k * 4 + j, none⟩) hb).trans (R0.out j v hv); have q2 : wz.cell? ⟨b, o + k * 4 + 2, none⟩ = some (.int .u64 (x.2.1 : Int)) := (hz.cell (p := ⟨b, o + k * 4 + 2, none⟩) hb).trans (R1.out 2 _ rfl); have q3 : wz.cell? ⟨b, o + k * 4 + 3, none⟩ = some (.int .i64 x.2.2) := (hz.cell (p := ⟨b, o + k * 4 + 3, none⟩) hb).trans (R1.out 3 _ rfl); go_simp <;> with_reducible rfl)
        simp only [List.setIfInBounds_toArray, List.set_cons_zero, List.set_cons_succ]
        refine takeH (i := 3) (d := 17) (v := ?vrm03) rfl (by kernel_rfl) (by kernel_rfl) (by kernel_rfl) (fun _ _ _ h => h) rfl (by rfl) ?yrm03 hS ?rrm03
        case yrm03 => (intro wz hz; have q0 : wz.rangeAt b (o + k * 4) (encR x.1) := fun j v hv => (hz.cell (p := ⟨b, o + k * 4 + j, none⟩) hb).trans (R0.out j v hv); have q2 : wz.cell? ⟨b, o + k * 4 + 2, none⟩ = some (.int .u64 (x.2.1 : Int)) := (hz.cell (p := ⟨b, o + k * 4 + 2, none⟩) hb).trans (R1.out 2 _ rfl); have q3 : wz.cell? ⟨b, o + k * 4 + 3, none⟩ = some (.int .i64 x.2.2) := (hz.cell (p := ⟨b, o + k * 4 + 3, none⟩) hb).trans (R1.out 3 _ rfl); go_simp <;> with_reducible rfl)
        simp only [List.setIfInBounds_toArray, List.set_cons_zero, List.set_cons_succ]
        refine takeH (i := 4) (d := 18) (v := ?vrm04) rfl (by kernel_rfl) (by kernel_rfl) (by kernel_rfl) (fun _ _ _ h => h) rfl (by rfl) ?yrm04 hS ?rrm04
        case yrm04 => (intro wz hz; have q0 : wz.rangeAt b (o + k * 4) (encR x.1) := fun j v hv => (hz.cell (p := ⟨b, o + k * 4 + j, none⟩) hb).trans (R0.out j v hv); have q2 : wz.cell? ⟨b, o + k * 4 + 2, none⟩ = some (.int .u64 (x.2.1 : Int)) := (hz.cell (p := ⟨b, o + k * 4 + 2, none⟩) hb).trans (R1.out 2 _ rfl); have q3 : wz.cell? ⟨b, o + k * 4 + 3, none⟩ = some (.int .i64 x.2.2) := (hz.cell (p := ⟨b, o + k * 4 + 3, none⟩) hb).trans (R1.out 3 _ rfl); go_simp <;> with_reducible rfl)
        simp only [List.setIfInBounds_toArray, List.set_cons_zero, List.set_cons_succ]
        refine takeH (i := 5) (d := 19) (v := ?vrm05) rfl (by kernel_rfl) (by kernel_rfl) (by kernel_rfl) (fun _ _ _ h => h) rfl (by rfl) ?yrm05 hS ?rrm05
        case yrm05 => (intro wz hz; have q0 : wz.rangeAt b (o + k * 4) (encR x.1) := fun j v hv => (hz.cell (p := ⟨b, o + k * 4 + j, none⟩) hb).trans (R0.out j v hv); have q2 : wz.cell? ⟨b, o + k * 4 + 2, none⟩ = some (.int .u64 (x.2.1 : Int)) := (hz.cell (p := ⟨b, o + k * 4 + 2, none⟩) hb).trans (R1.out 2 _ rfl); have q3 : wz.cell? ⟨b, o + k * 4 + 3, none⟩ = some (.int .i64 x.2.2) := (hz.cell (p := ⟨b, o + k * 4 + 3, none⟩) hb).trans (R1.out 3 _ rfl); go_simp <;> with_reducible rfl)
        simp only [List.setIfInBounds_toArray, List.set_cons_zero, List.set_cons_succ]
        refine takeH (i := 6) (d := 20) (v := ?vrm06) rfl (by kernel_rfl) (by kernel_rfl) (by kernel_rfl) (fun _ _ _ h => h) rfl (by rfl) ?yrm06 hS ?rrm06
        case yrm06 => (intro wz hz; have q0 : wz.rangeAt b (o + k * 4) (encR x.1) := fun j v hv => (hz.cell (p := ⟨b, o + k * 4 + j, none⟩) hb).trans (R0.out j v hv); have q2 : wz.cell? ⟨b, o + k * 4 + 2, none⟩ = some (.int .u64 (x.2.1 : Int)) := (hz.cell (p := ⟨b, o + k * 4 + 2, none⟩) hb).trans (R1.out 2 _ rfl); have q3 : wz.cell? ⟨b, o + k * 4 + 3, none⟩ = some (.int .i64 x.2.2) := (hz.cell (p := ⟨b, o + k * 4 + 3, none⟩) hb).trans (R1.out 3 _ rfl); go_simp <;> with_reducible rfl)
        simp only [List.setIfInBounds_toArray, List.set_cons_zero, List.set_cons_succ]
        refine takeH (i := 7) (d := 21) (v := ?vrm07) rfl (by kernel_rfl) (by kernel_rfl) (by kernel_rfl) (fun _ _ _ h => h) rfl (by rfl) ?yrm07 hS ?rrm07
        case yrm07 => (intro wz hz; have q0 : wz.rangeAt b (o + k * 4) (encR x.1) := fun j v hv => (hz.cell (p := ⟨b, o + k * 4 + j, none⟩) hb).trans (R0.out j v hv); have q2 : wz.cell? ⟨b, o + k * 4 + 2, none⟩ = some (.int .u64 (x.2.1 : Int)) := (hz.cell (p := ⟨b, o + k * 4 + 2, none⟩) hb).trans (R1.out 2 _ rfl); have q3 : wz.cell? ⟨b, o + k * 4 + 3, none⟩ = some (.int .i64 x.2.2) := (hz.cell (p := ⟨b, o + k * 4 + 3, none⟩) hb).trans (R1.out 3 _ rfl); go_simp <;> with_reducible rfl)
        simp only [List.setIfInBounds_toArray, List.set_cons_zero, List.set_cons_succ]
        refine skipH (i := 8) (d := 22) rfl (by kernel_rfl) (by kernel_rfl) (by kernel_rfl) (fun _ _ _ h => h) rfl (by rfl) hS ?_
        simp only [List.setIfInBounds_toArray, List.set_cons_zero, List.set_cons_succ]
        refine skipH (i := 9) (d := 23) rfl (by kernel_rfl) (by kernel_rfl) (by kernel_rfl) (fun _ _ _ h => h) rfl (by rfl) hS ?_
        simp only [List.setIfInBounds_toArray, List.set_cons_zero, List.set_cons_succ]
        refine skipH (i := 10) (d := 24) rfl (by kernel_rfl) (by kernel_rfl) (by kernel_rfl) (fun _ _ _ h => h) rfl (by rfl) hS ?_
        simp only [List.setIfInBounds_toArray, List.set_cons_zero, List.set_cons_succ]
        refine skipH (i := 11) (d := 25) rfl (by kernel_rfl) (by kernel_rfl) (by kernel_rfl) (fun _ _ _ h => h) rfl (by rfl) hS ?_
        simp only [List.setIfInBounds_toArray, List.set_cons_zero, List.set_cons_succ]
        refine skipH (i := 12) (d := 26) rfl (by kernel_rfl) (by kernel_rfl) (by kernel_rfl) (fun _ _ _ h => h) rfl (by rfl) hS ?_
        simp only [List.setIfInBounds_toArray, List.set_cons_zero, List.set_cons_succ]
        refine skipH (i := 13) (d := 27) rfl (by kernel_rfl) (by kernel_rfl) (by kernel_rfl) (fun _ _ _ h => h) rfl (by rfl) hS ?_
        simp only [List.setIfInBounds_toArray, List.set_cons_zero, List.set_cons_succ]
        refine skipH (i := 14) (d := 28) rfl (by kernel_rfl) (by kernel_rfl) (by kernel_rfl) (fun _ _ _ h => h) rfl (by rfl) hS ?_
        simp only [List.setIfInBounds_toArray, List.set_cons_zero, List.set_cons_succ]
        refine takeH (i := 15) (d := 29) (v := ?vrm015) rfl (by kernel_rfl) (by kernel_rfl) (by kernel_rfl) (fun _ _ _ h => h) rfl (by rfl) ?yrm015 hS ?rrm015
        case yrm015 => (intro wz hz; have q0 : wz.rangeAt b (o + k * 4) (encR x.1) := fun j v hv => (hz.cell (p := ⟨b, o + k * 4 + j, none⟩) hb).trans (R0.out j v hv); have q2 : wz.cell? ⟨b, o + k * 4 + 2, none⟩ = some (.int .u64 (x.2.1 : Int)) := (hz.cell (p := ⟨b, o + k * 4 + 2, none⟩) hb).trans (R1.out 2 _ rfl); have q3 : wz.cell? ⟨b, o + k * 4 + 3, none⟩ = some (.int .i64 x.2.2) := (hz.cell (p := ⟨b, o + k * 4 + 3, none⟩) hb).trans (R1.out 3 _ rfl); go_simp <;> with_reducible rfl)
        simp only [List.setIfInBounds_toArray, List.set_cons_zero, List.set_cons_succ]
        refine wpAnyH_done (by kernel_rfl) ?_ _
        have HS := Lib.hid (HR.out.trans (hS.mono HR.out.size))
        clear hS
        go_wp2_with fail
        exact ⟨⟨k + 1, by omega, by go_num, HS, Lib.hid (sc_next (p := fun c => isC t r c) HN.out hl (by rw [HX.out]; simp [isC, HPX.out]))⟩, by simp [intOf]; omega⟩
    · obtain rfl : k = n := by omega
      go_wp2_with fail
      go_ret
      exact ⟨by rw [modeR_none (fun j hj => HN.out j hj (by omega))]; rfl, HB.out.trans (HR.out.mono HB.out.size)⟩
end Go.Proofs.YthbifccankfngaaGreatDoor
