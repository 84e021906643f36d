/-
  The document's Has, in, insert.
  Conditions: at most 100000 of each.
-/
import Derived.Test.YtnkphpjnhjbokaaCE
import Derived.Test.YtnkphpjnhjbokaaCF
namespace Go.Proofs.Ytnkphpjnhjbokaa
open Go.RowKit
attribute [local go_sem] Oper.semAt_some
set_option maxRecDepth 20000

/-- Arcs as they lie. -/
def arV (a : Ar) : List Value := [.int .u64 (a.1 : Int), .int .u64 (a.2 : Int)]
def arL (l : List Ar) : List Value := l.flatMap arV
theorem arL_length : ∀ l : List Ar, (arL l).length = l.length * 2
  | [] => rfl
  | a :: l => by
    show (arV a ++ arL l).length = _
    rw [List.length_append, arL_length l]
    simp [arV]
    omega
theorem arL_get : ∀ (l : List Ar) (k : Nat) (h : k < l.length) (j : Nat) (u : Value), (arV l[k])[j]? = some u → (arL l)[k * 2 + j]? = some u
  | a :: l, 0, _, j, u, hu => by
    show (arV a ++ arL l)[0 * 2 + j]? = _
    rw [Nat.zero_mul, Nat.zero_add]
    have hj : j < (arV a).length := (List.getElem?_eq_some_iff.1 hu).1
    rw [List.getElem?_append_left hj]
    exact hu
  | a :: l, k + 1, h, j, u, hu => by
    show (arV a ++ arL l)[(k + 1) * 2 + j]? = _
    rw [List.getElem?_append_right (by simp [arV]; omega)]
    have := arL_get l k (by simpa using h) j u hu
    simpa [arV, show (k + 1) * 2 + j - 2 = k * 2 + j by omega] using this
theorem Lz.ar {X : Nat → Prop} {w : World} {A : Option Addr} {n k : Nat} {l : List Ar} (h : Lz X w 2 A n (arL l)) (hk : k < n) : ∃ b o, ∃ hl : k < l.length, A = some ⟨b, o, none⟩ ∧ b < w.heap.size ∧ w.rangeAt b (o + k * 2) (arV l[k]) := by
  have hl : k < l.length := by have := h.len; rw [arL_length] at this; omega
  obtain ⟨b, o, h1, _, h3, h4⟩ := h.spot (by omega)
  refine ⟨b, o, hl, h1, h3, fun j u hu => ?_⟩
  rw [Nat.add_assoc]
  exact h4 (k * 2 + j) u (arL_get l k hl j u hu)
theorem Lz.arlen {X : Nat → Prop} {w : World} {A : Option Addr} {n : Nat} {l : List Ar} (h : Lz X w 2 A n (arL l)) : l.length = n := by
  have := h.len
  rw [arL_length] at this
  omega
set_option maxHeartbeats 1600000 in
theorem in_any (A : Option Addr) (n c : Nat) (l : List Nat) (x : Nat) (w : World) (h : Lz (fun _ => False) w 1 A n (UC l)) (hn : n ≤ 100000) :
    Calls Try.prog 27 #[.slice A n c, .int .u64 (x : Int)] w (RetB w (.bool (decide (x ∈ l)))) := by
  have hlen := h.ulen
  have HL := Lib.hid h
  clear h
  go_enter Try.func27, Try.ntmps27
  go_wp2_with fail
  go_loopw [5] (fun i wr => ∃ k : Nat, k ≤ n ∧ i = .int .i64 (k : Int) ∧ Hid (Below w.heap.size w wr) ∧ Hid (∀ (j : Nat) (hj : j < l.length), j < k → l[j] ≠ x)) (fun i _ => n - (intOf i).toNat)
  case atStart => exact ⟨0, Nat.zero_le _, rfl, Lib.hid (Below.refl _ w), Lib.hid fun _ _ h => absurd h (Nat.not_lt_zero _)⟩
  case round =>
    obtain ⟨k, hk, rfl, HR, HN⟩ := hrel
    by_cases hlt : k < n
    · obtain ⟨b, o, hl, rfl, hb, hc⟩ := HL.out.uc hlt
      obtain ⟨y, hy⟩ : ∃ y, l[k] = y := ⟨_, rfl⟩
      rw [hy] at hc
      have p1 : wr.cell? ⟨b, o + k, none⟩ = some (.int .u64 (y : Int)) := (HR.out.cell (p := ⟨b, o + k, none⟩) hb).trans hc
      have HY := Lib.hid hy
      clear hc hy
      by_cases hyx : y = x
      · have e : ((y : Int) == (x : Int)) = true := by rw [nat_beq, hyx, beq_self_eq_true]
        have HYX := Lib.hid hyx
        clear hyx
        go_wp2_with fail
        go_ret
        exact ⟨by rw [decide_eq_true (show x ∈ l by rw [← HYX.out, ← HY.out]; exact List.getElem_mem hl)]; rfl, HR.out⟩
      · have e : ((y : Int) == (x : Int)) = false := by rw [nat_beq]; simpa using hyx
        have HYX := Lib.hid hyx
        clear hyx
        go_wp2_with fail
        refine ⟨⟨k + 1, by omega, by go_num, HR, Lib.hid fun j hj hjk => ?_⟩, by simp [intOf]; omega⟩
        by_cases e : j = k
        · subst e
          rw [HY.out]
          exact HYX.out
        · exact HN.out j hj (by omega)
    · obtain rfl : k = n := by omega
      go_wp2_with fail
      go_ret
      refine ⟨?_, HR.out⟩
      rw [decide_eq_false (show ¬ x ∈ l from fun hm => by
        obtain ⟨j, hj, e⟩ := List.getElem_of_mem hm
        exact HN.out j hj (by omega) e)]
      rfl
set_option maxHeartbeats 1600000 in
theorem Has_any (A : Option Addr) (n c : Nat) (l : List Ar) (a b : Nat) (w : World) (h : Lz (fun _ => False) w 2 A n (arL l)) (hn : n ≤ 100000) :
    Calls Try.prog 13 #[.slice A n c, .int .u64 (a : Int), .int .u64 (b : Int)] w (RetB w (.bool (decide ((a, b) ∈ l)))) := by
  have hlen := h.arlen
  have HL := Lib.hid h
  clear h
  go_enter Try.func13, Try.ntmps13
  go_wp2_with fail
  go_loopw [7] (fun i wr => ∃ k : Nat, k ≤ n ∧ i = .int .i64 (k : Int) ∧ Hid (Below w.heap.size w wr) ∧ Hid (∀ (j : Nat) (hj : j < l.length), j < k → l[j] ≠ (a, b))) (fun i _ => n - (intOf i).toNat)
  case atStart => exact ⟨0, Nat.zero_le _, rfl, Lib.hid (Below.refl _ w), Lib.hid fun _ _ h => absurd h (Nat.not_lt_zero _)⟩
  case round =>
    obtain ⟨k, hk, rfl, HR, HN⟩ := hrel
    by_cases hlt : k < n
    · obtain ⟨g, o, hl, rfl, hb, hc⟩ := HL.out.ar hlt
      obtain ⟨y, hy⟩ : ∃ y, l[k] = y := ⟨_, rfl⟩
      rw [hy] at hc
      have p1 : wr.cell? ⟨g, o + k * 2, none⟩ = some (.int .u64 (y.1 : Int)) := (HR.out.cell (p := ⟨g, o + k * 2, none⟩) hb).trans (hc 0 _ rfl)
      have p2 : wr.cell? ⟨g, o + k * 2 + 1, none⟩ = some (.int .u64 (y.2 : Int)) := (HR.out.cell (p := ⟨g, o + k * 2 + 1, none⟩) hb).trans (hc 1 _ rfl)
      have HY := Lib.hid hy
      clear hc hy
      obtain ⟨y1, y2⟩ := y
      dsimp only at p1 p2
      have HNX : Hid ((y1, y2) ≠ (a, b) → ∀ (j : Nat) (hj : j < l.length), j < k + 1 → l[j] ≠ (a, b)) := fun hne j hj hjk => by
        by_cases e : j = k
        · subst e
          rw [HY.out]
          exact hne
        · exact HN.out j hj (by omega)
      by_cases h1 : y1 = a
      · have e1 : ((y1 : Int) == (a : Int)) = true := by rw [nat_beq, h1, beq_self_eq_true]
        by_cases h2 : y2 = b
        · have e2 : ((y2 : Int) == (b : Int)) = true := by rw [nat_beq, h2, beq_self_eq_true]
          have HE : Hid ((a, b) ∈ l) := by show _ ∈ _; rw [← h1, ← h2, ← HY.out]; exact List.getElem_mem hl
          clear h1 h2
          go_wp2_with fail
          go_ret
          exact ⟨by rw [decide_eq_true HE.out]; rfl, HR.out⟩
        · have e2 : ((y2 : Int) == (b : Int)) = false := by rw [nat_beq]; simpa using h2
          have HNY := Lib.hid (HNX.out fun e => h2 (Prod.mk.inj e).2)
          clear h1 h2
          go_wp2_with fail
          exact ⟨⟨k + 1, by omega, by go_num, HR, HNY⟩, by simp [intOf]; omega⟩
      · have e1 : ((y1 : Int) == (a : Int)) = false := by rw [nat_beq]; simpa using h1
        have HNY := Lib.hid (HNX.out fun e => h1 (Prod.mk.inj e).1)
        clear h1
        go_wp2_with fail
        exact ⟨⟨k + 1, by omega, by go_num, HR, HNY⟩, by simp [intOf]; omega⟩
    · obtain rfl : k = n := by omega
      go_wp2_with fail
      go_ret
      refine ⟨?_, HR.out⟩
      rw [decide_eq_false (show ¬ (a, b) ∈ l from fun hm => by
        obtain ⟨j, hj, e⟩ := List.getElem_of_mem hm
        exact HN.out j hj (by omega) e)]
      rfl
end Go.Proofs.Ytnkphpjnhjbokaa
