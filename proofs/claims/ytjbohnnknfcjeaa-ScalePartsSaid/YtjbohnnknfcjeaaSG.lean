/-
  A scale as cells; Len, At, Ends.
  Conditions: at most seven cuts, ascending from 1 on, of 32 bits.
-/
import Derived.Test.YtjbohnnknfcjeaaSF
import Derived.Lib.SliceRun
namespace Go.Proofs.Ytjbohnnknfcjeaa
open Go.RowKit
attribute [local go_sem] Oper.semAt_some
set_option maxRecDepth 20000

/-- A scale's cells: the number of cuts, seven places. -/
def scR (n : Nat) (xs : List Nat) : List Value := .int .i64 (n : Int) :: UC xs
def pad7 (l : List Nat) : List Nat := l ++ List.replicate (7 - l.length) 0
def scA (l : List Nat) : Array Value := (scR l.length (pad7 l)).toArray
theorem pad7_len {l : List Nat} (h : l.length ≤ 7) : (pad7 l).length = 7 := by simp [pad7]; omega
theorem scR_len (n : Nat) (xs : List Nat) : (scR n xs).length = xs.length + 1 := by simp [scR, UC_length]
theorem scA_size {l : List Nat} (h : l.length ≤ 7) : (scA l).size = 8 := by rw [scA, List.size_toArray, scR_len, pad7_len h]
theorem scR_one (n : Nat) (xs : List Nat) : ∀ u ∈ scR n xs, u.oneCell' = true := fun u hu => by
  rcases List.mem_cons.1 hu with rfl | hu
  · rfl
  · exact UC_one _ u hu
theorem scA_one (l : List Nat) : (scA l).all (·.oneCell') = true := all_oneCell_toArray (scR_one _ _)
theorem scR_get (n : Nat) (xs : List Nat) (k : Nat) (h : k < xs.length) : (scR n xs)[k + 1]? = some (.int .u32 (xs[k] : Nat)) := by
  rw [scR, List.getElem?_cons_succ, UC_get xs k h]
section
variable {w : World} {g : Nat} {l : List Nat} {t : TypeId}
theorem At.scn (h : At w g t (scA l)) : w.cell? ⟨g, 0, none⟩ = some (.int .i64 (l.length : Int)) := h.cell 0
theorem At.scc (h : At w g t (scA l)) {k : Nat} (hk : k < l.length) : w.cell? ⟨g, 1 + k, none⟩ = some (.int .u32 (l[k] : Nat)) := by
  rw [h.cell, scA, List.getElem?_toArray, Nat.add_comm, scR_get _ _ k (by simp [pad7]; omega)]
  simp [pad7, hk]
end
set_option maxHeartbeats 800000 in
theorem sLen_any (l : List Nat) (hl : l.length ≤ 7) (w : World) : Calls Try.prog 10 #[.agg (scA l)] w (RetB w (.int .i64 ((l.length + 1 : Nat) : Int))) := by
  obtain ⟨n, hn⟩ : ∃ n, l.length = n := ⟨_, rfl⟩
  have hA := At.new w 27 (scA l)
  have c1 := hA.scn
  rw [hn] at c1 hl ⊢
  have HB : Hid (Below w.heap.size w (w.alloc (.cells (scA l) 27))) := (Below.refl _ w).alloc (Nat.le_refl _) _
  clear hA hn
  go_enter Try.func10, Try.ntmps10
  go_wp2_with fail
  go_ret
  exact ⟨by first | rfl | go_num, HB.out⟩
set_option maxHeartbeats 3200000 in
theorem sAt_any (l : List Nat) (hg : Gd l) (x : Nat) (w : World) : Calls Try.prog 15 #[.agg (scA l), .int .u32 (x : Int)] w (RetB w (.int .i64 (atN l x : Nat))) := by
  obtain ⟨n, hn⟩ : ∃ n, l.length = n := ⟨_, rfl⟩
  have hA := At.new w 27 (scA l)
  have c1 := hA.scn
  have HC : Hid (∀ k (hk : k < l.length), (w.alloc (.cells (scA l) 27)).cell? ⟨w.heap.size, 1 + k, none⟩ = some (.int .u32 (l[k] : Nat))) := fun k hk => hA.scc hk
  rw [hn] at c1
  have hl : n ≤ 7 := by have := hg.len; omega
  have HN := Lib.hid hn
  have HG := Lib.hid hg
  have HB : Hid (Below w.heap.size w (w.alloc (.cells (scA l) 27))) := (Below.refl _ w).alloc (Nat.le_refl _) _
  clear hA hn hg
  go_enter Try.func15, Try.ntmps15
  go_upto_region 1 with fail
  generalize w.alloc (.cells (scA l) 27) = w1 at c1 HC HB ⊢
  go_wp2_with fail
  go_loop [5] (fun vi => ∃ k : Nat, k ≤ n ∧ vi = .int .i64 (k : Int) ∧ Hid (k = 0 ∨ lastK l k ≤ x)) (fun i => n - (intOf i).toNat)
  case atStart => exact ⟨0, Nat.zero_le _, by go_num, Lib.hid (.inl rfl)⟩
  case round =>
    obtain ⟨k, hk, rfl, HM⟩ := hrel
    by_cases hlt : k < n
    · have hkl : k < l.length := by rw [HN.out]; exact hlt
      have hc := HC.out k hkl
      have HS := Lib.hid (lastK_succ hkl)
      have HSC := Lib.hid (at_scan HG.out.asc (x := x) (i := k) (by omega) HM.out)
      obtain ⟨y, hy⟩ : ∃ y, l[k] = y := ⟨_, rfl⟩
      rw [hy] at hc
      have HY := Lib.hid hy
      obtain ⟨cg, hcg⟩ : ∃ cg, decide ((y : Int) ≤ (x : Int)) = cg := ⟨_, rfl⟩
      have hcn : decide (y ≤ x) = cg := by rw [← hcg]; exact decide_eq_decide.2 (by omega)
      have HCN := Lib.hid hcn
      clear hy
      cases cg
      · have HE : Hid (atN l x = k) := HSC.out (fun _ => by have := of_decide_eq_false HCN.out; have h2 := HY.out; omega)
        go_wp2_with fail
        go_ret
        exact ⟨by rw [HE.out]; rfl, HB.out⟩
      · go_wp2_with fail
        exact ⟨⟨k + 1, by omega, by go_num, Lib.hid (.inr (by rw [HS.out, HY.out]; exact of_decide_eq_true HCN.out))⟩, by simp [intOf]; omega⟩
    · obtain rfl : k = n := by omega
      have HE : Hid (atN l x = k) := at_scan HG.out.asc (by rw [HN.out]; exact Nat.le_refl _) HM.out (fun h => absurd h (by rw [HN.out]; exact Nat.lt_irrefl _))
      go_wp2_with fail
      go_ret
      exact ⟨by rw [HE.out]; rfl, HB.out⟩
/-- The ends of a stretch that there is not. -/
theorem sEnds_no (l : List Nat) (i : Int) (hi : i < 0 ∨ (l.length : Int) < i) (w : World) : Calls Try.prog 17 #[.agg (scA l), .int .i64 i] w (RetB w (.tuple #[.int .u32 1, .int .u32 0])) := by
  obtain ⟨n, hn⟩ : ∃ n, l.length = n := ⟨_, rfl⟩
  have hA := At.new w 27 (scA l)
  have c1 := hA.scn
  rw [hn] at c1 hi
  have HB : Hid (Below w.heap.size w (w.alloc (.cells (scA l) 27))) := (Below.refl _ w).alloc (Nat.le_refl _) _
  clear hA hn
  by_cases h0 : i < 0
  · have d0 : decide (i < 0) = true := decide_eq_true h0
    go_enter Try.func17, Try.ntmps17
    go_wp2_with fail
    go_ret2
    exact ⟨rfl, HB.out⟩
  · have d0 : decide (i < 0) = false := decide_eq_false h0
    have h1 : (n : Int) < i := by omega
    have d1 : decide ((n : Int) < i) = true := decide_eq_true h1
    clear h0 hi
    go_enter Try.func17, Try.ntmps17
    go_wp2_with fail
    go_ret2
    exact ⟨rfl, HB.out⟩
set_option maxHeartbeats 1600000 in
theorem sEnds_any (l : List Nat) (hg : Gd l) (k : Nat) (hk : k ≤ l.length) (w : World) : Calls Try.prog 17 #[.agg (scA l), .int .i64 (k : Int)] w (RetB w (.tuple #[.int .u32 (leastN l k : Nat), .int .u32 (mostN l k : Nat)])) := by
  obtain ⟨n, hn⟩ : ∃ n, l.length = n := ⟨_, rfl⟩
  have hA := At.new w 27 (scA l)
  have c1 := hA.scn
  have hlm := least_most hg hk
  have HC : Hid (∀ k (hk : k < l.length), (w.alloc (.cells (scA l) 27)).cell? ⟨w.heap.size, 1 + k, none⟩ = some (.int .u32 (l[k] : Nat))) := fun k hk => hA.scc hk
  have hl := hg.len
  have HPOS : Hid (∀ k (hk : k < l.length), 0 < l[k] ∧ U32 l[k]) := fun k hk => ⟨hg.asc.pos hk, hg.small _ (List.getElem_mem _)⟩
  rw [hn] at c1 hk hl
  have HN := Lib.hid hn
  have HB : Hid (Below w.heap.size w (w.alloc (.cells (scA l) 27))) := (Below.refl _ w).alloc (Nat.le_refl _) _
  have d0 : decide ((k : Int) < 0) = false := decide_eq_false (by omega)
  have d1 : decide ((n : Int) < (k : Int)) = false := decide_eq_false (by omega)
  have d1' : decide (n < k) = false := decide_eq_false (by omega)
  clear hA hn hg hlm
  have hle : ∃ a, Hid (leastN l k = a) ∧ (k = 0 ∧ a = 0 ∨ ∃ p, k = p + 1 ∧ (k : Int) - 1 = (p : Int) ∧ p < 7 ∧ (w.alloc (.cells (scA l) 27)).cell? ⟨w.heap.size, 1 + p, none⟩ = some (.int .u32 (a : Int))) := by
    cases k with
    | zero => exact ⟨0, Lib.hid rfl, .inl ⟨rfl, rfl⟩⟩
    | succ p => exact ⟨l[p]'(by rw [HN.out]; omega), Lib.hid (lastK_succ _), .inr ⟨p, rfl, by omega, by omega, HC.out p _⟩⟩
  have hmo : ∃ b, Hid (mostN l k = b) ∧ (n ≤ k ∧ b = 4294967295 ∨ k < n ∧ b < 4294967295 ∧ (w.alloc (.cells (scA l) 27)).cell? ⟨w.heap.size, 1 + k, none⟩ = some (.int .u32 ((b + 1 : Nat) : Int))) := by
    by_cases h : k < l.length
    · refine ⟨l[k] - 1, Lib.hid (by unfold mostN; rw [dif_pos h]), .inr ⟨by rw [← HN.out]; exact h, ?_, ?_⟩⟩
      · have := HPOS.out k h
        unfold U32 at this
        omega
      · rw [HC.out k h]
        have := (HPOS.out k h).1
        congr 3
        omega
    · exact ⟨_, Lib.hid (by unfold mostN; rw [dif_neg h]), .inl ⟨by rw [← HN.out]; omega, rfl⟩⟩
  obtain ⟨a, HA, ha⟩ := hle
  obtain ⟨b, HBB, hb⟩ := hmo
  rw [HA.out, HBB.out]
  clear HC HPOS
  rcases ha with ⟨rfl, rfl⟩ | ⟨p, hp, ep, hp7, ca⟩
  · have d2 : decide ((0 : Int) < ((0 : Nat) : Int)) = false := by decide
    rcases hb with ⟨hnk, rfl⟩ | ⟨hkn, hb1, cb⟩
    · obtain rfl : n = 0 := by omega
      go_enter Try.func17, Try.ntmps17
      go_wp2_with fail
      go_ret2
      exact ⟨rfl, HB.out⟩
    · have d3 : decide ((0 : Int) < (n : Int)) = true := decide_eq_true (by omega)
      have d3' : decide (0 < n) = true := decide_eq_true (by omega)
      have wb : IntKind.u32.wrap (((b + 1 : Nat) : Int) - 1) = (b : Int) := by rw [show ((b + 1 : Nat) : Int) - 1 = (b : Int) by omega, IntKind.wrap_u32]; omega
      obtain ⟨b1, hb1e⟩ : ∃ b1, b + 1 = b1 := ⟨_, rfl⟩
      rw [hb1e] at cb wb
      clear hb1e
      go_enter Try.func17, Try.ntmps17
      go_wp2_with fail
      go_ret2
      exact ⟨rfl, HB.out⟩
  · have d2 : decide ((0 : Int) < (k : Int)) = true := decide_eq_true (by omega)
    have d2' : decide (0 < k) = true := decide_eq_true (by omega)
    have wp := wrap_nat (k := p) (by omega)
    clear hp
    rcases hb with ⟨hnk, rfl⟩ | ⟨hkn, hb1, cb⟩
    · have d3 : decide ((k : Int) < (n : Int)) = false := decide_eq_false (by omega)
      have d3' : decide (k < n) = false := decide_eq_false (by omega)
      go_enter Try.func17, Try.ntmps17
      go_wp2_with fail
      go_ret2
      exact ⟨rfl, HB.out⟩
    · have d3 : decide ((k : Int) < (n : Int)) = true := decide_eq_true (by omega)
      have d3' : decide (k < n) = true := decide_eq_true (by omega)
      have wb : IntKind.u32.wrap (((b + 1 : Nat) : Int) - 1) = (b : Int) := by rw [show ((b + 1 : Nat) : Int) - 1 = (b : Int) by omega, IntKind.wrap_u32]; omega
      obtain ⟨b1, hb1e⟩ : ∃ b1, b + 1 = b1 := ⟨_, rfl⟩
      rw [hb1e] at cb wb
      clear hb1e
      have hk7 : k < 7 := by omega
      go_enter Try.func17, Try.ntmps17
      go_wp2_with fail
      go_ret2
      exact ⟨rfl, HB.out⟩
end Go.Proofs.Ytjbohnnknfcjeaa
