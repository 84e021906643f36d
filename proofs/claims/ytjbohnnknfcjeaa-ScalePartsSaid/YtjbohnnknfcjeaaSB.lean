/-
  Numbers that came in; how many are at most, or below, a number; the parts' difference; whether a number is among some.
  Conditions: at most 100000 numbers.
-/
import Derived.Test.YtjbohnnknfcjeaaCE
import Derived.Test.YtjbohnnknfcjeaaSA
import Derived.Test.YtjbohnnknfcjeaaNB
import Derived.Shelf.Abstract
namespace Go.Proofs.Ytjbohnnknfcjeaa
open Go.RowKit
attribute [local go_sem] Oper.semAt_some
set_option maxRecDepth 20000

/-- A slice of integers that came in: nil, or a row of cap cells, each number fitting its kind. -/
def IsRow (k : IntKind) (w : World) (a : Option Addr) (len cap : Nat) (zs : List Int) : Prop :=
  (a = none ∧ len = 0 ∧ cap = 0 ∧ zs = []) ∨
  ∃ x, a = some x ∧ len ≤ cap ∧ cap ≤ maxLen ∧ zs.length = cap ∧ (∀ i, i < zs.length → w.cell? (x.add i) = some (.int k (zs.getD i 0))) ∧ ∀ n ∈ zs, (Lit.int k n).wf = true
theorem nat_of_wf {z : Int} (h : (Lit.int .u32 z).wf = true) : ∃ n : Nat, z = (n : Int) ∧ U32 n := by
  have e1 : IntKind.u32.min = 0 := by decide
  have e2 : IntKind.u32.max = 4294967295 := by decide
  simp [Lit.wf, e1, e2] at h
  exact ⟨z.toNat, by omega, by unfold U32; omega⟩
theorem nums_of_row {w : World} {a : Option Addr} {len cap : Nat} {zs : List Int} (h : IsRow .u32 w a len cap zs) :
    ∃ L : List Nat, Lz (fun _ => False) w 1 a len (UC L) ∧ ∀ x ∈ L, U32 x := by
  rcases h with ⟨rfl, rfl, rfl, rfl⟩ | ⟨x, rfl, hl, hm, hz, hc, hwf⟩
  · exact ⟨[], Lz.empty, fun x hx => by cases hx⟩
  · by_cases h0 : len = 0
    · subst h0
      exact ⟨[], ⟨rfl, fun h => absurd h (Nat.lt_irrefl 0)⟩, fun x hx => by cases hx⟩
    have c0 := hc 0 (by omega)
    obtain ⟨b, off, spot⟩ := x
    have hs : spot = none := by simpa [Addr.add] using World.cell?_spot c0
    subst hs
    have hblk : b < w.heap.size := by have := World.block_lt_of_cell? w _ c0; rwa [Ytjbohnnknfcjeaa.add_block] at this
    have each : ∀ i (hi : i < zs.length), ∃ n : Nat, zs[i] = (n : Int) ∧ U32 n := fun i hi => nat_of_wf (hwf _ (List.getElem_mem _))
    have hlen : ((zs.take len).map Int.toNat).length = len := by rw [List.length_map, List.length_take]; omega
    refine ⟨(zs.take len).map Int.toNat, ⟨by rw [UC_length, hlen]; omega, fun _ => ⟨b, off, rfl, fun h => h, hblk, fun j u hu => ?_⟩⟩, fun x hx => ?_⟩
    · have hj : j < len := by
        rcases Nat.lt_or_ge j len with hj | hj
        · exact hj
        · rw [List.getElem?_eq_none (by rw [UC_length, hlen]; exact hj)] at hu
          cases hu
      obtain ⟨n, e, _⟩ := each j (by omega)
      have h1 := hc j (by omega)
      rw [add_plain] at h1
      rw [UC_get _ j (by rw [hlen]; exact hj)] at hu
      injection hu with hu
      subst hu
      rw [h1]
      have : zs.getD j 0 = zs[j] := by simp [show j < zs.length by omega]
      rw [this, e]
      simp [e]
    · obtain ⟨z, hz1, rfl⟩ := List.mem_map.1 hx
      obtain ⟨n, e, hn⟩ := nat_of_wf (hwf z (List.mem_of_mem_take hz1))
      rw [e]
      simpa using hn
/-- It returns, and nothing at all has turned. -/
def RetS (w : World) (v : Value) (e : Ending) (w' : World) : Prop := e = .returned v ∧ w = w'
set_option maxHeartbeats 1600000 in
theorem gap_any (p n : Nat) (hp : p ≤ 100000) (hn : n ≤ 100000) (w : World) : Calls Try.prog 25 #[.int .i64 (p : Int), .int .i64 (n : Int)] w (RetS w (.int .i64 (gapN p n : Nat))) := by
  have w1 : wrap64 (2 * (p : Int)) = 2 * (p : Int) := by unfold wrap64; omega
  have w2 : wrap64 ((n : Int) - 2 * (p : Int)) = (n : Int) - 2 * (p : Int) := by unfold wrap64; omega
  have w3 : wrap64 (2 * (p : Int) - (n : Int)) = 2 * (p : Int) - (n : Int) := by unfold wrap64; omega
  have hg : max ((n : Int) - 2 * (p : Int)) (2 * (p : Int) - (n : Int)) = (gapN p n : Nat) := by unfold gapN; omega
  go_enter Try.func25, Try.ntmps25
  go_wp2_with fail
  go_ret
  exact ⟨by first | rfl | rw [hg] | simp [hg], rfl⟩
set_option maxHeartbeats 3200000 in
theorem rAt_any (A : Option Addr) (n c : Nat) (l : List Nat) (x : Nat) (w : World) (h : Lz (fun _ => False) w 1 A n (UC l)) (hn : n ≤ 100000) :
    Calls Try.prog 16 #[.slice A n c, .int .u32 (x : Int)] w (RetS w (.int .i64 (atN l x : Nat))) := by
  have hlen := h.ulen
  have HL := Lib.hid h
  clear h
  go_enter Try.func16, Try.ntmps16
  go_wp2_with fail
  go_loop [5, 6] (fun vc vi => ∃ (k m : Nat), k ≤ n ∧ m ≤ k ∧ vc = .int .i64 (m : Int) ∧ vi = .int .i64 (k : Int) ∧ Hid ((l.take k).countP (fun y => decide (y ≤ x)) = m)) (fun _ i => n - (intOf i).toNat)
  case atStart => exact ⟨0, 0, Nat.zero_le _, Nat.le_refl _, rfl, by go_num, Lib.hid (by simp)⟩
  case round =>
    obtain ⟨k, m, hk, hm, rfl, rfl, HM⟩ := hrel
    by_cases hlt : k < n
    · obtain ⟨b, o, hl, rfl, hb, hc⟩ := HL.out.uc hlt
      have hnx := countP_next (p := fun y => decide (y ≤ x)) hl
      rw [HM.out] at hnx
      obtain ⟨y, hy⟩ : ∃ y, l[k] = y := ⟨_, rfl⟩
      rw [hy] at hc hnx
      have HY := Lib.hid hy
      have HNX := Lib.hid hnx
      clear hy hnx
      obtain ⟨cg, hcg⟩ : ∃ cg, decide ((y : Int) ≤ (x : Int)) = cg := ⟨_, rfl⟩
      have hcn : decide (y ≤ x) = cg := by rw [← hcg]; exact decide_eq_decide.2 (by omega)
      have HCN := Lib.hid hcn
      cases cg
      · go_wp2_with fail
        exact ⟨⟨k + 1, m, by omega, by omega, rfl, by go_num, Lib.hid (by rw [HNX.out, HCN.out]; rfl)⟩, by simp [intOf]; omega⟩
      · go_wp2_with fail
        exact ⟨⟨k + 1, m + 1, by omega, by omega, by go_num, by go_num, Lib.hid (by rw [HNX.out, HCN.out]; rfl)⟩, by simp [intOf]; omega⟩
    · obtain rfl : k = n := by omega
      have hm2 : atN l x = m := by unfold atN; rw [← HM.out, ← hlen, List.take_length]
      go_wp2_with fail
      go_ret
      exact ⟨rfl, rfl⟩
set_option maxHeartbeats 3200000 in
theorem rbelow_any (A : Option Addr) (n c : Nat) (l : List Nat) (x : Nat) (w : World) (h : Lz (fun _ => False) w 1 A n (UC l)) (hn : n ≤ 100000) :
    Calls Try.prog 26 #[.slice A n c, .int .u32 (x : Int)] w (RetS w (.int .i64 (belN l x : Nat))) := by
  have hlen := h.ulen
  have HL := Lib.hid h
  clear h
  go_enter Try.func26, Try.ntmps26
  go_wp2_with fail
  go_loop [5, 6] (fun vc vi => ∃ (k m : Nat), k ≤ n ∧ m ≤ k ∧ vc = .int .i64 (m : Int) ∧ vi = .int .i64 (k : Int) ∧ Hid ((l.take k).countP (fun y => decide (y < x)) = m)) (fun _ i => n - (intOf i).toNat)
  case atStart => exact ⟨0, 0, Nat.zero_le _, Nat.le_refl _, rfl, by go_num, Lib.hid (by simp)⟩
  case round =>
    obtain ⟨k, m, hk, hm, rfl, rfl, HM⟩ := hrel
    by_cases hlt : k < n
    · obtain ⟨b, o, hl, rfl, hb, hc⟩ := HL.out.uc hlt
      have hnx := countP_next (p := fun y => decide (y < x)) hl
      rw [HM.out] at hnx
      obtain ⟨y, hy⟩ : ∃ y, l[k] = y := ⟨_, rfl⟩
      rw [hy] at hc hnx
      have HY := Lib.hid hy
      have HNX := Lib.hid hnx
      clear hy hnx
      obtain ⟨cg, hcg⟩ : ∃ cg, decide ((y : Int) < (x : Int)) = cg := ⟨_, rfl⟩
      have hcn : decide (y < x) = cg := by rw [← hcg]; exact decide_eq_decide.2 (by omega)
      have HCN := Lib.hid hcn
      cases cg
      · go_wp2_with fail
        exact ⟨⟨k + 1, m, by omega, by omega, rfl, by go_num, Lib.hid (by rw [HNX.out, HCN.out]; rfl)⟩, by simp [intOf]; omega⟩
      · go_wp2_with fail
        exact ⟨⟨k + 1, m + 1, by omega, by omega, by go_num, by go_num, Lib.hid (by rw [HNX.out, HCN.out]; rfl)⟩, by simp [intOf]; omega⟩
    · obtain rfl : k = n := by omega
      have hm2 : belN l x = m := by unfold belN; rw [← HM.out, ← hlen, List.take_length]
      go_wp2_with fail
      go_ret
      exact ⟨rfl, rfl⟩
theorem take_mem_next {l : List Nat} {k x : Nat} (hk : k < l.length) : x ∈ l.take (k + 1) ↔ x ∈ l.take k ∨ x = l[k] := by
  rw [List.take_add_one, List.getElem?_eq_getElem hk, List.mem_append]
  simp
set_option maxHeartbeats 3200000 in
theorem rhas_any (A : Option Addr) (n c : Nat) (l : List Nat) (x : Nat) (w : World) (h : Lz (fun _ => False) w 1 A n (UC l)) (hn : n ≤ 100000) :
    Calls Try.prog 21 #[.slice A n c, .int .u32 (x : Int)] w (RetS w (.bool (decide (x ∈ l)))) := by
  have hlen := h.ulen
  have HL := Lib.hid h
  clear h
  go_enter Try.func21, Try.ntmps21
  go_wp2_with fail
  go_loop [4, 5] (fun vb vi => ∃ k : Nat, k ≤ n ∧ vb = .bool false ∧ vi = .int .i64 (k : Int) ∧ Hid (x ∉ l.take k)) (fun _ i => n - (intOf i).toNat)
  case atStart => exact ⟨0, Nat.zero_le _, rfl, by go_num, Lib.hid (by simp)⟩
  case round =>
    obtain ⟨k, hk, rfl, rfl, HM⟩ := hrel
    by_cases hlt : k < n
    · obtain ⟨b, o, hl, rfl, hb, hc⟩ := HL.out.uc hlt
      obtain ⟨y, hy⟩ : ∃ y, l[k] = y := ⟨_, rfl⟩
      rw [hy] at hc
      have HY := Lib.hid hy
      clear hy
      obtain ⟨cg, hcg⟩ : ∃ cg, ((y : Int) == (x : Int)) = cg := ⟨_, rfl⟩
      have hcn : (y == x) = cg := by rw [← hcg, nat_beq]
      have HCN := Lib.hid hcn
      cases cg
      · have HNE : Hid (y ≠ x) := by show y ≠ x; simpa using hcn
        clear hcn
        go_wp2_with fail
        exact ⟨⟨k + 1, by omega, rfl, by go_num, Lib.hid (fun h => (take_mem_next hl).1 h |>.elim HM.out (fun h => HNE.out (by rw [h, HY.out])))⟩, by simp [intOf]; omega⟩
      · have HE : Hid (x ∈ l) := by
          have : y = x := by simpa using hcn
          show x ∈ l
          rw [← this, ← HY.out]
          exact List.getElem_mem _
        clear hcn
        go_wp2_with fail
        go_ret
        exact ⟨by rw [decide_eq_true HE.out]; rfl, rfl⟩
    · obtain rfl : k = n := by omega
      have HE : Hid (x ∉ l) := by
        show x ∉ l
        have := HM.out
        rwa [← hlen, List.take_length] at this
      go_wp2_with fail
      go_ret
      exact ⟨by rw [decide_eq_false HE.out]; rfl, rfl⟩
set_option maxHeartbeats 1600000 in
theorem runeven_any (A : Option Addr) (n c : Nat) (l : List Nat) (x : Nat) (w : World) (h : Lz (fun _ => False) w 1 A n (UC l)) (hn : n ≤ 100000) :
    Calls Try.prog 27 #[.slice A n c, .int .u32 (x : Int)] w (RetS w (.int .i64 (unN l x : Nat))) := by
  have hlen := h.ulen
  have hle := bel_le l x
  have HC := Lib.hid (rbelow_any A n c l x w h hn)
  have HU : Hid (unN l x = gapN (belN l x) n) := by show _ = _; unfold unN; rw [hlen]
  clear h
  generalize belN l x = p at hle HC HU
  rw [hlen] at hle
  have w1 : wrap64 (2 * (p : Int)) = 2 * (p : Int) := by unfold wrap64; omega
  have w2 : wrap64 (2 * (p : Int) - (n : Int)) = 2 * (p : Int) - (n : Int) := by unfold wrap64; omega
  have w3 : wrap64 (-(2 * (p : Int) - (n : Int))) = -(2 * (p : Int) - (n : Int)) := by unfold wrap64; omega
  obtain ⟨cg, hcg⟩ : ∃ cg, decide (2 * (p : Int) - (n : Int) < 0) = cg := ⟨_, rfl⟩
  go_enter Try.func27, Try.ntmps27
  cases cg
  · have hg : 2 * (p : Int) - (n : Int) = (gapN p n : Nat) := by have := of_decide_eq_false hcg; unfold gapN; omega
    go_wp2_with (go_at_call 26; refine HC.out.mono ?_; rintro e w' ⟨rfl, rfl⟩)
    go_ret
    exact ⟨by first | (rw [HU.out]; rfl) | (rw [HU.out, ← hg]; rfl), rfl⟩
  · have hg : -(2 * (p : Int) - (n : Int)) = (gapN p n : Nat) := by have := of_decide_eq_true hcg; unfold gapN; omega
    go_wp2_with (go_at_call 26; refine HC.out.mono ?_; rintro e w' ⟨rfl, rfl⟩)
    go_ret
    exact ⟨by first | (rw [HU.out]; rfl) | (rw [HU.out, ← hg]; rfl), rfl⟩
end Go.Proofs.Ytjbohnnknfcjeaa
