/-
  slices.Sort over a row of numbers of the call's own.
  Conditions: fewer than 2^60 numbers.
-/
import Derived.Test.YtjbohnnknfcjeaaSD
import Derived.Test.YtjbohnnknfcjeaaO9
namespace Go.Proofs.Ytjbohnnknfcjeaa
open Go.RowKit Go.Shelf Go.Sort
attribute [local go_sem] Oper.semAt_some
set_option maxRecDepth 20000

set_option maxHeartbeats 1600000 in
theorem sortO_any (g n cap : Nat) (pad : List Value) (d : Array Nat) (w : World) (h : Nr w g pad d) (hn : d.size = n) (hs : n < 1152921504606846976) :
    Calls Try.prog 29 #[.slice (some ⟨g, 0, none⟩) n cap] w (fun e w' => e = .returned (.tuple #[]) ∧ Nq w g pad (pdq ltN d 0 n (Lib.bitLen n) true true) w') := by
  have wn := wrapU (k := n) (by omega)
  have HB := Lib.hid (blen_any n (by omega) w)
  have HP := Lib.hid (pdqO_any g n cap pad hs (n + 1) 0 n (Lib.bitLen n) d w (by omega) h hn (Nat.zero_le _) (Nat.le_refl _) (by have := Lib.bitLen_le n 62 (by omega) (by omega); omega) (Or.inl rfl))
  clear h
  go_enter Try.func29, Try.ntmps29
  go_wp2_with fail
  refine HB.out.mono ?_
  rintro e w' ⟨rfl, rfl⟩
  go_wp2_with fail
  refine HP.out.mono ?_
  rintro e y ⟨rfl, hy⟩
  have HY := Lib.hid hy
  clear hy
  go_wp2_with fail
  go_end0
  exact ⟨rfl, HY.out⟩
theorem perm_whole {d d' : Array Nat} {n : Nat} (hn : d.size = n) (h : PermIn 0 n d d') : d'.toList.Perm d.toList := by
  have h2 := h.2.2
  have h1 := h.1
  rw [show d'.extract 0 n = d' by rw [← hn, ← h1]; simp, show d.extract 0 n = d by rw [← hn]; simp] at h2
  exact h2
theorem rising_whole {d : Array Nat} {n : Nat} (hn : d.size = n) (h : SortedIn ltN 0 n d) : d.toList.Pairwise (· ≤ ·) := by
  rw [List.pairwise_iff_getElem]
  intro i j hi hj hij
  have hi' : i < d.size := by simpa using hi
  have hj' : j < d.size := by simpa using hj
  have := h i j (Nat.zero_le _) hij (by omega)
  rw [getElem!_pos d i hi', getElem!_pos d j hj'] at this
  simpa [ltN] using this
theorem own_nr {W : World} {B n c : Nat} {A : Option Addr} {L : List Nat} (h0 : 0 < n) (h : W.ownsRow B 23 1 (.slice A n c) n (UC L)) : ∃ g pad, A = some ⟨g, 0, none⟩ ∧ B ≤ g ∧ n ≤ c ∧ c ≤ maxLen ∧ n + pad.length = c ∧ Nr W g pad L.toArray := by
  rcases h.2 with ⟨_, e⟩ | ⟨g, cap, cur, e, hB, hg, hcap, hm, hsz, htk⟩
  · omega
  · injection e with e1 e2 e3
    subst e3
    rw [Nat.mul_one] at htk hsz
    refine ⟨g, cur.toList.drop n, e1, hB, hcap, hm, by simp; omega, ?_⟩
    show At _ _ _ _
    unfold At
    rw [hg, ← htk, List.take_append_drop]
theorem nr_own {W : World} {B g c k : Nat} {pad : List Value} {d : Array Nat} {l : List Nat} (h : Nr W g pad d) (hB : B ≤ g) (hsz : d.size + pad.length = c) (hm : c ≤ maxLen) (hl : d.toList.take k = l) (hk : k ≤ d.size) : W.ownsRow B 23 1 (.slice (some ⟨g, 0, none⟩) k c) k (UC l) := by
  subst hl
  refine ⟨by rw [UC_length]; simp; omega, .inr ⟨g, c, _, rfl, hB, h, by omega, hm, by simp [UC_length]; omega, ?_⟩⟩
  rw [Nat.mul_one, List.take_append_of_le_length (by rw [UC_length]; simpa using hk)]
  simp [UC, List.map_take]
/-- Go's sort over a row of the call's own. -/
theorem sort_own {w0 W : World} {c n : Nat} {A : Option Addr} {L : List Nat} (h0 : 0 < n) (hn : L.length = n) (hs : n < 1152921504606846976) (h : RowS w0 L (.slice A n c) W) :
    Calls Try.prog 29 #[.slice A n c] W (fun e w' => e = .returned (.tuple #[]) ∧ ∃ l, l.Perm L ∧ l.Pairwise (· ≤ ·) ∧ RowS w0 l (.slice A n c) w') := by
  subst hn
  have hown := h.own
  obtain ⟨g, pad, rfl, hB, hc, hm, hp, hr⟩ := own_nr h0 hown
  refine (sortO_any g L.length c pad L.toArray W hr rfl hs).mono ?_
  rintro e w' ⟨rfl, hq⟩
  obtain ⟨p1, p2⟩ := pdq_ok L.toArray 0 L.length (Lib.bitLen L.length) true true (Nat.zero_le _) (Nat.le_refl _) (Or.inl rfl)
  generalize pdq ltN L.toArray 0 L.length (Lib.bitLen L.length) true true = d' at hq p1 p2
  have hsz : d'.size = L.length := p1.1
  have hl : d'.toList.length = L.length := by simpa using hsz
  refine ⟨rfl, d'.toList, perm_whole (d := L.toArray) rfl p1, rising_whole hsz p2, below_own h.below hown hq.gr (Nat.le_refl _) h.below.size, ?_⟩
  rw [hl]
  exact nr_own hq.nr hB (by omega) hm (List.take_of_length_le (by simp; omega)) (by omega)
set_option maxHeartbeats 800000 in
theorem ins_nil (A : Option Addr) (c : Nat) (w : World) : Calls Try.prog 34 #[.slice A 0 c, .int .i64 0, .int .i64 0] w fun e w' => e = .returned (.tuple #[]) ∧ w' = w := by
  go_enter Try.func34, Try.ntmps34
  go_wp2_with fail
  go_loop [6] (fun v => v = .int .i64 1) (fun _ => 0)
  case atStart => rfl
  case round =>
    subst hrel
    go_wp2_with fail
    go_end0
    exact ⟨rfl, rfl⟩
set_option maxHeartbeats 800000 in
theorem pdq_nil (A : Option Addr) (c : Nat) (w : World) : Calls Try.prog 32 #[.slice A 0 c, .int .i64 0, .int .i64 0, .int .i64 0] w fun e w' => e = .returned (.tuple #[]) ∧ w' = w := by
  have HI := Lib.hid (ins_nil A c w)
  go_enter Try.func32, Try.ntmps32
  go_wp2_with fail
  go_loop [1, 2, 3] (fun a b l => a = .int .i64 0 ∧ b = .int .i64 0 ∧ l = .int .i64 0) (fun _ _ _ => 0)
  case atStart => exact ⟨rfl, rfl, rfl⟩
  case round =>
    obtain ⟨rfl, rfl, rfl⟩ := hrel
    go_wp2_with fail
    refine HI.out.mono ?_
    rintro e w' ⟨rfl, rfl⟩
    go_wp2_with fail
    refine bodyPost_ret (v := .tuple #[]) (results_none rfl _ _ _) rfl ?_
    exact ⟨rfl, rfl⟩
set_option maxHeartbeats 800000 in
theorem sort_nil (A : Option Addr) (c : Nat) (w : World) : Calls Try.prog 29 #[.slice A 0 c] w fun e w' => e = .returned (.tuple #[]) ∧ w' = w := by
  have HP := Lib.hid (pdq_nil A c w)
  have HB := Lib.hid (blen_any 0 (by omega) w)
  go_enter Try.func29, Try.ntmps29
  go_wp2_with fail
  refine HB.out.mono ?_
  rintro e w' ⟨rfl, rfl⟩
  go_wp2_with fail
  refine HP.out.mono ?_
  rintro e y ⟨rfl, rfl⟩
  go_wp2_with fail
  go_end0
  exact ⟨rfl, rfl⟩
end Go.Proofs.Ytjbohnnknfcjeaa
