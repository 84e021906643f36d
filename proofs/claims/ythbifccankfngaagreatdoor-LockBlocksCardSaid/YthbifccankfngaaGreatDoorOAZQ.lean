/-
  slices.Sort, slices.Compact of numbers; Blocks whole, of one who waits and of one who does not.
  Conditions: fewer than 2^60 numbers; at most 1000 claims a row.
-/
import Derived.Test.YthbifccankfngaaGreatDoorO9ZQ
import Derived.Test.YthbifccankfngaaGreatDoorL7ZQ
import Derived.Shelf.SlicesE.Compact
namespace Go.Proofs.YthbifccankfngaaGreatDoor
open Go.RowKit Go.Shelf Go.Sort
attribute [local go_sem] Oper.semAt_some
set_option maxRecDepth 20000

set_option maxHeartbeats 1600000 in
theorem sortO_any (g n cap : Nat) (pad : List Value) (d : Array Nat) (w : World) (h : Nr w g pad d) (hn : d.size = n) (hs : n < 1152921504606846976) :
    Calls Tryz.prog 39 #[.slice (some ⟨g, 0, none⟩) n cap] w (fun e w' => e = .returned (.tuple #[]) ∧ Nq w g pad (pdq ltN d 0 n (Lib.bitLen n) true true) w') := by
  have wn := wrapU (k := n) (by omega)
  have HB := Lib.hid (blen_any n (by omega) w)
  have HP := Lib.hid (pdqO_any g n cap pad hs (n + 1) 0 n (Lib.bitLen n) d w (by omega) h hn (Nat.zero_le _) (Nat.le_refl _) (by have := Lib.bitLen_le n 62 (by omega) (by omega); omega) (Or.inl rfl))
  clear h
  go_enter Tryz.func39, Tryz.ntmps39
  go_wp2_with fail
  refine HB.out.mono ?_
  rintro e w' ⟨rfl, rfl⟩
  go_wp2_with fail
  refine HP.out.mono ?_
  rintro e y ⟨rfl, hy⟩
  have HY := Lib.hid hy
  clear hy
  go_wp2_with fail
  go_end0
  exact ⟨rfl, HY.out⟩

theorem perm_whole {d d' : Array Nat} {n : Nat} (hn : d.size = n) (h : PermIn 0 n d d') : d'.toList.Perm d.toList := by
  have h2 := h.2.2
  have h1 := h.1
  rw [show d'.extract 0 n = d' by rw [← hn, ← h1]; simp, show d.extract 0 n = d by rw [← hn]; simp] at h2
  exact h2
theorem rising_whole {d : Array Nat} {n : Nat} (hn : d.size = n) (h : SortedIn ltN 0 n d) : ∀ i j, i < j → j < d.size → d[i]! ≤ d[j]! := fun i j hij hj => by
  have := h i j (Nat.zero_le _) hij (by omega)
  simpa [ltN] using this
/-- Of a rising row the compaction keeps each number once. -/
theorem compact_spec (d : Array Nat) (hr : ∀ i j, i < j → j < d.size → d[i]! ≤ d[j]!) : ∀ m, m ≤ d.size → (Lib.compactUpTo d m).Pairwise (· < ·) ∧ ∀ x, x ∈ Lib.compactUpTo d m ↔ ∃ j, j < m ∧ d[j]! = x
  | 0, _ => ⟨by simp [Lib.compactUpTo], fun x => by simp [Lib.compactUpTo]⟩
  | m + 1, hm => by
    obtain ⟨h1, h2⟩ := compact_spec d hr m (by omega)
    rw [Lib.compactUpTo_succ]
    by_cases hk : Lib.keeps d m = true
    · rw [if_pos hk]
      refine ⟨List.pairwise_append.2 ⟨h1, by simp, fun a ha b hb => ?_⟩, fun x => ?_⟩
      · obtain rfl : b = d[m]! := by simpa using hb
        obtain ⟨j, hj, rfl⟩ := (h2 a).1 ha
        have hle := hr j m hj (by omega)
        have hne : m = 0 ∨ d[m]! ≠ d[m - 1]! := by simpa [Lib.keeps] using hk
        rcases hne with h0 | hne
        · omega
        · have h3 := hr (m - 1) m (by omega) (by omega)
          have h4 : d[j]! ≤ d[m - 1]! := by
            by_cases e : j = m - 1
            · rw [e]; exact Nat.le_refl _
            · exact hr j (m - 1) (by omega) (by omega)
          omega
      · rw [List.mem_append, h2 x]
        constructor
        · rintro (⟨j, hj, rfl⟩ | hx)
          · exact ⟨j, by omega, rfl⟩
          · exact ⟨m, by omega, by simpa using (List.mem_singleton.1 hx).symm⟩
        · rintro ⟨j, hj, rfl⟩
          by_cases e : j = m
          · exact .inr (by rw [e]; simp)
          · exact .inl ⟨j, by omega, rfl⟩
    · rw [if_neg hk, List.append_nil]
      refine ⟨h1, fun x => ?_⟩
      rw [h2 x]
      constructor
      · rintro ⟨j, hj, rfl⟩
        exact ⟨j, by omega, rfl⟩
      · rintro ⟨j, hj, rfl⟩
        by_cases e : j = m
        · have hne : ¬ (m = 0 ∨ d[m]! ≠ d[m - 1]!) := by simpa [Lib.keeps] using hk
          exact ⟨m - 1, by omega, by rw [e]; have h5 : d[m]! = d[m - 1]! := Decidable.not_not.1 fun h => hne (.inr h); exact h5.symm⟩
        · exact ⟨j, by omega, rfl⟩

def layCompact_ren : Go.Shelf.Ren := ⟨fun | 43 => 40 | n => n, fun | 22 => 37 | 23 => 31 | n => n, fun | n => n⟩
theorem layCompact : Go.Proofs.SlLaysE.n43 Tryz.prog layCompact_ren := {
  mixed := by kernel_rfl
  f43 := ⟨Tryz.f40.name, by decide, Tryz.func40.trans (congrArg some (by kernel_rfl))⟩
  t0 := Tryz.underlying0
  a0 := Tryz.isAgg0
  z0 := Tryz.sizeOf0
  v0 := Tryz.zeroValue0
  t3 := Tryz.underlying3
  a3 := Tryz.isAgg3
  z3 := Tryz.sizeOf3
  v3 := Tryz.zeroValue3
  t4 := Tryz.underlying4
  a4 := Tryz.isAgg4
  z4 := Tryz.sizeOf4
  v4 := Tryz.zeroValue4
  t22 := Tryz.underlying37
  a22 := Tryz.isAgg37
  z22 := Tryz.sizeOf37
  v22 := Tryz.zeroValue37
  a23 := Tryz.isAgg31
  z23 := Tryz.sizeOf31 }
def enU (n : Nat) : Value := .int .u64 (n : Int)
theorem enU_eql (P : Program) (T : TypeId) : EqlAt P T enU (fun x y => decide (x = y)) :=
  ⟨fun x y w => by have := (EqlAt.intD P T .u64).1 (x : Int) (y : Int) w; unfold enU; rw [this]; congr 2; exact decide_eq_decide.2 Int.ofNat_inj, fun op a b x y w => (EqlAt.intD P T .u64).2 op a b (x : Int) (y : Int) w⟩
theorem enU_neq (P : Program) (T : TypeId) : NeqAt P T enU (fun x y => decide (x = y)) :=
  ⟨fun x y w => by have := (NeqAt.intD P T .u64).1 (x : Int) (y : Int) w; unfold enU; rw [this]; congr 3; exact decide_eq_decide.2 Int.ofNat_inj, fun op a b x y w => (NeqAt.intD P T .u64).2 op a b (x : Int) (y : Int) w⟩
theorem Nr.holds {w : World} {g : Nat} {pad : List Value} {d : Array Nat} (h : Nr w g pad d) : Holds enU w g 0 d := fun j hj => by
  rw [Nat.zero_add]
  exact ⟨h.cell hj, h.frozen j⟩
theorem Nr.put {w : World} {g : Nat} {pad : List Value} {d d' : Array Nat} (h : Nr w g pad d) (hd : d'.size = d.size) (q : Nat) : Nq w g pad d' (putRow enU (Sort.ahead w q) g 0 d') := by
  have hh : (putRow enU (Sort.ahead w q) g 0 d').heap = w.heap.modify g (onCells (putCells enU 0 d')) := rfl
  have hc : putCells enU 0 d' (UC d.toList ++ pad).toArray = (UC d'.toList ++ pad).toArray := by
    apply Array.ext_getElem?
    intro k
    unfold putCells
    rw [Array.getElem?_mapIdx]
    simp only [List.getElem?_toArray, Nat.zero_le, true_and, Nat.zero_add, Nat.sub_zero]
    by_cases hk : k < d'.size
    · have hl : k < d.toList.length := by simp; omega
      have hl' : k < d'.toList.length := by simpa using hk
      rw [List.getElem?_append_left (by rw [UC_length]; exact hl), List.getElem?_append_left (by rw [UC_length]; exact hl'), UC_get _ k hl, UC_get _ k hl']
      simp only [Option.map_some, if_pos hk]
      rw [getElem!_pos d' k hk]
      simp [enU]
    · rw [List.getElem?_append_right (by rw [UC_length]; simp; omega), List.getElem?_append_right (by rw [UC_length]; simp; omega), UC_length, UC_length]
      simp only [Array.length_toList, hd]
      cases pad[k - d.size]? with
      | none => rfl
      | some y => simp only [Option.map_some, if_neg (show ¬ k < d.size by omega)]
  refine ⟨?_, ⟨rfl, rfl, rfl, by simp [hh], fun k hk hne => ?_⟩⟩
  · show (putRow enU (Sort.ahead w q) g 0 d').heap[g]? = _
    rw [hh, Array.getElem?_modify, if_pos rfl, show w.heap[g]? = _ from h]
    show some (Obj.cells _ _ _) = _
    rw [hc]
  · rw [hh, Array.getElem?_modify, if_neg (fun e => hne (by rw [e]))]
theorem compO_any (g n cap : Nat) (pad : List Value) (d : Array Nat) (w : World) (h : Nr w g pad d) (hn : d.size = n) (hs : n < 1152921504606846976) (hc : n ≤ cap) :
    Calls Tryz.prog 40 #[.slice (some ⟨g, 0, none⟩) n cap] w (fun e w' => e = .returned (.slice (some ⟨g, 0, none⟩) (Lib.compactUpTo d n).length cap) ∧ Nq w g pad (Lib.compactUpTo d n ++ List.replicate (n - (Lib.compactUpTo d n).length) 0).toArray w') := by
  subst hn
  have hle : (Lib.compactUpTo d d.size).length ≤ d.size := by
    unfold Lib.compactUpTo
    rw [List.length_map]
    exact Nat.le_trans (List.length_filter_le _ _) (by simp)
  refine (AnyE.slices_Compact layCompact enU (fun _ => rfl) (enU_eql _ _) (enU_neq _ _) 0 (fun w => Tryz.zeroValue31 w) g 0 cap d w h.holds (by omega) hc).mono ?_
  rintro e w' ⟨rfl, q, rfl⟩
  exact ⟨rfl, h.put (by simp; omega) q⟩

/-- A row of the call's own, as its block. -/
theorem own_nr {W : World} {B n c : Nat} {A : Option Addr} {L : List Nat} (h0 : 0 < n) (h : W.ownsRow B 31 1 (.slice A n c) n (UC L)) : ∃ g pad, A = some ⟨g, 0, none⟩ ∧ B ≤ g ∧ n ≤ c ∧ c ≤ maxLen ∧ n + pad.length = c ∧ Nr W g pad L.toArray := by
  rcases h.2 with ⟨_, e⟩ | ⟨g, cap, cur, e, hB, hg, hcap, hm, hsz, htk⟩
  · omega
  · injection e with e1 e2 e3
    subst e3
    rw [Nat.mul_one] at htk hsz
    refine ⟨g, cur.toList.drop n, e1, hB, hcap, hm, by simp; omega, ?_⟩
    show At _ _ _ _
    unfold At
    rw [hg, ← htk, List.take_append_drop]
theorem nr_own {W : World} {B g c k : Nat} {pad : List Value} {d : Array Nat} {l : List Nat} (h : Nr W g pad d) (hB : B ≤ g) (hsz : d.size + pad.length = c) (hm : c ≤ maxLen) (hl : d.toList.take k = l) (hk : k ≤ d.size) : W.ownsRow B 31 1 (.slice (some ⟨g, 0, none⟩) k c) k (UC l) := by
  subst hl
  refine ⟨by rw [UC_length]; simp; omega, .inr ⟨g, c, _, rfl, hB, h, by omega, hm, by simp [UC_length]; omega, ?_⟩⟩
  rw [Nat.mul_one, List.take_append_of_le_length (by rw [UC_length]; simpa using hk)]
  simp [UC, List.map_take]

/-- Go's sort over a row of the call's own. -/
theorem sort_own {W : World} {B c : Nat} {A : Option Addr} {L : List Nat} (h0 : 0 < L.length) (hs : L.length < 1152921504606846976) (h : W.ownsRow B 31 1 (.slice A L.length c) L.length (UC L)) :
    Calls Tryz.prog 39 #[.slice A L.length c] W (fun e w' => e = .returned (.tuple #[]) ∧ ∃ l, (l.Perm L ∧ ∀ i j, i < j → j < l.toArray.size → l.toArray[i]! ≤ l.toArray[j]!) ∧ l.length = L.length ∧ w'.ownsRow B 31 1 (.slice A L.length c) L.length (UC l) ∧ W.grownBy w' (Value.slice A L.length c).ownBlock) := by
  obtain ⟨g, pad, rfl, hB, hc, hm, hp, hn⟩ := own_nr h0 h
  refine (sortO_any g L.length c pad L.toArray W hn rfl hs).mono ?_
  rintro e w' ⟨rfl, hq⟩
  obtain ⟨p1, p2⟩ := pdq_ok L.toArray 0 L.length (Lib.bitLen L.length) true true (Nat.zero_le _) (Nat.le_refl _) (Or.inl rfl)
  generalize pdq ltN L.toArray 0 L.length (Lib.bitLen L.length) true true = d' at hq p1 p2
  have hsz : d'.size = L.length := p1.1
  have hp2 := perm_whole (d := L.toArray) rfl p1
  refine ⟨rfl, d'.toList, ⟨hp2, fun i j hij hj => rising_whole (n := L.length) hsz p2 i j hij hj⟩, by simpa using hsz, nr_own hq.nr hB (by omega) hm (List.take_of_length_le (by simp; omega)) (by omega), hq.gr⟩
/-- Go's compaction over a rising row of the call's own. -/
theorem comp_own {W : World} {B c n : Nat} {A : Option Addr} {l L : List Nat} (h0 : 0 < n) (hs : n < 1152921504606846976) (hl : l.length = n) (hp : l.Perm L ∧ ∀ i j, i < j → j < l.toArray.size → l.toArray[i]! ≤ l.toArray[j]!) (h : W.ownsRow B 31 1 (.slice A n c) n (UC l)) :
    Calls Tryz.prog 40 #[.slice A n c] W (fun e w' => ∃ v l2, e = .returned v ∧ (l2.Pairwise (· < ·) ∧ ∀ x, x ∈ l2 ↔ x ∈ L) ∧ w'.ownsRow B 31 1 v l2.length (UC l2) ∧ W.grownBy w' (Value.slice A n c).ownBlock) := by
  subst hl
  obtain ⟨g, pad, rfl, hB, hc, hm, hpd, hn⟩ := own_nr h0 h
  refine (compO_any g l.length c pad l.toArray W hn rfl hs hc).mono ?_
  rintro e w' ⟨rfl, hq⟩
  obtain ⟨q1, q2⟩ := compact_spec l.toArray hp.2 l.length (Nat.le_refl _)
  have hle : (Lib.compactUpTo l.toArray l.length).length ≤ l.length := by
    unfold Lib.compactUpTo
    rw [List.length_map]
    exact Nat.le_trans (List.length_filter_le _ _) (by simp)
  generalize Lib.compactUpTo l.toArray l.length = l2 at hq q1 q2 hle ⊢
  refine ⟨_, l2, rfl, ⟨q1, fun x => ?_⟩, nr_own hq.nr hB (by simp; omega) hm (by simp) (by simp), hq.gr⟩
  rw [q2 x, ← hp.1.mem_iff, List.mem_iff_getElem]
  constructor
  · rintro ⟨j, hj, e⟩
    exact ⟨j, hj, by rw [← e, getElem!_pos l.toArray j (by simpa using hj)]; simp⟩
  · rintro ⟨j, hj, e⟩
    exact ⟨j, hj, by rw [← e, getElem!_pos l.toArray j (by simpa using hj)]; simp⟩
/-- Blocks for one who waits. -/
theorem blocks_wait (X : Nat → Prop) (g : Nat) (s : TS) (t : Nat) (r : Rs) (w : World) (h : Tt w g s X) (hT : Tab w) (hX : ∀ k, X k → 2 ≤ k) (hr : RsOk r) (ht : U64 t) (hs : SmS s 1000) (hw : s.wt t = some r) (ax : Nat) (hax : ax < (s.at r).2.length) (hat : (s.at r).2.findIdx? (fun c => c.1 == t) = some ax)
    (L : List Nat) (hL : L = ((s.at r).1.filter fun x => hind x (s.at r).2[ax]).map (·.1) ++ ((s.at r).2.take ax).map (·.1)) (h0 : L ≠ []) :
    Calls Tryz.prog 15 #[.pointer (some ⟨g, 0, none⟩), .int .u64 (t : Int)] w (fun e w' => ∃ v l2, e = .returned v ∧ (l2.Pairwise (· < ·) ∧ ∀ x, x ∈ l2 ↔ x ∈ L) ∧ w'.ownsRow w.heap.size 31 1 v l2.length (UC l2) ∧ Below w.heap.size w w') := by
  have h0' : 0 < L.length := List.length_pos_iff.2 h0
  have hlen : L.length < 1152921504606846976 := by
    have h1 := (hs.1 r).1
    have h2 := (hs.1 r).2
    have h3 : ((s.at r).1.filter fun x => hind x (s.at r).2[ax]).length ≤ (s.at r).1.length := List.length_filter_le _ _
    rw [hL]
    simp
    omega
  exact blocks_some X g s t r w h hT hX hr ht hs hw ax hax hat (fun l => l.Perm L ∧ ∀ i j, i < j → j < l.toArray.size → l.toArray[i]! ≤ l.toArray[j]!) (fun l2 => l2.Pairwise (· < ·) ∧ ∀ x, x ∈ l2 ↔ x ∈ L) L hL
    (fun W A c B ho => sort_own h0' hlen ho) (fun W A c B l hp hl ho => comp_own h0' hlen hl hp ho)
set_option maxHeartbeats 1600000 in
theorem blocks_idle (X : Nat → Prop) (g : Nat) (s : TS) (t : Nat) (w : World) (h : Tt w g s X) (ht : U64 t) (hw : s.wt t = none) :
    Calls Tryz.prog 15 #[.pointer (some ⟨g, 0, none⟩), .int .u64 (t : Int)] w (RetB w (.slice none 0 0)) := by
  obtain ⟨B, b1, b2, b3, V, hv, _⟩ := h.ex
  have p0 : w.cell? ⟨g, 2, none⟩ = some (.map (some b3)) := hv.cell3
  have TB := Lib.hid hv
  have HB := Lib.hid (show Below w.heap.size w (w.alloc (.cells (wtV none) 33)) from (Below.refl _ w).alloc (Nat.le_refl _) _)
  have HW := Lib.hid hw
  have HT := Lib.hid ht
  clear h hv ht hw
  go_enter Tryz.func15, Tryz.ntmps15
  go_wp2_with (first
    | refine wpList_look rfl 20 rfl (.tmp 18) (.tmp 19) true rfl keyT_u64 Tryz.underlying59 (rsV (0, 0)) (zero_res _) rfl TB.out.ms.m3 t rfl HT.out (.tuple #[.agg (wtV none), .bool false]) (by show lookV _ ((s.wt t).map rsV) true = _; rw [HW.out]; rfl) ?_
    | refine wpList_store_new 33 (.tmp 5) (.tmp 21) rfl rfl rfl _ w rfl rfl (wtV none) (rsA (0, 0)) 2 rfl strR rfl rfl (wtV_one _) rfl ?_)
  go_ret
  exact ⟨rfl, HB.out⟩
end Go.Proofs.YthbifccankfngaaGreatDoor
