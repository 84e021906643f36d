/-
  slices.Values, AppendSeq, Collect, Sorted over numbers that lie in memory.
  Conditions: at most 100000 numbers.
-/
import Derived.Test.YtjbohnnknfcjeaaSK
import Derived.RangeFuncNested
import Derived.RangeFuncBound
import Derived.RangeFuncCalls
import Derived.RangeFuncLeaves
import Derived.OrdersIn
import Derived.OwnWalkIn
import Derived.TacticsInMore
import Derived.RegionIn
import Derived.LoopNIn
import Derived.LoopIn
import Derived.Sort.MapsRangeIn
import Derived.Shelf.RegionOpen
namespace Go.Proofs.Ytjbohnnknfcjeaa
open Go.RowKit Go.Shelf
attribute [local go_sem] Oper.semAt_some
set_option maxRecDepth 100000

/-- What a round must keep for the iterator: the numbers' own block. -/
def KpV (A : Option Addr) (n : Nat) (W W' : World) : Prop := n ≠ 0 → ∀ a, A = some a → W'.heap[a.block]? = W.heap[a.block]?
theorem kpV_t {A : Option Addr} {n : Nat} {U V W : World} (h : KpV A n U V) (k : KpV A n V W) : KpV A n U W := fun h0 a ha => (k h0 a ha).trans (h h0 a ha)
theorem kpV_b {A : Option Addr} {n : Nat} {w : World} (h3 : ∀ a, A = some a → n ≠ 0 → a.block < w.heap.size) (W : World) (l : Nat) (o o' : Obj) (hl : w.heap.size ≤ l) (_ : W.heap[l]? = some o) (_ : o.isCells = false) (_ : o.isWalk = false) : KpV A n W (W.putObj l o') :=
  fun h0 a ha => World.putObj_heap_other (by have := h3 a ha h0; omega)
theorem lz_heap {W W' : World} {A : Option Addr} {n size : Nat} {xs : List Value} (h : Lz (fun _ => False) W size A n xs) (he : KpV A n W W') : Lz (fun _ => False) W' size A n xs := ⟨h.len, fun hn => by
  obtain ⟨b, o, h1, h2, h3, h4⟩ := h.spot hn
  have hb := he (by omega) _ h1
  dsimp only at hb
  refine ⟨b, o, h1, h2, ?_, fun j u hu => ?_⟩
  · have h5 : W.heap[b]? = some W.heap[b] := Array.getElem?_eq_getElem h3
    rw [h5] at hb
    exact (Array.getElem?_eq_some_iff.1 hb).1
  · exact (World.cell?_of_block (a := ⟨b, o + j, none⟩) hb).trans (h4 j u hu)⟩
theorem below_grown {w w' : World} (h : Below w.heap.size w w') : w.grownBy w' none := ⟨h.os, h.tape, h.output, h.size, fun k hk _ => h.block k hk⟩
def IterEnd (J Jx : List Nat → World → Prop) (L : List Nat) (e : Ending) (W' : World) : Prop := (∃ v, e = .returned v) ∧ ((∃ ys, ys = L ∧ J ys W') ∨ (∃ pre, pre <+: L ∧ Jx pre W'))
set_option maxHeartbeats 6400000 in
theorem val_iter (m L Bb : Nat) (A : Option Addr) (n c : Nat) (l : List Nat) (J Jx : List Nat → World → Prop) (hn : n ≤ 100000)
    (hY : ∀ pre y W, J pre W → pre ++ [y] <+: l → YieldAt Fence.wide (m - 1) Try.prog L #[.int .u32 ((y : Nat) : Int)] W fun e W' =>
      (e = .returned (.bool true) ∧ J (pre ++ [y]) W' ∧ KpV A n W W') ∨ (e = .returned (.bool false) ∧ Jx (pre ++ [y]) W'))
    (W : World) (hc : W.cell? ⟨Bb, 0, none⟩ = some (.slice A n c)) (hB : Lz (fun _ => False) W 1 A n (UC l)) (h0 : J [] W) :
    CallsIn Fence.wide m Try.prog 30 #[.func (.yield L) #[] #[], .pointer (some ⟨Bb, 0, none⟩)] W (IterEnd J Jx l) := by
  have hlen := hB.ulen
  have HY := Lib.hid hY
  have HL0 := Lib.hid hB
  clear hY hB
  refine callsIn_of_wp Try.func30 rfl trivial ?_ rfl
  simp only [Try.ntmps30, List.size_toArray, List.length_cons, List.length_nil, Nat.reduceAdd, Nat.reduceSub, Array.replicate_succ, Array.replicate_zero, List.push_toArray, List.append_toArray, List.nil_append, List.cons_append]
  gi_wp2_with fail
  gi_loopw [4, 7] (fun v4 v wr => ∃ k : Nat, k ≤ n ∧ v = .int .i64 (k : Int) ∧ Hid (J (l.take k) wr) ∧ Hid (Lz (fun _ => False) wr 1 A n (UC l))) (fun _ v _ => n - (intOf v).toNat)
  case atStart => exact ⟨0, Nat.zero_le _, rfl, Lib.hid h0, HL0⟩
  case round =>
    clear HL0 h0 hc
    obtain ⟨k, hk, rfl, hJk, HL⟩ := hrel
    by_cases hlt : k < n
    · obtain ⟨b, o, hl, rfl, hb, hc⟩ := HL.out.uc hlt
      have hE : l.take (k + 1) = l.take k ++ [l[k]] := by rw [List.take_add_one, List.getElem?_eq_getElem hl]; rfl
      obtain ⟨y, hy⟩ : ∃ y, l[k] = y := ⟨_, rfl⟩
      rw [hy] at hc hE
      have hpre : l.take k ++ [y] <+: l := by rw [← hE]; exact List.take_prefix _ _
      have HE := Lib.hid hE
      have HPRE := Lib.hid hpre
      clear hy hE hpre
      obtain ⟨fn, tmps, assign, body, hy, hR⟩ := HY.out _ y wr hJk.out HPRE.out
      gi_wp2_with fail
      refine ⟨(fun h => by cases h), hR.mono ?_⟩
      rintro e W3 (⟨rfl, hJ4, hk4⟩ | ⟨rfl, hJx⟩)
      · have HJ4 := Lib.hid hJ4
        have HK4 := Lib.hid hk4
        clear hJ4 hk4 hR hy hc
        gi_wp2_with fail
        go_roundw
        case rel => exact ⟨k + 1, by omega, by go_num, Lib.hid (by rw [HE.out]; exact HJ4.out), Lib.hid (lz_heap HL.out HK4.out)⟩
        case measure => simp [intOf]; omega
      · have HJX := Lib.hid hJx
        clear hJx hR hy hc
        gi_wp2_with fail
        refine bodyPost_ret (results_none rfl _ _ _) rfl ?_
        exact ⟨⟨_, rfl⟩, .inr ⟨_, HPRE.out, HJX.out⟩⟩
    · obtain rfl : k = n := by omega
      have HEND : Hid (J l wr) := by have := hJk.out; rwa [List.take_of_length_le (by omega)] at this
      gi_wp2_with fail
      go_end0
      exact ⟨⟨_, rfl⟩, .inl ⟨_, rfl, HEND.out⟩⟩
theorem val_stops (m Bb : Nat) (A : Option Addr) (n c : Nat) (l : List Nat) (hn : n ≤ 100000) (w : World) (hc : w.cell? ⟨Bb, 0, none⟩ = some (.slice A n c)) (hB : Lz (fun _ => False) w 1 A n (UC l)) :
    SeqStopsK Fence.wide m Try.prog 30 #[.pointer (some ⟨Bb, 0, none⟩)] (fun y : Nat => #[Value.int .u32 (y : Int)]) (KpV A n) (fun ys => ys = l) (fun pre => pre <+: l) l.length w := fun L J Jx W hW _ _ hY h0 => by
  refine (val_iter m L Bb A n c l J Jx hn ?_ W ((hW.cell (p := ⟨Bb, 0, none⟩) (World.block_lt_of_cell? w _ hc)).trans hc) (hB.below hW) h0).mono ?_
  · intro pre y W1 hj hpre
    exact hY pre y W1 hj (by have := hpre.length_le; simp at this; omega)
  · rintro e W' ⟨h1, ⟨ys, rfl, hj⟩ | ⟨pre, hpre, hj⟩⟩
    · exact ⟨h1, .inl ⟨_, rfl, hj⟩⟩
    · exact ⟨h1, .inr ⟨pre, hpre, hj⟩⟩
/-- What AppendSeq returns: the numbers, in a row of the call's own. -/
def AppR (w : World) (l : List Nat) (e : Ending) (w' : World) : Prop := ∃ v, e = .returned v ∧ w'.ownsRow w.heap.size 23 1 v l.length (UC l) ∧ Below w.heap.size w w'
theorem u_get (x : Nat) (w : World) : ∀ j u, (UC [x])[j]? = some u → (w.alloc (.cells #[.int .u32 (x : Int)] 23)).cell? ((⟨w.heap.size, 0, none⟩ : Addr).add j) = some u := fun j u hu => by
  obtain ⟨a, ha, _, h⟩ := (lies_new w (.int .u32 (x : Int)) 23).spot (by omega)
  injection ha with ha
  subst ha
  exact h j u hu
set_option maxHeartbeats 8000000 in
theorem AppendSeq_any (Bb : Nat) (A : Option Addr) (n c : Nat) (l : List Nat) (hn : n ≤ 100000) (w : World) (hc : w.cell? ⟨Bb, 0, none⟩ = some (.slice A n c)) (hB : Lz (fun _ => False) w 1 A n (UC l)) :
    Calls Try.prog 31 #[.slice none 0 0, .func (.func 30) #[] #[.pointer (some ⟨Bb, 0, none⟩)]] w (AppR w l) := by
  refine (callsIn_wide (n := 3)).1 ?_
  have hlen := hB.ulen
  have HM := Lib.hid hc
  have HO := Lib.hid hB
  have HAB : Hid (∀ a, A = some a → n ≠ 0 → a.block < w.heap.size) := fun a ha h0 => by
    obtain ⟨b, o, h1, _, h3, _⟩ := hB.spot (by omega)
    rw [ha] at h1
    injection h1 with h1
    subst h1
    exact h3
  clear hc hB
  refine callsIn_of_wp_marks Try.func31 rfl trivial ?_ rfl
  simp only [Try.ntmps31, List.size_toArray, List.length_cons, List.length_nil, Nat.reduceAdd, Nat.reduceSub, Array.replicate_succ, Array.replicate_zero, List.push_toArray, List.append_toArray, List.nil_append, List.cons_append]
  gi_wp2
  obtain ⟨W0, hW0⟩ : ∃ W0, w.alloc (.cells #[.slice none 0 0] 22) = W0 := ⟨_, rfl⟩
  have hs0 : W0.heap.size = w.heap.size + 1 := by rw [← hW0]; simp
  have bS : Boxed W0 w.heap.size 22 (.slice none 0 0) := by rw [← hW0]; exact Boxed.new w _ _
  have hB0 : Below w.heap.size w W0 := by rw [← hW0]; exact (Below.refl _ w).alloc (Nat.le_refl _) _
  have hm0 : W0.cell? ⟨Bb, 0, none⟩ = some (.slice A n c) := (hB0.cell (p := ⟨Bb, 0, none⟩) (World.block_lt_of_cell? w _ HM.out)).trans HM.out
  have hO0 : Lz (fun _ => False) W0 1 A n (UC l) := HO.out.below hB0
  rw [hW0]
  clear hW0
  refine wpIn_rangeFunc_ownF rfl (by omega) (gf := 30) (lb := #[.pointer (some ⟨Bb, 0, none⟩)]) rfl trivial (enters_of Try.func30 (by kernel_rfl) rfl)
    (val_stops _ Bb A n c l hn W0 hm0 hO0) kpV_t (kpV_b (fun a ha h0 => by have := HAB.out a ha h0; omega)) (Below.refl _ _) (fun _ => rfl)
    (fun pre W => (∃ v, Boxed W w.heap.size 22 v ∧ W.ownsRow w.heap.size 23 1 v pre.length (UC pre) ∧ True) ∧ Below w.heap.size w W)
    (fun _ _ _ => False)
    (OwnFrom.and (Own.from (holdsRow_own _ _ _ _ 1 (fun pre : List Nat => pre.length) UC (fun _ _ => True)) _) (ownFrom_below (Nat.le_refl _) (by omega)))
    (fun _ _ _ _ _ hs _ _ => hs)
    ⟨⟨_, bS, World.ownsRow_nil _ _ _ _, trivial⟩, hB0⟩
    (fun x => { tmps := #[.slice none 0 0, .func (.func 30) #[] #[.pointer (some ⟨Bb, 0, none⟩)], .pointer (some ⟨w.heap.size, 0, none⟩), undef, .slice none 0 0, .int .u32 (x : Int), .func (.func 30) #[] #[.pointer (some ⟨Bb, 0, none⟩)], .int .u32 (x : Int), undef, undef, undef, undef, undef], defers := [] })
    ?assign ?body ?done ?stop
  case assign =>
    intro l x W K hK
    gi_wp2
    simpa using hK
  case body =>
    rintro l' pre x W ⟨⟨v, hv, hrow, _⟩, hB⟩ hlt
    have q2 := hv.cell
    have q3 := hv.frozen
    have hle := hB.size
    obtain ⟨i0, hi, hz0, hz1, hz2⟩ := u_info
    gi_wp2_with (gi_at_builtin; refine wpListIn_append_own _ rfl _ _ 22 rfl w.heap.size 23 i0 (.int .u32 0) 1 4 Try.underlying22 hi hz0 hz1 hz2 rfl (by decide) _ _ _ rfl (hrow.alloc _) ⟨W.heap.size, 0, none⟩ 1 1 (UC [x]) rfl rfl (u_get x W) (fun u hu => by simp [UC] at hu; rw [hu]; rfl) (by simp only [maxLen]; omega) (by omega) (by simp; omega) ?_
                 intro v' w1 hown' hgrow _
                 obtain ⟨g', cap', rfl⟩ := ownsRow_succ hown'
                 obtain ⟨hv1, hv2, hr2, hk2, hb2⟩ := hv.appended (by decide) hrow hle (Nat.le_refl _) hown' hgrow
                 have hc1 := hv1.cell
                 have hf1 := hv1.frozen)
    have hr3 := hr2
    rw [← UC_append] at hr3
    have e : pre.length + 1 = (pre ++ [x]).length := by simp
    rw [e] at hr3 hv2 hk2 hb2 ⊢
    exact ⟨hk2, fun h0 a ha => hb2.block a.block (HAB.out a ha h0), ⟨⟨_, hv2, hr3, trivial⟩, hB.trans hb2⟩⟩
  case done =>
    rintro D xs W hD rfl ⟨⟨v, hv, hrow, _⟩, hB⟩ hK
    have q2 := hv.cell
    gi_wp2
    refine ⟨by simp, .inl ⟨_, _, rfl, run_takeDeferred hK, ?_⟩⟩
    exact ⟨_, results_tmp rfl _ _ _, v, rfl, ownsRow_putObj hrow _ hK rfl, hB.trans (belowK_b (w := w) (Nat.le_refl _) W D _ _ (by omega) hK rfl rfl)⟩
  case stop =>
    rintro D c pre W _ _ h _
    exact h.elim
theorem Collect_any (Bb : Nat) (A : Option Addr) (n c : Nat) (l : List Nat) (hn : n ≤ 100000) (w : World) (hc : w.cell? ⟨Bb, 0, none⟩ = some (.slice A n c)) (hB : Lz (fun _ => False) w 1 A n (UC l)) :
    Calls Try.prog 28 #[.func (.func 30) #[] #[.pointer (some ⟨Bb, 0, none⟩)]] w (AppR w l) := by
  have HA := Lib.hid (AppendSeq_any Bb A n c l hn w hc hB)
  clear hc hB
  go_enter Try.func28, Try.ntmps28
  go_wp2_with fail
  refine HA.out.mono ?_
  rintro e w' ⟨v, rfl, h2, h3⟩
  have H2 := Lib.hid h2
  have H3 := Lib.hid h3
  clear h2 h3 HA
  go_wp2_with fail
  go_ret
  exact ⟨v, rfl, H2.out, H3.out⟩
/-- What Sorted returns: the numbers, rising, in a row of the call's own. -/
def SrtR (w : World) (l : List Nat) (e : Ending) (w' : World) : Prop := ∃ A m c r, e = .returned (.slice A m c) ∧ r.length = m ∧ r.Pairwise (· ≤ ·) ∧ r.Perm l ∧ RowS w r (.slice A m c) w'
set_option maxHeartbeats 800000 in
theorem Sorted_any (Bb : Nat) (A : Option Addr) (n c : Nat) (l : List Nat) (hn : n ≤ 100000) (w : World) (hc : w.cell? ⟨Bb, 0, none⟩ = some (.slice A n c)) (hB : Lz (fun _ => False) w 1 A n (UC l)) :
    Calls Try.prog 23 #[.func (.func 30) #[] #[.pointer (some ⟨Bb, 0, none⟩)]] w (SrtR w l) := by
  have hlen := hB.ulen
  have HA := Lib.hid (Collect_any Bb A n c l hn w hc hB)
  clear hc hB
  go_enter Try.func23, Try.ntmps23
  go_wp2_with fail
  refine HA.out.mono ?_
  rintro e w1 ⟨v, rfl, h2, h3⟩
  obtain ⟨m, hm⟩ : ∃ m, l.length = m := ⟨_, rfl⟩
  rw [hm] at h2
  have hmn : m ≤ 100000 := by omega
  obtain ⟨A1, c1, hv, _⟩ := own_slice h2
  subst hv
  have H2 : Hid (RowS w l (.slice A1 m c1) w1) := ⟨h3, by rw [hm]; exact h2⟩
  have HM := Lib.hid hm
  clear h2 h3 HA hm hlen
  have HS : Hid (Calls Try.prog 29 #[.slice A1 m c1] w1 (fun e w' => e = .returned (.tuple #[]) ∧ ∃ r, r.Perm l ∧ r.Pairwise (· ≤ ·) ∧ RowS w r (.slice A1 m c1) w')) := by
    by_cases h0 : 0 < m
    · exact sort_own h0 HM.out (by omega) H2.out
    · obtain rfl : m = 0 := by omega
      have hk0 : l = [] := List.eq_nil_of_length_eq_zero HM.out
      refine (sort_nil A1 c1 w1).mono ?_
      rintro e w' ⟨rfl, rfl⟩
      exact ⟨rfl, l, List.Perm.refl _, by rw [hk0]; exact List.Pairwise.nil, H2.out⟩
  go_wp2_with fail
  refine HS.out.mono ?_
  rintro e w2 ⟨rfl, r, hp, hs, hr⟩
  have HP := Lib.hid hp
  have HSS := Lib.hid hs
  have HR := Lib.hid hr
  clear hp hs hr HS
  go_wp2_with fail
  go_ret
  exact ⟨A1, m, c1, r, rfl, by rw [HP.out.length_eq]; exact HM.out, HSS.out, HP.out, HR.out⟩
set_option maxHeartbeats 400000 in
theorem Values_any (A : Option Addr) (n c : Nat) (w : World) : Calls Try.prog 24 #[.slice A n c] w fun e w' => e = .returned (.func (.func 30) #[] #[.pointer (some ⟨w.heap.size, 0, none⟩)]) ∧ w' = w.alloc (.cells #[.slice A n c] 22) := by
  have hmf : ∀ (fn : Fn) (first cap : Array Value) (w : World), (Instr.makeFunc fn first cap).run Try.prog w = .ok (.func fn first cap) w := fun _ _ _ _ => rfl
  go_enter Try.func24, Try.ntmps24
  go_wp2_with fail
  go_ret
  exact ⟨rfl, rfl⟩
end Go.Proofs.Ytjbohnnknfcjeaa
