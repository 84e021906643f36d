/-
  Cut: a cut more.
  Conditions: at most seven cuts, ascending from 1 on, of 32 bits.
-/
import Derived.Test.YtjbohnnknfcjeaaSI
namespace Go.Proofs.Ytjbohnnknfcjeaa
open Go.RowKit
attribute [local go_sem] Oper.semAt_some
set_option maxRecDepth 20000

theorem results_at3 {fn : Func} {p t s : Tmp} {ty : TypeId} {tmps : Array Value} {w : World} {g n : Nat} {cs : Array Value} {v u : Value} (hp : tmps.getD p undef = .pointer (some ⟨g, 0, none⟩)) (hc : At w g ty cs) (hs : Str ty n) (hn : cs.size = n)
    (h : fn.results = #[.cell p ty, .tmp t, .tmp s]) (hv : tmps.getD t undef = v) (hu : tmps.getD s undef = u) : (results fn tmps).run Try.prog w = .ok (.tuple #[.agg cs, v, u]) w := by
  obtain ⟨ds, h1, h2, h3⟩ := hs
  have hp' : tmps[p]?.getD undef = .pointer (some ⟨g, 0, none⟩) := by simpa using hp
  have hv' : tmps[t]?.getD undef = v := by simpa using hv
  have hu' : tmps[s]?.getD undef = u := by simpa using hu
  have hl := run_loadVar_row w g ty ty cs (0, 0) ds hc h1 (by cases ds <;> first | rfl | cases h2) (by rw [hn]; exact h3)
  simp [results, h, hp', hv', hu', asAddr, hl]
theorem sc_cells {w : World} {g m o : Nat} {t : TypeId} {xs M : List Nat} (h : At w g t (scR m xs).toArray) (hM : ∀ j y, M[j]? = some y → xs[o + j]? = some y) : ∀ j v, (UC M)[j]? = some v → w.cell? ((⟨g, 1 + o, none⟩ : Addr).add j) = some v := fun j v hv => by
  have e : (UC M)[j]? = (M[j]?).map fun n : Nat => Value.int .u32 (n : Int) := by simp [UC]
  rw [e, Option.map_eq_some_iff] at hv
  obtain ⟨y, hy, rfl⟩ := hv
  have hx := hM j y hy
  rw [add_plain, h.cell, List.getElem?_toArray, show 1 + o + j = (o + j) + 1 from by omega, scR, List.getElem?_cons_succ]
  simp [UC, hx]
theorem scR_set {w : World} {g m i x : Nat} {t : TypeId} {xs : List Nat} (h : At w g t (scR m xs).toArray) : At (w.setCell ⟨g, 1 + i, none⟩ (.int .u32 (x : Int))) g t (scR m (xs.set i x)).toArray := by
  have h1 := h.set (1 + i) (.int .u32 (x : Int))
  have e : (scR m xs).toArray.setIfInBounds (1 + i) (.int .u32 (x : Int)) = (scR m (xs.set i x)).toArray := by
    rw [List.setIfInBounds_toArray, show 1 + i = i + 1 from by omega]
    congr 1
    unfold scR
    rw [List.set_cons_succ]
    congr 1
    unfold UC
    rw [List.map_set]
  rw [← e]
  exact h1
/-- The cells of a cut more. -/
theorem cut_a {l : List Nat} {i : Nat} (hi : i ≤ l.length) : splice zero7 0 ((pad7 l).take i) = l.take i ++ List.replicate (7 - i) 0 := by
  have e : zero7 = List.replicate 7 0 := rfl
  have ht : (pad7 l).take i = l.take i := by unfold pad7; exact List.take_append_of_le_length hi
  have hlen : (l.take i).length = i := by rw [List.length_take]; omega
  unfold splice
  rw [ht, e, List.take_zero, List.nil_append, Nat.zero_add, List.drop_replicate, hlen]
theorem cut_b {l : List Nat} {i x : Nat} (hi : i ≤ l.length) (h6 : l.length ≤ 6) : (l.take i ++ List.replicate (7 - i) 0).set i x = l.take i ++ ([x] ++ List.replicate (6 - i) 0) := by
  have hlen : (l.take i).length = i := by rw [List.length_take]; omega
  rw [List.set_append_right _ _ (by omega), hlen, Nat.sub_self]
  congr 1
  rw [show 7 - i = (6 - i) + 1 from by omega, List.replicate_succ, List.set_cons_zero]
  rfl
theorem cut_m {l : List Nat} {i : Nat} (hi : i ≤ l.length) (h6 : l.length ≤ 6) : ((pad7 l).drop i).take (6 - i) = l.drop i ++ List.replicate (6 - l.length) 0 := by
  unfold pad7
  rw [List.drop_append_of_le_length hi, List.take_append, List.take_replicate, List.length_drop, List.take_of_length_le (by rw [List.length_drop]; omega)]
  congr 2
  omega
theorem cut_c {l : List Nat} {i x : Nat} (hi : i ≤ l.length) (h6 : l.length ≤ 6) (hx : atN l x = i) : splice (l.take i ++ ([x] ++ List.replicate (6 - i) 0)) (i + 1) (((pad7 l).drop i).take (6 - i)) = pad7 (insN l x) := by
  have hlen : (l.take i).length = i := by rw [List.length_take]; omega
  have hl2 : (l.drop i ++ List.replicate (6 - l.length) 0).length = 6 - i := by rw [List.length_append, List.length_drop, List.length_replicate]; omega
  have e1 : (l.take i ++ ([x] ++ List.replicate (6 - i) 0)).take (i + 1) = l.take i ++ [x] := by
    rw [← List.append_assoc, List.take_append_of_le_length (by rw [List.length_append, hlen]; exact Nat.le_refl _), List.take_of_length_le (by rw [List.length_append, hlen]; exact Nat.le_refl _)]
  have e2 : (l.take i ++ ([x] ++ List.replicate (6 - i) 0)).drop (i + 1 + (6 - i)) = [] := List.drop_eq_nil_of_le (by rw [List.length_append, List.length_append, hlen, List.length_replicate]; simp; omega)
  unfold splice
  rw [cut_m hi h6, hl2, e1, e2]
  unfold pad7
  rw [ins_len]
  unfold insN
  rw [hx, List.append_nil, List.append_assoc, show 7 - (l.length + 1) = 6 - l.length from by omega]
  simp only [List.append_assoc]
/-- What a cut hands back. -/
def cutV (l : List Nat) (x : Nat) : Value := .tuple #[.agg (scA (cutN l x).1), .int .i64 ((cutN l x).2.1 : Nat), .int .i64 ((cutN l x).2.2 : Nat)]
theorem take_sub {xs : List Nat} {i : Nat} : ∀ j y, (xs.take i)[j]? = some y → xs[0 + j]? = some y := fun j y h => by
  rw [Nat.zero_add]
  by_cases hj : j < i
  · rwa [List.getElem?_take_of_lt hj] at h
  · rw [List.getElem?_eq_none (by rw [List.length_take]; omega)] at h
    cases h
theorem drop_sub {xs : List Nat} {i k : Nat} : ∀ j y, ((xs.drop i).take k)[j]? = some y → xs[i + j]? = some y := fun j y h => by
  have := take_sub j y h
  rwa [Nat.zero_add, List.getElem?_drop] at this
set_option maxHeartbeats 12800000 in
theorem sCut_any (l : List Nat) (hg : Gd l) (x : Nat) (w : World) : Calls Try.prog 11 #[.agg (scA l), .int .u32 (x : Int)] w (RetB w (cutV l x)) := by
  obtain ⟨n, hn⟩ : ∃ n, l.length = n := ⟨_, rfl⟩
  have HG := Lib.hid hg
  have HN := Lib.hid hn
  have hl7 : n ≤ 7 := by have := hg.len; omega
  have HS8 : Hid ((scA l).size = 8) := scA_size hg.len
  have HLI := Lib.hid (least_is hg.asc x)
  have hile := at_le l x
  have HAT := Lib.hid (fun W => sAt_any l hg x W)
  have HEN := Lib.hid (fun W => sEnds_any l hg (atN l x) hile W)
  obtain ⟨i, hi⟩ : ∃ i, atN l x = i := ⟨_, rfl⟩
  rw [hi] at HLI HAT HEN hile
  obtain ⟨a, ha⟩ : ∃ a, leastN l i = a := ⟨_, rfl⟩
  obtain ⟨b, hb⟩ : ∃ b, mostN l i = b := ⟨_, rfl⟩
  rw [ha, hb] at HEN
  have ha2 : lastK l i = a := ha
  rw [ha2] at HLI
  rw [hn] at hile
  have HI := Lib.hid hi
  have hz0 : (#[.int .i64 0, .int .u32 0, .int .u32 0, .int .u32 0, .int .u32 0, .int .u32 0, .int .u32 0, .int .u32 0] : Array Value) = zS := rfl
  have HB : Hid (Below w.heap.size w ((w.alloc (.cells (scA l) 27)).alloc (.cells zS 27))) := ((Below.refl _ w).alloc (Nat.le_refl _) _).alloc (by simp) _
  have HA2 : Hid (At ((w.alloc (.cells (scA l) 27)).alloc (.cells zS 27)) w.heap.size 27 (scA l)) := (At.new w _ _).alloc _
  have HA4 : Hid (At ((w.alloc (.cells (scA l) 27)).alloc (.cells zS 27)) (w.heap.size + 1) 27 zS) := by
    have := At.new (w.alloc (.cells (scA l) 27)) 27 zS
    rwa [World.size_alloc] at this
  clear hg hn hi ha hb ha2
  go_enter Try.func11, Try.ntmps11
  go_upto_region 1 with fail
  generalize (w.alloc (.cells (scA l) 27)).alloc (.cells zS 27) = w1 at HB HA2 HA4 ⊢
  go_upto_region 3 with (first
    | (refine wpList_load_at 27 11 (.tmp 2) rfl rfl rfl w.heap.size rfl (scA l) 8 strS HS8.out HA2.out ?_)
    | (go_at_call 15; refine (HAT.out _).mono ?_; rintro e z ⟨rfl, hbz⟩; have HBz := Lib.hid (HB.out.trans (hbz.mono HB.out.size)); have HA2z := Lib.hid (HA2.out.under hbz HA2.out.lt); have HA4z := Lib.hid (HA4.out.under hbz HA4.out.lt); clear hbz HB HA2 HA4)
    | (refine wpList_load_at 27 15 (.tmp 2) rfl rfl rfl w.heap.size rfl (scA l) 8 strS HS8.out HA2z.out ?_)
    | (go_at_call 17; refine (HEN.out _).mono ?_; rintro e y ⟨rfl, hby⟩; have HB := Lib.hid (HBz.out.trans (hby.mono HBz.out.size)); have HA2 := Lib.hid (HA2z.out.under hby HA2z.out.lt); have HA4 := Lib.hid (HA4z.out.under hby HA4z.out.lt); clear hby HBz HA2z HA4z))
  clear HAT HEN
  have c0 := HA2.out.scn
  rw [HN.out] at c0
  by_cases hax : a = x
  · have e0 : ((a : Int) == (x : Int)) = true := by rw [hax]; exact beq_self_eq_true _
    have HC : Hid (cutN l x = (l, 0, 8)) := by show _ = _; unfold cutN; rw [if_pos (HLI.out.1 hax)]
    clear hax
    go_wp2_with (first
      | (refine wpList_load_at 27 23 (.tmp 2) rfl rfl rfl w.heap.size rfl (scA l) 8 strS HS8.out HA2.out ?_)
      | (refine wpList_store_at 27 (.tmp 4) (.tmp 23) rfl rfl rfl (w.heap.size + 1) rfl (scA l) zS 8 rfl strS HS8.out zS_size (scA_one _) HA4.out ?_; intro w9 h9 g9; have H9 := Lib.hid h9; have HB9 := Lib.hid (HB.out.grown g9 HB.out.size (fun j e => by injection e with e; omega)); clear h9 g9))
    exact bodyPost_ret (results_at3 (g := w.heap.size + 1) rfl H9.out strS HS8.out rfl rfl rfl) rfl ⟨by unfold cutV; rw [HC.out]; rfl, HB9.out⟩
  · have e0 : ((a : Int) == (x : Int)) = false := by
      have : (a : Int) ≠ (x : Int) := by omega
      simpa using this
    have HNX := Lib.hid (fun h => hax (HLI.out.2 h))
    clear hax
    by_cases h7 : n = 7
    · have e7 : ((n : Int) == 7) = true := by rw [h7]; rfl
      have HC : Hid (cutN l x = (l, 0, 6)) := by show _ = _; unfold cutN; rw [if_neg HNX.out, if_pos (by rw [HN.out]; omega)]
      clear h7
      go_wp2_with (first
        | (refine wpList_load_at 27 27 (.tmp 2) rfl rfl rfl w.heap.size rfl (scA l) 8 strS HS8.out HA2.out ?_)
        | (refine wpList_store_at 27 (.tmp 4) (.tmp 27) rfl rfl rfl (w.heap.size + 1) rfl (scA l) zS 8 rfl strS HS8.out zS_size (scA_one _) HA4.out ?_; intro w9 h9 g9; have H9 := Lib.hid h9; have HB9 := Lib.hid (HB.out.grown g9 HB.out.size (fun j e => by injection e with e; omega)); clear h9 g9))
      exact bodyPost_ret (results_at3 (g := w.heap.size + 1) rfl H9.out strS HS8.out rfl rfl rfl) rfl ⟨by unfold cutV; rw [HC.out]; rfl, HB9.out⟩
    · have e7 : ((n : Int) == 7) = false := by
        have : (n : Int) ≠ 7 := by omega
        simpa using this
      have h6 : n ≤ 6 := by omega
      have HC : Hid (cutN l x = (insN l x, i, 0)) := by show _ = _; unfold cutN; rw [if_neg HNX.out, if_neg (by rw [HN.out]; omega), HI.out]
      clear h7
      obtain ⟨n1, hn1⟩ : ∃ n1, n + 1 = n1 := ⟨_, rfl⟩
      have en1 : (n : Int) + 1 = (n1 : Int) := by omega
      have wn1 := wrap_nat (k := n1) (by omega)
      have HN1 := Lib.hid hn1
      clear hn1
      go_upto_region 8 with (refine wpList_store_new 27 (.tmp 10) (.tmp 31) rfl rfl rfl y.heap.size y rfl rfl (scR n1 zero7).toArray zS 8 rfl strS rfl zS_size (all_oneCell_toArray (scR_one _ _)) rfl ?_)
      clear hz0
      have HB3 : Hid (Below w.heap.size w (y.alloc (.cells (scR n1 zero7).toArray 27))) := HB.out.alloc HB.out.size _
      have HA23 : Hid (At (y.alloc (.cells (scR n1 zero7).toArray 27)) w.heap.size 27 (scA l)) := HA2.out.alloc _
      have HA43 : Hid (At (y.alloc (.cells (scR n1 zero7).toArray 27)) (w.heap.size + 1) 27 zS) := HA4.out.alloc _
      have HA10 : Hid (At (y.alloc (.cells (scR n1 zero7).toArray 27)) y.heap.size 27 (scR n1 zero7).toArray) := At.new y _ _
      have HLT : Hid (w.heap.size + 1 < y.heap.size) := HA4.out.lt
      clear HB HA2 HA4
      generalize y.alloc (.cells (scR n1 zero7).toArray 27) = w3 at HB3 HA23 HA43 HA10 ⊢
      generalize y.heap.size = g at HA10 HLT ⊢
      dsimp only [Act.put]
      have rh1 := fun W => run_arr_head g 1 i (by omega) W
      have rh2 := fun W => run_arr_head w.heap.size 1 i (by omega) W
      have HX1 : Hid (At w3 w.heap.size 27 (scR n (pad7 l)).toArray) := by have := HA23.out; rw [scA, HN.out] at this; exact this
      have hi6 : i ≤ 6 := by omega
      have HPL : Hid ((pad7 l).length = 7) := pad7_len (by rw [HN.out]; omega)
      have HM1 : Hid (((pad7 l).take i).length = i) := by show _ = _; rw [List.length_take, HPL.out]; omega
      have HMM : Hid (((pad7 l).take i).length = Nat.min i i) := by show _ = _; rw [HM1.out]; exact (Nat.min_self i).symm
      have HK1 : Hid (0 + ((pad7 l).take i).length ≤ 7) := by show _ ≤ _; rw [HM1.out]; omega
      have HLN : Hid (i ≤ l.length) := by show _ ≤ _; rw [HN.out]; exact hile
      have HL6 : Hid (l.length ≤ 6) := by show _ ≤ _; rw [HN.out]; exact h6
      refine wp_region_held_drew (S := fun _ => True) (by kernel_rfl) trivial (fun hS => ?_)
      refine tk 0 hS ?_
      refine tk 1 hS ?_
      refine tk 2 hS ?_
      refine tk 3 hS ?_
      refine tk 4 hS ?_
      refine tk 5 hS ?_
      refine wpAnyH_ready (rs := [6]) (by kernel_rfl) (by simp) ?_
      refine AllReadyH.cons rfl (fun K hK => ?_) AllReadyH.nil
      rw [if_pos (by rfl)]
      refine wp_copyS 38 (.tmp 34) (.tmp 37) rfl rfl g n1 0 i 7 i 7 zero7 ((pad7 l).take i) ⟨g, 1, none⟩ (some ⟨w.heap.size, 1, none⟩) rfl rfl rfl HA10.out HMM.out HK1.out (fun _ => rfl) (fun _ => ⟨_, rfl, sc_cells (o := 0) HX1.out take_sub⟩) ?_
      intro w4 h4 g4
      have HB4 := Lib.hid ((show Below w.heap.size w w3.drew from HB3.out.drew).grown g4 HB3.out.size (fun j e => by injection e with e; have := HLT.out; omega))
      rw [cut_a HLN.out] at h4
      have H4 := Lib.hid h4
      have HX4 := Lib.hid (At.grown (w := w3.drew) HX1.out g4 (fun e => by injection e with e; have := HLT.out; omega))
      have HA44 := Lib.hid (At.grown (w := w3.drew) HA43.out g4 (fun e => by injection e with e; have := HLT.out; omega))
      clear h4 g4
      refine hK.out _ _ (trivial) (fun hT => ?_)
      clear hK hS
      have hS := hT
      clear hT
      refine wpAnyH_done (by kernel_rfl) ?_ _
      clear hS
      clear HB3 HA23 HA43 HA10 HX1 HM1 HMM HK1
      dsimp only [Act.put]
      obtain ⟨v9, hv9⟩ : ∃ v9, w4.cell? ⟨g, 1 + i, none⟩ = some v9 := by
        rw [H4.out.cell, List.getElem?_toArray, List.getElem?_eq_getElem (by rw [scR_len, List.length_append, List.length_take, List.length_replicate]; have := HLN.out; omega)]
        exact ⟨_, rfl⟩
      have hf9 : w4.frozen? ⟨g, 1 + i, none⟩ = false := H4.out.frozen _
      go_upto_region 10 with fail
      have H5 : Hid (At (w4.setCell ⟨g, 1 + i, none⟩ (.int .u32 (x : Int))) g 27 (scR n1 (l.take i ++ ([x] ++ List.replicate (6 - i) 0))).toArray) := by
        have := scR_set (i := i) (x := x) H4.out
        rw [cut_b HLN.out HL6.out] at this
        exact this
      have HX5 : Hid (At (w4.setCell ⟨g, 1 + i, none⟩ (.int .u32 (x : Int))) w.heap.size 27 (scR n (pad7 l)).toArray) := HX4.out.other (by show w.heap.size ≠ g; have := HLT.out; omega) _
      have HA5 : Hid (At (w4.setCell ⟨g, 1 + i, none⟩ (.int .u32 (x : Int))) (w.heap.size + 1) 27 zS) := HA44.out.other (by show w.heap.size + 1 ≠ g; have := HLT.out; omega) _
      have HB5 : Hid (Below w.heap.size w (w4.setCell ⟨g, 1 + i, none⟩ (.int .u32 (x : Int)))) := HB4.out.setCell (by show w.heap.size ≤ g; have := HLT.out; omega) _
      clear hv9 hf9 H4 HX4 HA44 HB4 rh1 rh2
      generalize w4.setCell ⟨g, 1 + i, none⟩ (.int .u32 (x : Int)) = w5 at H5 HX5 HA5 HB5 ⊢
      obtain ⟨i1, hi1⟩ : ∃ i1, i + 1 = i1 := ⟨_, rfl⟩
      have ei1 : (i : Int) + 1 = (i1 : Int) := by omega
      have wi1 := wrap_nat (k := i1) (by omega)
      have hi17 : i1 ≤ 7 := by omega
      have rt1 := fun W => run_arr_tail g i1 hi17 W
      have rt2 := fun W => run_arr_tail w.heap.size i (by omega) W
      have HT2 : Hid (tl7 w.heap.size i = ⟨w.heap.size, 1 + i, none⟩) := by show _ = _; unfold tl7; rw [if_neg (by omega)]
      have HT1 : Hid (i < 6 → tl7 g i1 = ⟨g, 1 + i1, none⟩) := fun h => by unfold tl7; rw [if_neg (by omega)]
      have HM2 : Hid ((((pad7 l).drop i).take (6 - i)).length = 6 - i) := by show _ = _; rw [List.length_take, List.length_drop, HPL.out]; omega
      have HMN : Hid ((((pad7 l).drop i).take (6 - i)).length = Nat.min (7 - i) (7 - i1)) := by show _ = _; rw [HM2.out]; exact (show 6 - i = min (7 - i) (7 - i1) by omega)
      have HK2 : Hid (i1 + (((pad7 l).drop i).take (6 - i)).length ≤ 7) := by show _ ≤ _; rw [HM2.out]; omega
      have HLX : Hid ((l.take i ++ ([x] ++ List.replicate (6 - i) 0)).length = 7) := by show _ = _; rw [List.length_append, List.length_append, List.length_take, List.length_replicate]; have := HLN.out; simp; omega
      have HFIN : Hid (splice (l.take i ++ ([x] ++ List.replicate (6 - i) 0)) i1 (((pad7 l).drop i).take (6 - i)) = pad7 (insN l x)) := by show _ = _; rw [← hi1]; exact cut_c HLN.out HL6.out HI.out
      have HIN1 : Hid ((insN l x).length = n1) := by show _ = _; rw [ins_len, HN.out]; exact HN1.out
      clear hi1
      refine wp_region_held_drew (S := fun _ => True) (by kernel_rfl) trivial (fun hS => ?_)
      refine tk 0 hS ?_
      refine tk 1 hS ?_
      refine tk 2 hS ?_
      refine tk 3 hS ?_
      refine tk 4 hS ?_
      refine tk 5 hS ?_
      refine tk 6 hS ?_
      refine wpAnyH_ready (rs := [7]) (by kernel_rfl) (by simp) ?_
      refine AllReadyH.cons rfl (fun K hK => ?_) AllReadyH.nil
      rw [if_pos (by rfl)]
      refine wp_copyS 50 (.tmp 46) (.tmp 49) rfl rfl g n1 i1 (7 - i1) (7 - i1) (7 - i) (7 - i) (l.take i ++ ([x] ++ List.replicate (6 - i) 0)) (((pad7 l).drop i).take (6 - i)) (tl7 g i1) (some (tl7 w.heap.size i)) rfl rfl HLX.out H5.out HMN.out HK2.out (fun h => HT1.out (by rw [HM2.out] at h; omega)) (fun _ => ⟨_, rfl, by rw [HT2.out]; exact sc_cells HX5.out drop_sub⟩) ?_
      intro w6 h6 g6
      have HB6 := Lib.hid ((show Below w.heap.size w w5.drew from HB5.out.drew).grown g6 HB5.out.size (fun j e => by injection e with e; have := HLT.out; omega))
      rw [HFIN.out] at h6
      have H6 : Hid (At w6 g 27 (scA (insN l x))) := by rw [scA, HIN1.out]; exact h6
      have HA6 := Lib.hid (At.grown (w := w5.drew) HA5.out g6 (fun e => by injection e with e; have := HLT.out; omega))
      clear h6 g6
      refine hK.out _ _ (trivial) (fun hT => ?_)
      clear hK hS
      have hS := hT
      clear hT
      refine wpAnyH_done (by kernel_rfl) ?_ _
      clear hS
      have HS9 : Hid ((scA (insN l x)).size = 8) := scA_size (by rw [HIN1.out]; have := HN1.out; omega)
      clear HX5 HA5 H5 HB5 rt1 rt2
      go_wp2_with (first
        | (refine wpList_load_at 27 51 (.tmp 10) rfl rfl rfl g rfl (scA (insN l x)) 8 strS HS9.out H6.out ?_)
        | (refine wpList_store_at 27 (.tmp 4) (.tmp 51) rfl rfl rfl (w.heap.size + 1) rfl (scA (insN l x)) zS 8 rfl strS HS9.out zS_size (scA_one _) HA6.out ?_; intro w9 h9 g9; have H9 := Lib.hid h9; have HB9 := Lib.hid (HB6.out.grown g9 HB6.out.size (fun j e => by injection e with e; omega)); clear h9 g9))
      exact bodyPost_ret (results_at3 (g := w.heap.size + 1) rfl H9.out strS HS9.out rfl rfl rfl) rfl ⟨by unfold cutV; rw [HC.out]; rfl, HB9.out⟩
end Go.Proofs.Ytjbohnnknfcjeaa
