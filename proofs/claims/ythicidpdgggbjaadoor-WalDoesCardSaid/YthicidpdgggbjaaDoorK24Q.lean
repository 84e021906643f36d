/-
  The walk of the law's example: it comes out true and writes nothing that was there.
  Conditions: none.
-/
import Derived.Test.YthicidpdgggbjaaDoorK23Q
import Derived.Deep.Cut
import Derived.Deep.CutRange
namespace Go.Proofs.YthicidpdgggbjaaDoor
open Go.RowKit
set_option maxRecDepth 20000

theorem wk_cut (k : Int) (p n q : Nat) : (cutS (enc (wkE k p n)) q).length = 2 := by
  rw [cutS_length]
  exact wk_wid k p n
theorem wkL_len : (lay wkL 0).length = 4 := by rw [lay_length, wkL_pos]
theorem two_of_map {rs : List Er} (h : rs.map (·.e) = wkL) : ∃ ra rb : Er, rs = [ra, rb] ∧ ra.e = wkE 1 0 1 ∧ rb.e = wkE 6 1 3 := by
  match rs, h with
  | [ra, rb], h =>
    simp only [List.map_cons, List.map_nil, wkL, List.cons.injEq, and_true] at h
    exact ⟨ra, rb, rfl, h.1, h.2⟩
  | [], h => cases h
  | [_], h => simp [wkL] at h
  | _ :: _ :: _ :: _, h => simp [wkL] at h
/-- The two logs of the example. -/
structure Wk2 (w : World) (gd gs g g2 : Nat) (S S2 : List Sect) (nw : Int) (rs : List Er) (ra rb : Er) (ws : List Sect) (vE vW vF : Value) (z : World) : Prop where
  d : DS w gd gs g2 1 10 g2 S2 nw [ra, rb] 4 [] vF (.slice none 0 0) z
  l : LogAt (pl_own gd gs) g z g gd 1 10 rs 4 ws vE vW
theorem Wk2.call {w : World} {gd gs g g2 : Nat} {S S2 : List Sect} {nw : Int} {rs : List Er} {ra rb : Er} {ws : List Sect} {vE vW vF : Value} {z z' : World} (h : Wk2 w gd gs g g2 S S2 nw rs ra rb ws vE vW vF z) (hb : Below z.heap.size z z') : Wk2 w gd gs g g2 S S2 nw rs ra rb ws vE vW vF z' :=
  ⟨h.d.call hb, h.l.below hb⟩

theorem made60 : madeCells (Value.int .u8 0).cells (Int.toNat 60 * 1) = (BC (List.replicate 60 0)).toArray := by kernel_rfl
theorem make60 (z : World) : (Instr.makeSlice 59 (.int .i64 60) (.int .i64 60)).run Tryd.prog z = .ok (.slice (some ⟨z.heap.size, 0, none⟩) 60 60) (z.alloc (.cells (BC (List.replicate 60 0)).toArray 5)) := by
  obtain ⟨i0, hi0, hz0, hz1, hz2⟩ := info_parts u8_info
  have := run_make (P := Tryd.prog) z 59 5 i0 _ Tryd.underlying59 hi0 hz0 .i64 .i64 60 60 (by omega) (by omega) (by rw [hz2]; omega) (by omega)
  rw [this, hz1, made60]
  rfl
theorem held_none : Held [] [] (fun _ => true) := ⟨fun k hk => absurd hk (Nat.not_lt_zero _), fun k hk => absurd hk (Nat.not_lt_zero _), fun k _ => .inl (by simp)⟩
theorem wkC_8 : (flat wkC)[8]? = some (.int .u8 1) := by kernel_rfl
theorem wkC_72 : (flat wkC)[72]? = some (.int .u8 2) := by kernel_rfl
theorem wkC_73 : (flat wkC)[73]? = some (.int .u8 6) := by kernel_rfl
theorem wkC_71 : (flat wkC)[71]? = some (.int .u8 5) := by kernel_rfl
theorem own_row2 {w : World} {base n : Nat} {A : Option Addr} {c : Nat} {t : TypeId} {size : Nat} {xs : List Value} (h : w.ownsRow base t size (.slice A n c) n xs) (hn : 0 < n) : ∃ g, A = some ⟨g, 0, none⟩ ∧ g < w.heap.size ∧ ∀ k u, xs[k]? = some u → w.cell? ⟨g, k, none⟩ = some u := by
  have hc := @World.ownsRow.cells w base t size (.slice A n c) n xs h
  rcases h.2 with ⟨_, h0⟩ | ⟨g, cap, cur, hv, hb, hg, hnc, _⟩
  · omega
  · injection hv with hA _ h3
    subst hA h3
    refine ⟨g, rfl, (Array.getElem?_eq_some_iff.1 hg).1, fun k u hu => ?_⟩
    have := hc rfl k u hu
    rwa [add_plain, Nat.zero_add] at this
theorem zE_one9 : zE.all (·.oneCell') = true := by simp [zE, Value.oneCell']
theorem wk_ris {ra rb : Er} (ha : ra.e = wkE 1 0 1) (hb : rb.e = wkE 6 1 3) : Ris [ra, rb] := by
  intro a b hab hb2
  have h2 : b < 2 := hb2
  obtain rfl : a = 0 := by omega
  obtain rfl : b = 1 := by omega
  show ra.e.lsn < rb.e.lsn
  rw [ha, hb]
  decide
theorem wk_small {X : Nat → Prop} {z : World} {ra rb : Er} (h : ∀ r ∈ [ra, rb], ELz X z r) (ha : ra.e = wkE 1 0 1) (hb : rb.e = wkE 6 1 3) : ∀ r ∈ [ra, rb], r.np ≤ 1000 ∧ r.na ≤ 1000 := by
  intro r hr
  have h1 := (h r hr).lenP
  have h2 := (h r hr).lenA
  have h3 : r.e.pages = [] ∧ r.e.act = [] := by
    simp only [List.mem_cons, List.not_mem_nil, or_false] at hr
    rcases hr with rfl | rfl
    · rw [ha]; exact ⟨rfl, rfl⟩
    · rw [hb]; exact ⟨rfl, rfl⟩
  rw [h3.1] at h1
  rw [h3.2] at h2
  simp only [List.length_nil] at h1 h2
  omega
theorem wk_no2 {ra rb : Er} (ha : ra.e = wkE 1 0 1) (hb : rb.e = wkE 6 1 3) : ∀ (k : Nat) (hk : k < [ra, rb].length), [ra, rb][k].e.lsn ≠ 2 := by
  intro k hk
  have : k < 2 := hk
  have h2 : k = 0 ∨ k = 1 := by omega
  rcases h2 with rfl | rfl
  · show ra.e.lsn ≠ 2
    rw [ha]; decide
  · show rb.e.lsn ≠ 2
    rw [hb]; decide

set_option maxHeartbeats 6400000 in
theorem works_any (w : World) : Calls Tryd.prog 7 #[] w (RetQ w true) := by
  go_enter Tryd.func7, Tryd.ntmps7
  go_wp2_with fail
  refine (new_ok (fun _ => False) 12 w (by omega) (by omega)).mono ?_
  rintro e z1 ⟨gd, gs, rfl, hg1, hg2, hp, hb⟩
  have HP := Lib.hid hp
  have HD := Lib.hid (DS.new (base := 1) (size := 10) (n := 0) hp hb hg1 hg2 rfl)
  clear hp hb hg1 hg2
  go_wp2_with fail
  refine (wnew_ok (fun _ => False) gd gs _ 0 (-1) [] false z1 1 10 HP.out (by simp) (by omega) (by simp)).mono ?_
  rintro e z2 ⟨rfl, rfl⟩
  clear HP
  generalize z1.alloc (.cells #[.pointer (some ⟨gd, 0, none⟩), .int .i64 ((1 : Nat) : Int), .int .i64 ((10 : Nat) : Int), .slice none 0 0, .int .i64 0, .slice none 0 0] 82) = z2 at HD ⊢
  generalize z1.heap.size = g at HD ⊢
  go_wp2_with fail
  refine (wnew_bad (fun _ => False) gd gs _ 0 (-1) [] false z2 5 8 HD.out.plat (by simp) (by decide) (by decide) (by simp)).mono ?_
  rintro e z3 ⟨rfl, rfl⟩
  go_wp2_with (refine wpList_build9 42 rfl rfl 42 _ rfl #[(1, .int .i64 1), (2, .int .u64 4)] (by simp only [List.map_toArray, List.map_cons, List.map_nil]; rfl) _ wk_built1 ?_)
  refine (ds_append HD.out (by omega) (by simp) (by simp) 0 rfl (by omega) (by omega) (wkR 1 0) (wk_els _ _ _ _) (by decide) (by decide) (wk_gd 1 0 1 (by decide) (by decide) (by decide) (by decide)) (by show wid (wkE 1 0 1) ≤ _; rw [wk_wid]; decide)).mono ?_
  rintro e z3 ⟨r1, vE1, vW1, hr1, hn1, hm1, rfl, hd, _, _⟩
  have HD1 : Hid (DS w gd gs g 1 10 g (List.replicate 12 zsec) 0 [r1] 0 (cutS (enc (wkE 1 0 1)) 0) vE1 vW1 z3) := hd
  have HR1 := Lib.hid hr1
  clear hd HD hr1 hn1 hm1
  go_wp2_with (refine wpList_build9 49 rfl rfl 42 _ rfl #[(1, .int .i64 6), (2, .int .u64 4), (3, .int .u64 1)] (by simp only [List.map_toArray, List.map_cons, List.map_nil]; rfl) _ wk_built2 ?_)
  refine (ds_append HD1.out (by omega) (by rw [wk_cut]; omega) (by simp) 2 (by rw [wk_cut]) (by omega) (by omega) (wkR 6 1) (wk_els _ _ _ _) (by decide) (by decide) (wk_gd 6 1 3 (by decide) (by decide) (by decide) (by decide)) (by show wid (wkE 6 1 3) ≤ _; rw [wk_wid]; decide)).mono ?_
  rintro e z4 ⟨r2, vE2, vW2, hr2, hn2, hm2, rfl, hd, _, _⟩
  have HD2 : Hid (DS w gd gs g 1 10 g (List.replicate 12 zsec) 0 [r1, r2] 0 (lay wkL 0) vE2 vW2 z4) := by
    have h2 : DS w gd gs g 1 10 g (List.replicate 12 zsec) 0 [r1, r2] 0 (cutS (enc (wkE 1 0 1)) 0 ++ cutS (enc (wkE 6 1 3)) 2) vE2 vW2 z4 := hd
    rw [wkL_lay] at h2
    exact h2
  have HR2 := Lib.hid hr2
  clear hd HD1 hr2 hn2 hm2
  go_wp2_with fail
  refine (lforced_any (pl_own gd gs) g z4 g gd 1 10 _ 0 _ vE2 vW2 HD2.out.log (by omega) 1).mono ?_
  rintro e z5 ⟨rfl, rfl⟩
  rw [show decide (1 ≤ 0) = false from rfl]
  go_wp2_with fail
  refine (ds_force HD2.out (by omega) (by rw [wkL_len]; omega) (by rw [wkL_len]; omega) (by simp) (by omega) (by omega) 1 rfl 4 (by rw [wkL_len]) (by rw [wkL_len]; simp)).mono ?_
  rintro e z5 ⟨vW3, rfl, hd, _, _⟩
  have HS := Lib.hid wkL_disk
  have HSL : Hid ((upd (List.replicate 12 zsec) 1 (lay wkL 0) (fun _ => true)).length = 12) := by show _ = _; rw [upd_length]; simp
  have HD3 := Lib.hid hd
  clear hd HD2
  generalize upd (List.replicate 12 zsec) 1 (lay wkL 0) (fun _ => true) = S at HS HSL HD3
  go_wp2_with (refine wpList_build9 59 rfl rfl 42 _ rfl #[(1, .int .i64 8), (2, .int .u64 4)] (by simp only [List.map_toArray, List.map_cons, List.map_nil]; rfl) _ wk_built3 ?_)
  refine (ds_append HD3.out (by omega) (by simp) (by simp) 4 rfl (by omega) (by omega) (wkR 8 0) (wk_els _ _ _ _) (by decide) (by decide) (wk_gd 8 0 5 (by decide) (by decide) (by decide) (by decide)) (by show wid (wkE 8 0 5) ≤ _; rw [wk_wid]; decide)).mono ?_
  rintro e z6 ⟨r3, vE4, vW4, hr3, hn3, hm3, rfl, hd, _, _⟩
  have HD4 : Hid (DS w gd gs g 1 10 g S (0 + 1) [r1, r2, r3] 4 (cutS (enc (wkE 8 0 5)) 4) vE4 vW4 z6) := hd
  clear hd HD3 hr3 hn3 hm3
  go_wp2_with fail
  refine (ds_open HD4.out.plat HD4.out.low HD4.out.hw wkL (kfW 4 []) (by rw [HSL.out]; omega) (by omega) (by rw [HSL.out]; omega) (by omega) (by omega) (by omega) HS.out.held wkL_num).mono ?_
  rintro e z7 ⟨m, q, vF, rs, nw', hm, hq, rfl, hrs, hnw1, hnw2, hd, hmd⟩
  obtain rfl : m = 2 := hm.all_of wkL_pos.symm
  rw [show wkL.take 2 = wkL from rfl] at hq hrs
  obtain rfl : q = 4 := by rw [hq, wkL_pos]
  obtain ⟨ra, rb, rfl, hra, hrb⟩ := two_of_map hrs
  have HW : Hid (Wk2 w gd gs g z6.heap.size S _ nw' [r1, r2, r3] ra rb (cutS (enc (wkE 8 0 5)) 4) vE4 vW4 vF z7) := ⟨hd, HD4.out.log.kept hmd HD4.out.apart (fun _ _ hk => hk)⟩
  have HRA := Lib.hid hra
  have HRB := Lib.hid hrb
  clear hd hmd HD4 hm hq hrs hra hrb HS HSL hnw1 hnw2 HR1 HR2
  generalize upd S (1 + 4) (List.replicate (10 - 4) zsec) (fun _ => true) = S2 at HW
  generalize z6.heap.size = g2 at HW ⊢
  go_wp2_with fail
  refine (find_yes (pl_own gd gs) g2 z7 g2 gd 1 10 [ra, rb] 4 [] vF _ HW.out.d.log (by simp) (wk_small HW.out.d.log.els HRA.out HRB.out) (wk_ris HRA.out HRB.out) 1 (by simp) 3 (by show rb.e.lsn = 3; rw [HRB.out]; rfl)).mono ?_
  rintro e z8 ⟨r5, hr5, hnp, hna, rfl, hel, hb8⟩
  have HW8 := Lib.hid ((HW.out.call hb8).call ((Below.refl z8.heap.size z8).alloc (Nat.le_refl _) (.cells (erA r5) 42)))
  have BX5 := Lib.hid (At.new z8 42 (erA r5))
  have HR5 := Lib.hid hr5
  clear hb8 hel hnp hna hr5 HW
  go_wp2_with (refine wpList_store_new 42 (.tmp 15) (.tmp 72) rfl rfl rfl _ z8 rfl rfl (erA r5) zE 13 rfl strE rfl rfl (erA_one _) rfl ?_)
  generalize z8.alloc (.cells (erA r5) 42) = z9 at HW8 BX5 ⊢
  generalize z8.heap.size = b5 at BX5 ⊢
  refine (find_no (pl_own gd gs) g2 z9 g2 gd 1 10 [ra, rb] 4 [] vF _ HW8.out.d.log (by simp) (wk_ris HRA.out HRB.out) 2 (wk_no2 HRA.out HRB.out)).mono ?_
  rintro e z10 ⟨rfl, hb10⟩
  have HW10 := Lib.hid ((HW8.out.call hb10).call ((Below.refl z10.heap.size z10).alloc (Nat.le_refl _) (.cells zE 42)))
  have BX10 := Lib.hid ((BX5.out.under hb10 BX5.out.lt).alloc (.cells zE 42))
  clear hb10 HW8 BX5
  go_wp2_with (refine wpList_store_new 42 (.tmp 17) (.tmp 77) rfl rfl rfl _ z10 rfl rfl zE zE 13 rfl strE rfl rfl zE_one9 rfl ?_)
  generalize z10.alloc (.cells zE 42) = z11 at HW10 BX10 ⊢
  generalize z10.heap.size = b6
  go_wp2_with fail
  rw [make60 z11]
  go_wp2_with fail
  have HW12 := Lib.hid (HW10.out.call ((Below.refl z11.heap.size z11).alloc (Nat.le_refl _) (.cells (BC (List.replicate 60 0)).toArray 5)))
  have BX12 := Lib.hid (BX10.out.alloc (.cells (BC (List.replicate 60 0)).toArray 5))
  have L12 := Lib.hid (lies_new' z11 (BC (List.replicate 60 0)) 5 60 (by rw [BC_length]; simp))
  clear HW10 BX10
  refine (cut_any9 60 60 3 _ (List.replicate 60 0) _ (L12.out.up (by simp)) (by omega) (by omega) (by omega)).mono ?_
  rintro e z13 ⟨AC, cC, rfl, hoC, hb13⟩
  have HOC : Hid (z13.ownsRow z11.heap.size 68 64 (.slice AC wkC.length cC) wkC.length (flat wkC)) := own_base hoC (by simp)
  have HW13 := Lib.hid (HW12.out.call hb13)
  have BX13 := Lib.hid (BX12.out.under hb13 BX12.out.lt)
  have hCl : wkC.length = 2 := by rw [wkC_two]; rfl
  clear HW12 BX12 L12 hoC hb13
  rw [show (cutS (List.replicate 60 0) 3).length = 2 from hCl]
  rw [hCl] at HOC
  go_wp2_with fail
  refine (join_any (fun _ => False) 0 0 none [] [] (fun _ => true) z13 Lz.empty (by omega) held_none trivial).mono ?_
  rintro e z14 ⟨m, v, rsj, hm, rfl, hmap, hoj, _, hb14⟩
  obtain rfl : m = 0 := Nat.le_zero.1 hm.le
  obtain ⟨AJ, cJ, rfl, _, _⟩ := own_slice hoj
  have HW14 := Lib.hid (HW13.out.call hb14)
  have BX14 := Lib.hid (BX13.out.under hb14 BX13.out.lt)
  have HOC2 := Lib.hid (own_under HOC.out hb14 (Nat.le_refl _))
  clear HW13 BX13 HOC hoj hb14 hmap hm
  rw [show ((pos (List.take 0 ([] : List Ent)) : Nat) : Int) = 0 from rfl]
  obtain ⟨gc, rfl, hgc, hcl⟩ := own_row2 HOC2.out (by omega)
  have HC8 := Lib.hid (hcl 8 _ wkC_8)
  have HC72 := Lib.hid (hcl 72 _ wkC_72)
  have HC73 := Lib.hid (hcl 73 _ wkC_73)
  have HC71 := Lib.hid (hcl 71 _ wkC_71)
  have HBX := Lib.hid (BX14.out.cell 1)
  have hb5 := BX14.out.lt
  clear hcl HOC2 BX14
  go_wp2_with fail
  refine (lforced_any (pl_own gd gs) g z14 g gd 1 10 _ 4 _ vE4 vW4 HW14.out.l (by omega) 3).mono ?_
  rintro e z15 ⟨rfl, rfl⟩
  rw [show decide (3 ≤ 4) = true from rfl]
  go_wp2_with fail
  refine (lused_any (pl_own gd gs) g z14 g gd 1 10 _ 4 _ vE4 vW4 HW14.out.l (by omega) (by rw [wk_cut]; omega) 6 (by rw [wk_cut])).mono ?_
  rintro e z15 ⟨rfl, n1, rfl⟩
  have D1 := below_drewN z14 n1
  have HW15 := Lib.hid (HW14.out.call D1)
  go_wp2_with fail
  refine (lleft_any (pl_own gd gs) g _ g gd 1 10 _ 4 _ vE4 vW4 HW15.out.l (by omega) (by rw [wk_cut]; omega) 6 (by rw [wk_cut]) (by omega) (by omega) 4 rfl).mono ?_
  rintro e z16 ⟨rfl, n2, rfl⟩
  have HW16 := Lib.hid (HW15.out.call (below_drewN _ n2))
  go_wp2_with fail
  rw [drewN_add] at HW16
  refine (lnext_any (pl_own gd gs) g _ g gd 1 10 _ 4 _ vE4 vW4 HW16.out.l (by omega) (by rw [wk_cut]; omega) 6 (by rw [wk_cut]) 7 rfl).mono ?_
  rintro e z17 ⟨rfl, n3, rfl⟩
  have HW17 := Lib.hid (HW16.out.call (below_drewN _ n3))
  rw [drewN_add] at HW17
  go_wp2_with fail
  refine (all_any (pl_own gd gs) g2 _ g2 gd 1 10 [ra, rb] 4 [] vF _ HW17.out.d.log (by simp) (wk_small HW17.out.d.log.els HRA.out HRB.out)).mono ?_
  rintro e z18 ⟨AA, cA, rs', _, rfl, hoa⟩
  have hb18 := hoa.low
  have LOW := Lib.hid (HW17.out.d.low.trans (hb18.mono HW17.out.d.low.size))
  have c1 : z18.cell? ⟨gc, 8, none⟩ = some (.int .u8 1) := (hb18.cell (p := ⟨gc, 8, none⟩) hgc).trans HC8.out
  have c2 : z18.cell? ⟨gc, 72, none⟩ = some (.int .u8 2) := (hb18.cell (p := ⟨gc, 72, none⟩) hgc).trans HC72.out
  have c3 : z18.cell? ⟨gc, 73, none⟩ = some (.int .u8 6) := (hb18.cell (p := ⟨gc, 73, none⟩) hgc).trans HC73.out
  have c4 : z18.cell? ⟨gc, 71, none⟩ = some (.int .u8 5) := (hb18.cell (p := ⟨gc, 71, none⟩) hgc).trans HC71.out
  have c5 : z18.cell? ⟨b5, 1, none⟩ = some (.int .i64 6) := (hb18.cell (p := ⟨b5, 1, none⟩) hb5).trans (HBX.out.trans (by
    show some (Value.int .i64 r5.e.kind) = _
    rw [HR5.out]
    show some (Value.int .i64 rb.e.kind) = _
    rw [HRB.out]
    rfl))
  clear hoa hb18 HW14 HW15 HW16 HW17 HC8 HC72 HC73 HC71 HBX hb5 hgc D1
  rw [show [ra, rb].length = 2 from rfl]
  go_wp2_with fail
  refine (sectors_any 54 z18 (by omega)).mono ?_
  rintro e z19 ⟨rfl, rfl⟩
  rw [show ((numSec 54 : Nat) : Int) = 1 from rfl]
  go_wp2_with fail
  go_ret
  exact ⟨rfl, LOW.out⟩
end Go.Proofs.YthicidpdgggbjaaDoor
