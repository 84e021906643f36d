/- Texts behind one another: K12Z K13Z K14Z K15Z K16Z K17Z K18Z K19Z KXZ R1Z. -/
import Derived.Test.YthbifccankfngaaGreatDoorY2
/-
  The walks of Held, Waits, Holders, Queue.
  Conditions: at most 100000 claims a row.
-/

namespace Go.Proofs.YthbifccankfngaaGreatDoor
open Go.RowKit Go.Shelf
attribute [local go_sem] Oper.semAt_some
set_option maxRecDepth 20000

/-- Its rows are short. -/
def SmS (s : TS) (N : Nat) : Prop := (∀ r, (s.at r).1.length ≤ N ∧ (s.at r).2.length ≤ N) ∧ ∀ t, ((s.ow t).getD []).length ≤ N
theorem field_th (i : Nat) (hi : i < 2) (h q : Value) (w : World) : (Instr.field 79 (thV h q) i).run Tryz.prog w = .ok (if i = 0 then h else q) w := by
  unfold Instr.field
  rw [Sem.run_bind, run_underlying Tryz.underlying79]
  match i, hi with
  | 0, _ => simp [Result.andThen, part, thV, asAgg]
  | 1, _ => simp [Result.andThen, part, thV, asAgg]
section
variable {w w' : World} {B g b1 b2 b3 : Nat} {s : TS} {V : RI → Value} {X : Nat → Prop}
theorem TbV.holdR (h : TbV w B g b1 b2 b3 s V) (r : Rs) : ∃ A c, V (.hold r) = .slice A (s.at r).1.length c ∧ w.ownsRow B 54 2 (.slice A (s.at r).1.length c) (s.at r).1.length (cmL (s.at r).1) := by
  have ho : w.ownsRow B 54 2 (V (.hold r)) ((s.at r).1.map cmP).length (cmL (s.at r).1) := h.rows.own (.hold r)
  rw [List.length_map] at ho
  obtain ⟨A, c, hv, _⟩ := pl_own_slice ho
  rw [hv] at ho
  exact ⟨A, c, hv, ho⟩
theorem TbV.queueR (h : TbV w B g b1 b2 b3 s V) (r : Rs) : ∃ A c, V (.queue r) = .slice A (s.at r).2.length c ∧ w.ownsRow B 54 2 (.slice A (s.at r).2.length c) (s.at r).2.length (cmL (s.at r).2) := by
  have ho : w.ownsRow B 54 2 (V (.queue r)) ((s.at r).2.map cmP).length (cmL (s.at r).2) := h.rows.own (.queue r)
  rw [List.length_map] at ho
  obtain ⟨A, c, hv, _⟩ := pl_own_slice ho
  rw [hv] at ho
  exact ⟨A, c, hv, ho⟩
theorem own_lz {n : Nat} {A : Option Addr} {c : Nat} {l : List Cm} (h : w.ownsRow B 54 2 (.slice A n c) n (cmL l)) : Lz (fun _ => False) w 2 A n (cmL l) := Lz.of_own h (fun _ h => h.elim)
theorem TbV.cell1 (h : TbV w B g b1 b2 b3 s V) : w.cell? ⟨g, 0, none⟩ = some (.map (some b1)) := h.gt.cell 0
theorem TbV.cell2 (h : TbV w B g b1 b2 b3 s V) : w.cell? ⟨g, 1, none⟩ = some (.map (some b2)) := h.gt.cell 1
theorem TbV.cell3 (h : TbV w B g b1 b2 b3 s V) : w.cell? ⟨g, 2, none⟩ = some (.map (some b3)) := h.gt.cell 2
end
set_option maxHeartbeats 1600000 in
theorem Held_any (X : Nat → Prop) (g : Nat) (s : TS) (t : Nat) (r : Rs) (w : World) (h : Tt w g s X) (hr : RsOk r) (hs : SmS s 100000) :
    Calls Tryz.prog 21 #[.pointer (some ⟨g, 0, none⟩), .int .u64 (t : Int), .agg (rsA r)] w (RetB w (.int .i64 (heldI (s.at r).1 t))) := by
  obtain ⟨B, b1, b2, b3, V, hv, _⟩ := h.ex
  obtain ⟨A1, c1, hv1, ho1⟩ := hv.holdR r
  obtain ⟨A2, c2, hv2, ho2⟩ := hv.queueR r
  have hl := own_lz ho1
  have hn1 := (hs.1 r).1
  obtain ⟨n1, hn1e⟩ : ∃ n1, (s.at r).1.length = n1 := ⟨_, rfl⟩
  obtain ⟨n2, hn2e⟩ : ∃ n2, (s.at r).2.length = n2 := ⟨_, rfl⟩
  rw [hn1e] at hv1 hl hn1
  rw [hn2e] at hv2
  have HV1 := Lib.hid hv1
  have HV2 := Lib.hid hv2
  obtain ⟨b5, hb5⟩ : ∃ b5, w.heap.size = b5 := ⟨_, rfl⟩
  have HB := Lib.hid (show Below w.heap.size w (w.alloc (.cells (rsA r) 33)) from (Below.refl _ w).alloc (Nat.le_refl _) _)
  have TB := Lib.hid (hv.below HB.out)
  have A5 := Lib.hid (At.new w 33 (rsA r))
  rw [hb5] at A5
  have HL := Lib.hid (hl.below HB.out)
  have HOK := Lib.hid hr
  clear h hv ho1 ho2 hv1 hv2 hl hr hs hn1e hn2e
  go_enter Tryz.func21, Tryz.ntmps21
  go_upto_region 1 with fail
  generalize w.alloc (.cells (rsA r) 33) = z at HB TB A5 HL ⊢
  have HH : Hid (∀ W, Below z.heap.size z W → Calls Tryz.prog 41 #[thV (.slice A1 n1 c1) (.slice A2 n2 c2), .int .u64 (t : Int)] W (RetB W (.int .i64 (heldI (s.at r).1 t)))) := fun W hW => held_any _ A1 n1 c1 (s.at r).1 (.slice A2 n2 c2) t W (HL.out.below hW) hn1
  refine wp_region_held_drew (S := Below z.heap.size z) (by kernel_rfl) ((Below.refl _ z).drew) (fun hS => ?_)
  refine tk 0 hS ?_
  refine tk 1 hS ?_
  refine tk 2 hS ?_
  refine tk 3 hS ?_ (hy := by intro wz hz; have p0 : wz.cell? ⟨g, 0, none⟩ = some (.map (some b1)) := (TB.out.below hz).cell1; go_simp <;> with_reducible rfl)
  refine tk (v := rsV r) 4 hS ?_ (hy := by intro wz hz; have p0 : wz.cell? ⟨g, 0, none⟩ = some (.map (some b1)) := (TB.out.below hz).cell1; exact exec_load_at 33 (.tmp 5) rfl b5 rfl _ 2 strR rfl (A5.out.under hz A5.out.lt))
  refine tk (v := thV (.slice A1 n1 c1) (.slice A2 n2 c2)) 5 hS ?_ (hy := by intro wz hz; have p0 : wz.cell? ⟨g, 0, none⟩ = some (.map (some b1)) := (TB.out.below hz).cell1; exact exec_look (.tmp 10) (.tmp 11) false rfl keyT_res Tryz.underlying57 (thV nilS nilS) zero_th rfl (TB.out.below hz).ms.m1 r rfl HOK.out _ (by rw [(TB.out.below hz).look1, HV1.out, HV2.out]))
  refine tk 6 hS ?_
  refine wpAnyH_ready (rs := [7]) (by kernel_rfl) (by simp) ?_
  refine AllReadyH.cons rfl (fun K hK => ?_) AllReadyH.nil
  go_simp
  refine (HH.out _ hS).mono ?_
  rintro e y9 ⟨rfl, hb9⟩
  have hb : True := trivial
  have B9 := Lib.hid (hS.trans (hb9.mono hS.size))
  clear hb9
  refine hK.out _ _ (B9.out) (fun hT => ?_)
  clear hK hb hS
  have hS := hT
  clear hT
  refine tk 8 hS ?_
  refine wpAnyH_done (by kernel_rfl) ?_ _
  go_wp2_with fail
  go_ret
  exact ⟨rfl, HB.out.trans (hS.mono HB.out.size)⟩
/-- What the waits say of somebody. -/
def wtV (o : Option Rs) : Array Value := rsA (o.getD (0, 0))
theorem wtV_one (o : Option Rs) : (wtV o).all (·.oneCell') = true := rsA_one _
theorem wtV_look (o : Option Rs) : lookV (rsV (0, 0)) (o.map rsV) true = .tuple #[.agg (wtV o), .bool o.isSome] := by cases o <;> rfl
theorem zR_is : rsA (0, 0) = #[.int .i64 0, .int .u64 0] := rfl
set_option maxHeartbeats 1600000 in
theorem Waits_any (X : Nat → Prop) (g : Nat) (s : TS) (t : Nat) (w : World) (h : Tt w g s X) (ht : U64 t) :
    Calls Tryz.prog 20 #[.pointer (some ⟨g, 0, none⟩), .int .u64 (t : Int)] w (RetB w (.tuple #[.agg (wtV (s.wt t)), .bool (s.wt t).isSome])) := by
  obtain ⟨B, b1, b2, b3, V, hv, _⟩ := h.ex
  obtain ⟨b4, hb4⟩ : ∃ b4, w.heap.size = b4 := ⟨_, rfl⟩
  obtain ⟨z, hz⟩ : ∃ z, w.alloc (.cells (rsA (0, 0)) 33) = z := ⟨_, rfl⟩
  have HB := Lib.hid (show Below w.heap.size w z from hz ▸ (Below.refl _ w).alloc (Nat.le_refl _) _)
  have TB := Lib.hid (hv.below HB.out)
  have A4 := Lib.hid (show At z b4 33 (rsA (0, 0)) from by have := At.new w 33 (rsA (0, 0)); rw [hz, hb4] at this; exact this)
  have p0 : z.cell? ⟨g, 2, none⟩ = some (.map (some b3)) := TB.out.cell3
  have HT := Lib.hid ht
  obtain ⟨o, ho⟩ : ∃ o, s.wt t = o := ⟨_, rfl⟩
  rw [ho]
  have HO := Lib.hid ho
  rw [zR_is] at hz
  clear h hv ht ho
  have HB6 := Lib.hid ((Below.refl z.heap.size z).alloc (Nat.le_refl _) (.cells (wtV o) 33))
  have A6 := Lib.hid (At.new z 33 (wtV o))
  have A42 := Lib.hid (A4.out.alloc (.cells (wtV o) 33))
  go_enter Tryz.func20, Tryz.ntmps20
  go_upto_region 2 with (first
    | refine wpList_look rfl 14 rfl (.tmp 12) (.tmp 13) true rfl keyT_u64 Tryz.underlying59 (rsV (0, 0)) (zero_res _) rfl TB.out.ms.m3 t rfl HT.out (.tuple #[.agg (wtV o), .bool o.isSome]) (by show lookV _ ((s.wt t).map rsV) true = _; rw [HO.out, wtV_look]) ?_
    | refine wpList_store_new 33 (.tmp 6) (.tmp 15) rfl rfl rfl _ z rfl rfl (wtV o) (rsA (0, 0)) 2 rfl strR rfl rfl (wtV_one _) rfl ?_)
  clear hz p0
  generalize z.alloc (.cells (wtV o) 33) = z6 at HB6 A6 A42 ⊢
  generalize z.heap.size = b6 at A6 ⊢
  go_wp2_with (first
    | refine wpList_load_at 33 17 (.tmp 6) rfl rfl rfl b6 rfl _ 2 strR rfl A6.out ?_
    | (refine wpList_store_at 33 (.tmp 4) (.tmp 17) rfl rfl rfl b4 rfl (wtV o) (rsA (0, 0)) 2 rfl strR rfl rfl (wtV_one _) A42.out ?_; intro w9 ha9 hg9))
  refine bodyPost_ret (v := .tuple #[.agg (wtV o), .bool o.isSome]) ?_ rfl ⟨rfl, ?_⟩
  · exact results_at2 (p := 4) (t := 5) (g := b4) (n := 2) (cs := wtV o) rfl ha9 strR rfl rfl rfl
  · exact (HB.out.trans (HB6.out.mono HB.out.size)).grown hg9 (by have := HB.out.size; have := HB6.out.size; omega) (fun k hk => by injection hk with hk; omega)
set_option maxHeartbeats 1600000 in
theorem Holders_any (X : Nat → Prop) (g : Nat) (s : TS) (r : Rs) (w : World) (h : Tt w g s X) (hr : RsOk r) (hs : SmS s 100000) :
    Calls Tryz.prog 13 #[.pointer (some ⟨g, 0, none⟩), .agg (rsA r)] w (RetC w (s.at r).1) := by
  obtain ⟨B, b1, b2, b3, V, hv, _⟩ := h.ex
  obtain ⟨A1, c1, hv1, ho1⟩ := hv.holdR r
  obtain ⟨A2, c2, hv2, ho2⟩ := hv.queueR r
  have hl := own_lz ho1
  have hn1 := (hs.1 r).1
  obtain ⟨n1, hn1e⟩ : ∃ n1, (s.at r).1.length = n1 := ⟨_, rfl⟩
  obtain ⟨n2, hn2e⟩ : ∃ n2, (s.at r).2.length = n2 := ⟨_, rfl⟩
  rw [hn1e] at hv1 hl hn1
  rw [hn2e] at hv2
  have HV1 := Lib.hid hv1
  have HV2 := Lib.hid hv2
  have HNE := Lib.hid hn1e
  obtain ⟨b5, hb5⟩ : ∃ b5, w.heap.size = b5 := ⟨_, rfl⟩
  have HB := Lib.hid (show Below w.heap.size w (w.alloc (.cells (rsA r) 33)) from (Below.refl _ w).alloc (Nat.le_refl _) _)
  have TB := Lib.hid (hv.below HB.out)
  have A5 := Lib.hid (At.new w 33 (rsA r))
  rw [hb5] at A5
  have HL := Lib.hid (hl.below HB.out)
  have HOK := Lib.hid hr
  clear h hv ho1 ho2 hv1 hv2 hl hr hs hn1e hn2e
  go_enter Tryz.func13, Tryz.ntmps13
  go_upto_region 1 with fail
  generalize w.alloc (.cells (rsA r) 33) = z at HB TB A5 HL ⊢
  have HH : Hid (∀ W, Below z.heap.size z W → Calls Tryz.prog 35 #[.slice A1 n1 c1] W (RetC W (s.at r).1)) := fun W hW => clone_any _ n1 c1 A1 (s.at r).1 W (HL.out.below hW) hn1
  refine wp_region_held_drew (S := Below z.heap.size z) (by kernel_rfl) ((Below.refl _ z).drew) (fun hS => ?_)
  refine tk 0 hS ?_
  refine tk 1 hS ?_
  refine tk 2 hS ?_
  refine tk 3 hS ?_ (hy := by intro wz hz; have p0 : wz.cell? ⟨g, 0, none⟩ = some (.map (some b1)) := (TB.out.below hz).cell1; go_simp <;> with_reducible rfl)
  refine tk (v := rsV r) 4 hS ?_ (hy := by intro wz hz; have p0 : wz.cell? ⟨g, 0, none⟩ = some (.map (some b1)) := (TB.out.below hz).cell1; exact exec_load_at 33 (.tmp 3) rfl b5 rfl _ 2 strR rfl (A5.out.under hz A5.out.lt))
  refine tk (v := thV (.slice A1 n1 c1) (.slice A2 n2 c2)) 5 hS ?_ (hy := by intro wz hz; have p0 : wz.cell? ⟨g, 0, none⟩ = some (.map (some b1)) := (TB.out.below hz).cell1; exact exec_look (.tmp 8) (.tmp 9) false rfl keyT_res Tryz.underlying57 (thV nilS nilS) zero_th rfl (TB.out.below hz).ms.m1 r rfl HOK.out _ (by rw [(TB.out.below hz).look1, HV1.out, HV2.out]))
  refine tk (v := .slice A1 n1 c1) 6 hS ?_ (hy := by intro wz hz; have p0 : wz.cell? ⟨g, 0, none⟩ = some (.map (some b1)) := (TB.out.below hz).cell1; have hf := field_th 0 (by omega) (.slice A1 n1 c1) (.slice A2 n2 c2) wz; unfold thV at hf ⊢; go_simp <;> with_reducible rfl)
  refine wpAnyH_ready (rs := [7]) (by kernel_rfl) (by simp) ?_
  refine AllReadyH.cons rfl (fun K hK => ?_) AllReadyH.nil
  go_simp
  refine (HH.out _ hS).mono ?_
  rintro e y9 ⟨A9, c9, rfl, ho9, hb9⟩
  have hb : True := trivial
  have B9 := Lib.hid (hS.trans (hb9.mono hS.size))
  have O9 := Lib.hid ho9
  have BS9 := Lib.hid hS.size
  clear hb9 ho9
  refine hK.out _ _ (B9.out) (fun hT => ?_)
  clear hK hb hS
  have hS := hT
  clear hT
  refine tk 8 hS ?_
  refine wpAnyH_done (by kernel_rfl) ?_ _
  go_wp2_with fail
  go_ret
  exact ⟨A9, c9, rfl, pl_own_base O9.out (Nat.le_trans HB.out.size BS9.out), HB.out.trans (hS.mono HB.out.size)⟩
set_option maxHeartbeats 1600000 in
theorem Queue_any (X : Nat → Prop) (g : Nat) (s : TS) (r : Rs) (w : World) (h : Tt w g s X) (hr : RsOk r) (hs : SmS s 100000) :
    Calls Tryz.prog 14 #[.pointer (some ⟨g, 0, none⟩), .agg (rsA r)] w (RetC w (s.at r).2) := by
  obtain ⟨B, b1, b2, b3, V, hv, _⟩ := h.ex
  obtain ⟨A1, c1, hv1, ho1⟩ := hv.holdR r
  obtain ⟨A2, c2, hv2, ho2⟩ := hv.queueR r
  have hl := own_lz ho2
  have hn1 := (hs.1 r).2
  obtain ⟨n1, hn1e⟩ : ∃ n1, (s.at r).1.length = n1 := ⟨_, rfl⟩
  obtain ⟨n2, hn2e⟩ : ∃ n2, (s.at r).2.length = n2 := ⟨_, rfl⟩
  rw [hn1e] at hv1
  rw [hn2e] at hv2 hl hn1
  have HV1 := Lib.hid hv1
  have HV2 := Lib.hid hv2
  obtain ⟨b5, hb5⟩ : ∃ b5, w.heap.size = b5 := ⟨_, rfl⟩
  have HB := Lib.hid (show Below w.heap.size w (w.alloc (.cells (rsA r) 33)) from (Below.refl _ w).alloc (Nat.le_refl _) _)
  have TB := Lib.hid (hv.below HB.out)
  have A5 := Lib.hid (At.new w 33 (rsA r))
  rw [hb5] at A5
  have HL := Lib.hid (hl.below HB.out)
  have HOK := Lib.hid hr
  clear h hv ho1 ho2 hv1 hv2 hl hr hs hn1e hn2e
  go_enter Tryz.func14, Tryz.ntmps14
  go_upto_region 1 with fail
  generalize w.alloc (.cells (rsA r) 33) = z at HB TB A5 HL ⊢
  have HH : Hid (∀ W, Below z.heap.size z W → Calls Tryz.prog 35 #[.slice A2 n2 c2] W (RetC W (s.at r).2)) := fun W hW => clone_any _ n2 c2 A2 (s.at r).2 W (HL.out.below hW) hn1
  refine wp_region_held_drew (S := Below z.heap.size z) (by kernel_rfl) ((Below.refl _ z).drew) (fun hS => ?_)
  refine tk 0 hS ?_
  refine tk 1 hS ?_
  refine tk 2 hS ?_
  refine tk 3 hS ?_ (hy := by intro wz hz; have p0 : wz.cell? ⟨g, 0, none⟩ = some (.map (some b1)) := (TB.out.below hz).cell1; go_simp <;> with_reducible rfl)
  refine tk (v := rsV r) 4 hS ?_ (hy := by intro wz hz; have p0 : wz.cell? ⟨g, 0, none⟩ = some (.map (some b1)) := (TB.out.below hz).cell1; exact exec_load_at 33 (.tmp 3) rfl b5 rfl _ 2 strR rfl (A5.out.under hz A5.out.lt))
  refine tk (v := thV (.slice A1 n1 c1) (.slice A2 n2 c2)) 5 hS ?_ (hy := by intro wz hz; have p0 : wz.cell? ⟨g, 0, none⟩ = some (.map (some b1)) := (TB.out.below hz).cell1; exact exec_look (.tmp 8) (.tmp 9) false rfl keyT_res Tryz.underlying57 (thV nilS nilS) zero_th rfl (TB.out.below hz).ms.m1 r rfl HOK.out _ (by rw [(TB.out.below hz).look1, HV1.out, HV2.out]))
  refine tk (v := .slice A2 n2 c2) 6 hS ?_ (hy := by intro wz hz; have p0 : wz.cell? ⟨g, 0, none⟩ = some (.map (some b1)) := (TB.out.below hz).cell1; have hf := field_th 1 (by omega) (.slice A1 n1 c1) (.slice A2 n2 c2) wz; unfold thV at hf ⊢; go_simp <;> with_reducible rfl)
  refine wpAnyH_ready (rs := [7]) (by kernel_rfl) (by simp) ?_
  refine AllReadyH.cons rfl (fun K hK => ?_) AllReadyH.nil
  go_simp
  refine (HH.out _ hS).mono ?_
  rintro e y9 ⟨A9, c9, rfl, ho9, hb9⟩
  have hb : True := trivial
  have B9 := Lib.hid (hS.trans (hb9.mono hS.size))
  have O9 := Lib.hid ho9
  have BS9 := Lib.hid hS.size
  clear hb9 ho9
  refine hK.out _ _ (B9.out) (fun hT => ?_)
  clear hK hb hS
  have hS := hT
  clear hT
  refine tk 8 hS ?_
  refine wpAnyH_done (by kernel_rfl) ?_ _
  go_wp2_with fail
  go_ret
  exact ⟨A9, c9, rfl, pl_own_base O9.out (Nat.le_trans HB.out.size BS9.out), HB.out.trans (hS.mono HB.out.size)⟩
end Go.Proofs.YthbifccankfngaaGreatDoor

/-
  Rows and maps turned in one call; steps of regions that draw.
  Conditions: none beyond those that each theorem names.
-/

namespace Go.Proofs.YthbifccankfngaaGreatDoor
open Go.RowKit Go.Shelf
set_option maxRecDepth 20000

theorem own_heap {w w' : World} {B : Nat} {e : TypeId} {v : Value} {n : Nat} {xs : List Value} (h : w.ownsRow B e 2 v n xs) (hk : ∀ k, v.ownBlock = some k → w'.heap[k]? = w.heap[k]?) : w'.ownsRow B e 2 v n xs := by
  refine ⟨h.1, ?_⟩
  rcases h.2 with hn | ⟨g, cap, cur, rfl, hb, hgg, rest⟩
  · exact .inl hn
  · exact .inr ⟨g, cap, cur, rfl, hb, by rw [hk g rfl]; exact hgg, rest⟩
section
variable {w0 w w' : World} {X : Nat → Prop} {B g b1 b2 b3 : Nat} {s s' : TS} {V V' : RI → Value} {L : RI → List (Value × Value)}
/-- Row i is written anew, and blocks beside the table's are turned. -/
theorem TbR.rowM (h : TbR w0 X w B g b1 b2 b3 s V V' L) (i : RI) {Y : Nat → Prop} (hm : Mod Y w w') (hY : ∀ k, Y k → (V' i).ownBlock = some k ∨ (¬ TbX g b1 b2 b3 V' k ∧ w0.heap.size ≤ k)) {v : Value} {l : List (Value × Value)} (ho : w'.ownsRow B (tyI i) 2 v l.length (flat2 l))
    (hv : ∀ k, v.ownBlock = some k → (V' i).ownBlock = some k ∨ w.heap.size ≤ k) : TbR w0 X w' B g b1 b2 b3 s V (setF V' i v) (setF L i l) := by
  have nY : ∀ k, k = g ∨ k = b1 ∨ k = b2 ∨ k = b3 → ¬ Y k := fun k hk hy => by
    rcases hY k hy with h1 | ⟨h1, _⟩
    · obtain ⟨n1, n2, n3, n4⟩ := h.row_ne h1
      rcases hk with hk | hk | hk | hk
      · exact n1 hk
      · exact n2 hk
      · exact n3 hk
      · exact n4 hk
    · refine h1 ?_
      rcases hk with hk | hk | hk | hk
      · exact .inl hk
      · exact .inr (.inl hk)
      · exact .inr (.inr (.inl hk))
      · exact .inr (.inr (.inr (.inl hk)))
  have hb : ∀ k, k < w.heap.size → ¬ Y k → w'.heap[k]? = w.heap[k]? := fun k hk hy => hm.block k hk hy
  have hg : At w' g 61 (tabA b1 b2 b3) := (hb g h.gt.lt (nY g (.inl rfl))).trans h.gt
  have nr : ∀ j, j ≠ i → ∀ k, (V' j).ownBlock = some k → ¬ Y k := fun j hj k hk hy => by
    rcases hY k hy with h1 | ⟨h1, _⟩
    · exact h.rows.apart j i hj k hk h1
    · exact h1 (.inr (.inr (.inr (.inr ⟨j, hk⟩))))
  have hlt : ∀ j k, (V' j).ownBlock = some k → k < w.heap.size := fun j k hk => ((h.rows.own j).lt k hk).2
  refine ⟨hg, ⟨h.ms.m1.move (hb b1 h.ms.m1.lt (nY b1 (.inr (.inl rfl)))), h.ms.m2.move (hb b2 h.ms.m2.lt (nY b2 (.inr (.inr (.inl rfl))))), h.ms.m3.move (hb b3 h.ms.m3.lt (nY b3 (.inr (.inr (.inr rfl)))))⟩,
    ⟨fun j => ?_, fun j j' hne k hk => ?_⟩, h.d12, h.d13, h.d23, Nat.le_trans h.hB hm.size, h.xg, fun j k hk => ?_, h.mod.sub hm fun k hk => ?_⟩
  · by_cases hj : j = i
    · subst hj
      rw [setF_same, setF_same]
      exact ho
    · rw [setF_ne _ _ hj, setF_ne _ _ hj]
      exact own_heap (h.rows.own j) fun k hk => hb k (hlt j k hk) (nr j hj k hk)
  · by_cases hj : j = i
    · subst hj
      rw [setF_same] at hk
      rw [setF_ne _ _ (Ne.symm hne)]
      intro hk'
      rcases hv k hk with h1 | h1
      · exact h.rows.apart j j' hne k h1 hk'
      · have := hlt j' k hk'; omega
    · rw [setF_ne _ _ hj] at hk
      by_cases hj' : j' = i
      · subst hj'
        rw [setF_same]
        intro hk'
        rcases hv k hk' with h1 | h1
        · exact h.rows.apart j j' hne k hk h1
        · have := hlt j k hk; omega
      · rw [setF_ne _ _ hj']
        exact h.rows.apart j j' hne k hk
  · by_cases hj : j = i
    · subst hj
      rw [setF_same] at hk
      rcases hv k hk with h1 | h1
      · exact h.xr j k h1
      · exact .inr (Nat.le_trans h.mod.size h1)
    · rw [setF_ne _ _ hj] at hk
      exact h.xr j k hk
  · rcases hY k hk with h1 | ⟨_, h1⟩
    · exact h.xr i k h1
    · exact .inr h1
/-- Another table that the same maps tell. -/
theorem TbR.rename (h : TbR w0 X w B g b1 b2 b3 s V V' L) (h1 : ∀ r, (s'.th r).isSome = (s.th r).isSome) (h2 : ∀ t, (s'.ow t).isSome = (s.ow t).isSome) (h3 : s'.wt = s.wt) : TbR w0 X w B g b1 b2 b3 s' V V' L := by
  refine ⟨h.gt, ⟨h.ms.m1.ext fun r => ?_, h.ms.m2.ext fun t => ?_, by rw [h3]; exact h.ms.m3⟩, h.rows, h.d12, h.d13, h.d23, h.hB, h.xg, h.xr, h.mod⟩
  · have := h1 r
    cases h4 : s.th r <;> cases h5 : s'.th r <;> simp_all
  · have := h2 t
    cases h4 : s.ow t <;> cases h5 : s'.ow t <;> simp_all
theorem TbR.ext (h : TbR w0 X w B g b1 b2 b3 s V V' L) {V2 V3 : RI → Value} {L2 : RI → List (Value × Value)} (h1 : ∀ i, V i = V2 i) (h2 : ∀ i, V' i = V3 i) (h3 : ∀ i, L i = L2 i) : TbR w0 X w B g b1 b2 b3 s V2 V3 L2 := by
  obtain rfl : V = V2 := funext h1
  obtain rfl : V' = V3 := funext h2
  obtain rfl : L = L2 := funext h3
  exact h
end
section
variable {P : Program} {k t e : TypeId} {α : Type} {key : α → Value} {ok : α → Prop} {w : World} {b : Nat} {f : α → Option Value} [DecidableEq α]
theorem wp_mapStore {o : Oper} {a : Act} {K : Act → World → Prop} {Q : Exit → Act → World → Prop} (m x y : Operand) (hdst : o.dst = none) (hop : o.op = Op.mapUpdate t m x y) (T : KeyT P k key ok) (ht : P.underlying t = some (.map k e))
    (hm : a.eval m = .map (some b)) (h : MapAt key ok w b f) (i : α) (hx : a.eval x = key i) (hi : ok i) (v : Value) (hv : a.eval y = v)
    (hK : ∀ w', MapAt key ok w' b (updF f i (some v)) → w.grownBy w' (some b) → K (a.put none undef) w') : o.wp P a w K Q := by
  obtain ⟨w', hrun, r1, r2⟩ := h.store T ht hi v
  unfold Oper.wp
  simp [execOp, hop, hm, hx, hv, hrun, Result.andThen]
  simp only [Oper.upon]
  rw [hdst]
  exact hK w' r1 r2
theorem wp_mapDrop {o : Oper} {a : Act} {K : Act → World → Prop} {Q : Exit → Act → World → Prop} (m x : Operand) (hdst : o.dst = none) (hop : o.op = Op.call { callee := Callee.builtin Builtin.delete, args := #[m, x], argTypes := #[t, k] }) (T : KeyT P k key ok) (ht : P.underlying t = some (.map k e))
    (hm : a.eval m = .map (some b)) (h : MapAt key ok w b f) (i : α) (hx : a.eval x = key i) (hi : ok i)
    (hK : ∀ w', MapAt key ok w' b (updF f i none) → w.grownBy w' (some b) → K (a.put none (.tuple #[])) w') : o.wp P a w K Q := by
  obtain ⟨w', hrun, r1, r2⟩ := h.drop T ht hi o.type
  unfold Oper.wp
  simp [execOp, hop, resolve, invoke, builtin, hm, hx, hrun, Result.andThen]
  simp only [Oper.upon]
  rw [hdst]
  exact hK w' r1 r2
omit [DecidableEq α] in
theorem wp_look {o : Oper} {a : Act} {K : Act → World → Prop} {Q : Exit → Act → World → Prop} (d : Nat) (hd : o.dst = some d) (m x : Operand) (c : Bool) (hop : o.op = Op.lookup t m x c) (T : KeyT P k key ok) (ht : P.underlying t = some (.map k e)) (z : Value) (hz : (zeroValue e).run P w = .ok z w)
    (hm : a.eval m = .map (some b)) (h : MapAt key ok w b f) (i : α) (hx : a.eval x = key i) (hi : ok i) (v : Value) (hv : lookV z (f i) c = v) (hK : K (a.put (some d) v) w) : o.wp P a w K Q := by
  have hrun := h.look T ht hz c hi
  rw [hv] at hrun
  unfold Oper.wp
  simp [execOp, hop, hm, hx, hrun, Result.andThen]
  simp only [Oper.upon]
  rw [hd]
  exact hK
end
/-- append(v, x...) in a region that draws: a row of the call's own. -/
theorem wp_app2 {o : Oper} {a : Act} {w : World} {K : Act → World → Prop} {Q : Exit → Act → World → Prop} (d : Nat) (hd : o.dst = some d) (s x : Operand) (t : TypeId)
    (ho : o.op = .call { callee := .builtin .append, args := #[s, x], argTypes := #[t, t] })
    (base : Nat) (e : TypeId) (i : TypeInfo) (z : Value) (size bytes : Nat) (ht : Tryz.prog.underlying t = some (.slice e)) (hi : Tryz.prog.info? e = some i) (hz : i.zero = some z)
    (hsize : i.size = size) (hby : i.bytes = bytes) (hzs : z.cells.size = size) (hsz : 0 < size)
    (v : Value) (n : Nat) (xs : List Value) (hs : a.eval s = v) (hown : w.ownsRow base e size v n xs)
    (B : Nat) (A : Option Addr) (m c : Nat) (news : List Value) (hx : a.eval x = .slice A m c) (hr : Lies w B size A m news) (h1 : ∀ u ∈ news, u.oneCell' = true) (hm : 0 < m)
    (h63 : n + m ≤ maxLen) (hbytes : (n + m) * bytes ≤ 140737488355328) (hbase : base ≤ w.heap.size)
    (h : ∀ v' w', w'.ownsRow base e size v' (n + m) (xs ++ news) → w.grownBy w' v.ownBlock → (v'.ownBlock = v.ownBlock ∨ v'.ownBlock = some w.heap.size) → K (a.put (some d) v') w') : o.wp Tryz.prog a w K Q := by
  obtain ⟨v', w', hrun, h2, h3, h4⟩ := run_append_lies2 (P := Tryz.prog) w base t o.type e i z size bytes ht hi hz hsize hby hzs hsz v n xs hown B A m c news hr h1 hm h63 hbytes hbase
  refine Lib.wp_append_run w s x t t ho v _ hs hx v' w' hrun ?_
  rw [hd]
  exact h v' w' h2 h3 h4
theorem one_R : ∀ (x : Rs) (w : World), (Instr.buildSlice 40 1 #[(0, .agg (rsA x))]).run Tryz.prog w = .ok (.slice (some ⟨w.heap.size, 0, none⟩) 1 1) (w.alloc (.cells (rsA x) 33)) := fun x w =>
  run_buildSlice_one (P := Tryz.prog) w 40 33 2 (rsV (0, 0)) (rsA x) Tryz.underlying40 (by kernel_rfl) (by omega) (by omega) rfl
theorem rsL_append (a b : List Rs) : rsL (a ++ b) = rsL a ++ rsL b := by rw [rsL, List.map_append, flat2_append]; rfl
theorem rsL_one (r : Rs) : rsL [r] = [.int .i64 r.1, .int .u64 (r.2 : Int)] := rfl
theorem rsL_length (l : List Rs) : (rsL l).length = l.length * 2 := by rw [rsL, flat2_length, List.length_map]
/-- A block that holds one resource, as a slice of one. -/
theorem lies_rs {w : World} {b : Nat} {r : Rs} (h : At w b 33 (rsA r)) : Lies w w.heap.size 2 (some ⟨b, 0, none⟩) 1 (rsL [r]) := ⟨rfl, fun _ => ⟨_, rfl, h.lt, fun j u hu => by
  rw [add_plain, Nat.zero_add, h.cell]
  simpa [rsA, rsL_one] using hu⟩⟩
theorem rs_one1 (r : Rs) : ∀ u ∈ rsL [r], u.oneCell' = true := fun u hu => by
  simp [rsL_one] at hu
  rcases hu with rfl | rfl <;> rfl
end Go.Proofs.YthbifccankfngaaGreatDoor

/-
  The walk of hold: a claim becomes a hold.
  Conditions: at most 99999 claims a row.
-/

namespace Go.Proofs.YthbifccankfngaaGreatDoor
open Go.RowKit Go.Shelf
attribute [local go_sem] Oper.semAt_some
set_option maxRecDepth 20000

theorem thA_one (A : Option Addr) (n c : Nat) (A' : Option Addr) (n' c' : Nat) : (thA (.slice A n c) (.slice A' n' c')).all (·.oneCell') = true := by simp [thA, Value.oneCell']
theorem hasT_no {h : List Cm} {t : Nat} (hh : ∀ (j : Nat) (hj : j < h.length), h[j].1 ≠ t) : hasT h t = false := by
  unfold hasT
  rw [List.any_eq_false]
  intro x hx
  obtain ⟨j, hj, rfl⟩ := List.getElem_of_mem hx
  simpa using hh j hj
theorem hasT_yes {h : List Cm} {t k : Nat} (hk : k < h.length) (h1 : h[k].1 = t) : hasT h t = true := by
  unfold hasT
  rw [List.any_eq_true]
  exact ⟨h[k], List.getElem_mem hk, by simp [h1]⟩
theorem repl_at {c : Cm} : ∀ {h : List Cm} {k : Nat} (hk : k < h.length), h[k].1 = c.1 → (∀ (j : Nat) (hj : j < h.length), j < k → h[j].1 ≠ c.1) → replI c h = h.take k ++ c :: h.drop (k + 1)
  | [], k, hk, _, _ => by simp at hk
  | d :: h, 0, _, h1, _ => by
    have h2 : d.1 = c.1 := by simpa using h1
    rw [replI, if_pos (by simpa using h2)]
    simp
  | d :: h, k + 1, hk, h1, hn => by
    have h0 : d.1 ≠ c.1 := hn 0 (by simp) (by omega)
    rw [replI, if_neg (by simpa using h0), repl_at (h := h) (k := k) (by simpa using hk) (by simpa using h1) fun j hj hjk => by
      have := hn (j + 1) (by simpa using hj) (by omega)
      simpa using this]
    simp
def HoL (z : World) (h : List Cm) (t n : Nat) (i : Value) (w : World) : Prop :=
  ∃ k : Nat, k ≤ n ∧ i = .int .i64 (k : Int) ∧ Hid (Below z.heap.size z w) ∧ Hid (∀ (j : Nat) (hj : j < h.length), j < k → h[j].1 ≠ t)
theorem row_hold (s : TS) (r : Rs) (x : List Cm × List Cm) (i : RI) : rowI { s with th := upd s.th r (some x) } i = setF (setF (rowI s) (.hold r) (x.1.map cmP)) (.queue r) (x.2.map cmP) i := by
  cases i with
  | hold r' =>
    rw [setF_ne _ _ (by intro e; cases e)]
    by_cases h : r' = r
    · subst h; rw [setF_same]; simp [rowI, TS.at, upd]
    · rw [setF_ne _ _ (by intro e; injection e with e; exact h e)]; simp [rowI, TS.at, upd, h]
  | queue r' =>
    by_cases h : r' = r
    · subst h; rw [setF_same]; simp [rowI, TS.at, upd]
    · rw [setF_ne _ _ (by intro e; injection e with e; exact h e), setF_ne _ _ (by intro e; cases e)]; simp [rowI, TS.at, upd, h]
  | own t => rw [setF_ne _ _ (by intro e; cases e), setF_ne _ _ (by intro e; cases e)]; rfl
theorem setF_self {β : Type} (f : RI → β) (i : RI) {b : β} (h : f i = b) (j : RI) : setF f i b j = f j := by
  by_cases e : j = i
  · subst e; rw [setF_same, h]
  · rw [setF_ne _ _ e]
/-- A claim in its place among the holders is changed. -/
theorem hold_in {w z : World} {X : Nat → Prop} {B g b1 b2 b3 : Nat} {s : TS} {V : RI → Value} (h : TbR w X z B g b1 b2 b3 s V V (rowI s)) (n1 : ∀ r, s.th r = none → V (.hold r) = nilS ∧ V (.queue r) = nilS) (n2 : ∀ t, s.ow t = none → V (.own t) = nilS)
    {r : Rs} {c : Cm} {gh cap : Nat} {cur : List Value} (hv : V (.hold r) = .slice (some ⟨gh, 0, none⟩) (s.at r).1.length cap) (hb : Bk z B 54 gh cap cur) (hcap : (s.at r).1.length ≤ cap) (hcur : cur.take ((s.at r).1.length * 2) = cmL (s.at r).1)
    {k : Nat} (hk : k < (s.at r).1.length) (h1 : (s.at r).1[k].1 = c.1) (h0 : ∀ (j : Nat) (hj : j < (s.at r).1.length), j < k → (s.at r).1[j].1 ≠ c.1) : Tw w X g (holdI s r c) (z.setCells gh (k * 2) (cmV c)) := by
  have hfit : k * 2 + (cmV c).length ≤ cur.length := by rw [hb.len]; simp [cmV]; omega
  have hb2 := hb.set (k * 2) (cmV c) hfit
  have hrep := repl_at (c := c) hk h1 h0
  have hl2 : (replI c (s.at r).1).length = (s.at r).1.length := by rw [hrep]; simp; omega
  have ho2 : (z.setCells gh (k * 2) (cmV c)).ownsRow B 54 2 (.slice (some ⟨gh, 0, none⟩) (s.at r).1.length cap) (s.at r).1.length (cmL (replI c (s.at r).1)) := by
    refine hb2.own hcap ?_
    rw [splice_take _ _ _ _ (by simp [cmV]; omega) (by rw [hb.len]; omega), hcur, hrep]
    have h3 := splice_cm ((s.at r).1.take k) ((s.at r).1.drop (k + 1)) (s.at r).1[k] c
    have h4 : ((s.at r).1.take k).length = k := by rw [List.length_take]; omega
    rw [h4, ← List.drop_eq_getElem_cons hk, List.take_append_drop] at h3
    exact h3
  have hg : z.grownBy (z.setCells gh (k * 2) (cmV c)) (V (.hold r)).ownBlock := by rw [hv]; exact setCells_grown _ _ _ _
  have hr := h.row (.hold r) hg (v := V (.hold r)) (l := (replI c (s.at r).1).map cmP) (by
    rw [List.length_map, hl2, hv]
    exact ho2) (fun k hk => .inl hk)
  have hth : (s.th r).isSome = true := by
    cases hs : s.th r with
    | none => simp [TS.at, hs] at hk
    | some x => rfl
  have hT : hasT (s.at r).1 c.1 = true := hasT_yes hk h1
  have hH : holdI s r c = { s with th := upd s.th r (some (replI c (s.at r).1, (s.at r).2)) } := by unfold holdI; rw [if_pos hT]
  rw [hH]
  have hr2 := hr.rename (s' := { s with th := upd s.th r (some (replI c (s.at r).1, (s.at r).2)) }) (fun r' => by
    by_cases e : r' = r
    · subst e; simp [upd, hth]
    · simp [upd, e]) (fun _ => rfl) rfl
  refine hr2.fin (fun i => (setF_self V _ rfl i).symm) (fun i => ?_) (fun r' hr' => ?_) n2
  · rw [row_hold]
    by_cases e : i = .queue r
    · subst e; rw [setF_same, setF_ne _ _ (by intro e; cases e)]; rfl
    · rw [setF_ne _ _ e]
  · refine n1 r' ?_
    by_cases e : r' = r
    · subst e; simp [upd] at hr'
    · simpa [upd, e] using hr'
set_option maxHeartbeats 3200000 in
theorem hold_has (X : Nat → Prop) (g : Nat) (s : TS) (r : Rs) (c : Cm) (w : World) (h : Tt w g s X) (hr : RsOk r) (hs : SmS s 99999) (hT : hasT (s.at r).1 c.1 = true) :
    Calls Tryz.prog 44 #[.pointer (some ⟨g, 0, none⟩), .agg (rsA r), .agg (cmA c)] w fun e w' => e = .returned (.tuple #[]) ∧ Tw w X g (holdI s r c) w' := by
  obtain ⟨B, b1, b2, b3, V, hv, hB, hx⟩ := h.ex
  obtain ⟨A1, c1, hv1, ho1⟩ := hv.holdR r
  obtain ⟨A2, c2, hv2, ho2⟩ := hv.queueR r
  have hn1 := (hs.1 r).1
  obtain ⟨ct, cm⟩ := c
  obtain ⟨hh, hhe⟩ : ∃ hh, (s.at r).1 = hh := ⟨_, rfl⟩
  obtain ⟨n1, hn1e⟩ : ∃ n1, hh.length = n1 := ⟨_, rfl⟩
  obtain ⟨n2, hn2e⟩ : ∃ n2, (s.at r).2.length = n2 := ⟨_, rfl⟩
  have hn0 : 0 < n1 := by
    rw [← hn1e, ← hhe]
    cases hq : (s.at r).1 with
    | nil => rw [hq] at hT; cases hT
    | cons a l => simp
  rw [hhe] at hT ho1
  have hl := own_lz ho1
  rw [hhe, hn1e] at hv1
  rw [hn1e] at ho1 hl
  rw [hn2e] at hv2
  rw [hhe, hn1e] at hn1
  obtain ⟨gh, cap, cur, hA, hbk, hcap, hcur⟩ := own_bk ho1 hn0
  injection hA with hA hle hC
  clear hle
  subst hA hC
  obtain ⟨b4, hb4⟩ : ∃ b4, w.heap.size = b4 := ⟨_, rfl⟩
  obtain ⟨z, hz⟩ : ∃ z, (w.alloc (.cells (rsA r) 33)).alloc (.cells (cmA (ct, cm)) 54) = z := ⟨_, rfl⟩
  have hbel : Below w.heap.size w z := hz ▸ ((Below.refl _ w).alloc (Nat.le_refl _) _).alloc (by simp) _
  have HB := Lib.hid hbel
  have TB := Lib.hid (hv.below hbel)
  have A4 : Hid (At z b4 33 (rsA r)) := by
    have := (At.new w 33 (rsA r)).alloc (.cells (cmA (ct, cm)) 54)
    rw [hz, hb4] at this
    exact this
  have A5 : Hid (At z (b4 + 1) 54 (cmA (ct, cm))) := by
    have := At.new (w.alloc (.cells (rsA r) 33)) 54 (cmA (ct, cm))
    rw [hz] at this
    simp only [World.size_alloc, hb4] at this
    exact this
  have TR : Hid (TbR w X z B g b1 b2 b3 s V V (rowI s)) := (TbR.start hv hB hx).below hbel
  have HL := Lib.hid (hl.below hbel)
  have HBK := Lib.hid (hbk.kept (grown_below hbel) (by simp))
  have HCUR := Lib.hid hcur
  have HV1 := Lib.hid hv1
  have HV2 := Lib.hid hv2
  have HOK := Lib.hid hr
  have N1 := Lib.hid hv.n1
  have N2 := Lib.hid hv.n2
  have HHE := Lib.hid hhe
  have HNE := Lib.hid hn1e
  have HT := Lib.hid hT
  clear h hv hB hx ho1 ho2 hv1 hv2 hl hr hs hn2e hn1e hhe hT hbk hcur hbel hn0
  go_enter Tryz.func44, Tryz.ntmps44
  go_upto_region 1 with fail
  clear hz
  refine wp_region_held_drew (S := Below z.heap.size z) (by kernel_rfl) ((Below.refl _ z).drew) (fun hS => ?_)
  refine tk 0 hS ?_
  refine tk 1 hS ?_
  refine tk 2 hS ?_
  refine tk 3 hS ?_ (hy := by intro wz hz; have p0 : wz.cell? ⟨g, 0, none⟩ = some (.map (some b1)) := (TB.out.below hz).cell1; go_simp <;> with_reducible rfl)
  refine tk (v := rsV r) 4 hS ?_ (hy := by intro wz hz; have p0 : wz.cell? ⟨g, 0, none⟩ = some (.map (some b1)) := (TB.out.below hz).cell1; exact exec_load_at 33 (.tmp 4) rfl b4 rfl _ 2 strR rfl (A4.out.under hz A4.out.lt))
  refine tk (v := thV (.slice (some ⟨gh, 0, none⟩) n1 c1) (.slice A2 n2 c2)) 5 hS ?_ (hy := by intro wz hz; have p0 : wz.cell? ⟨g, 0, none⟩ = some (.map (some b1)) := (TB.out.below hz).cell1; exact exec_look (.tmp 12) (.tmp 13) false rfl keyT_res Tryz.underlying57 (thV nilS nilS) zero_th rfl (TB.out.below hz).ms.m1 r rfl HOK.out _ (by rw [(TB.out.below hz).look1, HV1.out, HV2.out]))
  refine wpAnyH_ready (rs := [6]) (by kernel_rfl) (by simp) ?_
  refine AllReadyH.cons rfl (fun K hK => ?_) AllReadyH.nil
  go_simp
  refine hK.out _ _ (((Below.refl _ z).drew).alloc (Nat.le_refl _) _) (fun hT => ?_)
  clear hK hS
  have hS := hT
  clear hT
  refine wpAnyH_ready (rs := [7]) (by kernel_rfl) (by simp) ?_
  refine AllReadyH.cons rfl (fun K hK => ?_) AllReadyH.nil
  rw [if_pos (by rfl)]
  refine wp_store_at 79 (.tmp 6) (.tmp 14) rfl rfl z.heap.size rfl (thA (.slice (some ⟨gh, 0, none⟩) n1 c1) (.slice A2 n2 c2)) (thA nilS nilS) 2 rfl strTh rfl rfl (thA_one _ _ _ _ _ _) (At.new z.drew 79 (thA nilS nilS)) ?_
  intro w9 ha9 hg9
  have A6 := Lib.hid ha9
  have HB9 := Lib.hid (show Below z.heap.size z w9 from (((Below.refl _ z).drew).alloc (Nat.le_refl _) (.cells (thA nilS nilS) 79)).grown hg9 (by simp [World.alloc]) (fun k hk => by injection hk with hk; subst hk; exact Nat.le_refl _))
  clear ha9 hg9
  refine hK.out _ _ (HB9.out) (fun hT => ?_)
  clear hK hS
  have hS := hT
  clear hT
  refine wpAnyH_done (by kernel_rfl) ?_ _
  clear hS
  have d0 : w9.cell? ⟨z.heap.size, 0, none⟩ = some (.slice (some ⟨gh, 0, none⟩) n1 c1) := A6.out.cell 0
  have A52 := Lib.hid (A5.out.under HB9.out A5.out.lt)
  have hb6 : z.heap.size < w9.heap.size := A6.out.lt
  generalize z.heap.size = b6 at A6 d0 hb6 ⊢
  go_wp2_with fail
  clear d0
  go_loopw [18] (fun i z => HoL w9 hh ct n1 i z) (fun i _ => n1 - (intOf i).toNat)
  case atStart => exact ⟨0, Nat.zero_le _, rfl, Lib.hid (Below.refl _ w9), Lib.hid (fun j _ h => absurd h (Nat.not_lt_zero _))⟩
  case round =>
    obtain ⟨k, hk, rfl, HR, HN⟩ := hrel
    by_cases hlt : k < n1
    · have hkl : k < hh.length := by rw [HNE.out]; exact hlt
      have HBR := Lib.hid (show Below z.heap.size z wr from HB9.out.trans (HR.out.mono HB9.out.size))
      have R1 : Hid (wr.rangeAt gh (k * 2) (cmV hh[k])) := by
        have := cm_range ((HBK.out.kept (grown_below HBR.out) (by simp)).range HCUR.out) hkl
        rwa [Nat.zero_add] at this
      obtain ⟨x, hx⟩ : ∃ x, hh[k] = x := ⟨_, rfl⟩
      rw [hx] at R1
      have HX := Lib.hid hx
      clear hx
      have c80 : (wr.alloc (.cells (cmA x) 54)).cell? ⟨wr.heap.size, 0, none⟩ = some (.int .u64 (x.1 : Int)) := (At.new wr 54 (cmA x)).cell 0
      have HB2 := Lib.hid (HR.out.alloc HR.out.size (.cells (cmA x) 54))
      have A53 := Lib.hid (A52.out.under HB2.out A52.out.lt)
      have c50 : (wr.alloc (.cells (cmA x) 54)).cell? ⟨b4 + 1, 0, none⟩ = some (.int .u64 (ct : Int)) := A53.out.cell 0
      have d0 : (wr.alloc (.cells (cmA x) 54)).cell? ⟨b6, 0, none⟩ = some (.slice (some ⟨gh, 0, none⟩) n1 c1) := (A6.out.under HB2.out A6.out.lt).cell 0
      by_cases hpx : x.1 = ct
      · have e : ((x.1 : Int) == (ct : Int)) = true := by rw [nat_beq, hpx, beq_self_eq_true]
        have HPX := Lib.hid hpx
        have HBZ := Lib.hid (show Below z.heap.size z (wr.alloc (.cells (cmA x) 54)) from HB9.out.trans (HB2.out.mono HB9.out.size))
        have TH := Lib.hid ((HBK.out.kept (grown_below HBZ.out) (by simp)).there (k * 2) 2 (by rw [HBK.out.len]; omega))
        clear hpx
        go_wp2_with (first
          | refine wpList_load_in 54 22 (.tmp 21) rfl rfl rfl gh (k * 2) rfl (cmV x) 2 strC rfl R1.out ?_
          | refine wpList_store_new 54 (.tmp 8) (.tmp 22) rfl rfl rfl _ wr rfl rfl (cmA x) zC 2 rfl strC rfl rfl (cmA_one _) rfl ?_
          | refine wpList_load_at 54 31 (.tmp 5) rfl rfl rfl (b4 + 1) rfl (cmA (ct, cm)) 2 strC rfl A53.out ?_
          | refine wpList_store_mid rfl 54 (.tmp 32) (.tmp 31) rfl gh (k * 2) (cmA (ct, cm)) rfl rfl TH.out c_size (cmA_one _) ?_)
        refine bodyPost_ret (v := .tuple #[]) (results_none rfl _ _ _) rfl ⟨rfl, ?_⟩
        have hq := hold_in (c := (ct, cm)) (TR.out.below HBZ.out) N1.out N2.out (r := r) (gh := gh) (cap := c1) (cur := cur) (k := k) (by rw [HHE.out, HNE.out]; exact HV1.out) (HBK.out.kept (grown_below HBZ.out) (by simp)) (by rw [HHE.out, HNE.out]; exact hcap) (by rw [HHE.out, HNE.out]; exact HCUR.out) (by rw [HHE.out]; exact hkl)
          (by simp only [HHE.out]; rw [HX.out]; exact HPX.out) (by simp only [HHE.out]; exact HN.out)
        exact hq
      · have e : ((x.1 : Int) == (ct : Int)) = false := by rw [nat_beq]; simpa using hpx
        have HPX := Lib.hid hpx
        clear hpx d0
        go_wp2_with (first
          | refine wpList_load_in 54 22 (.tmp 21) rfl rfl rfl gh (k * 2) rfl (cmV x) 2 strC rfl R1.out ?_
          | refine wpList_store_new 54 (.tmp 8) (.tmp 22) rfl rfl rfl _ wr rfl rfl (cmA x) zC 2 rfl strC rfl rfl (cmA_one _) rfl ?_)
        exact ⟨⟨k + 1, by omega, by go_num, HB2, Lib.hid fun j hj hjk => by
          rcases Nat.lt_succ_iff_lt_or_eq.1 hjk with h1 | rfl
          · exact HN.out j hj h1
          · rw [HX.out]; exact HPX.out⟩, by simp [intOf]; omega⟩
    · exfalso
      have := hasT_no (h := hh) (t := ct) fun j hj => HN.out j hj (by have := HNE.out; omega)
      rw [show hasT hh ct = true from HT.out] at this
      cases this
end Go.Proofs.YthbifccankfngaaGreatDoor

/-
  The walk of hold where a claim is new, and in general.
  Conditions: at most 99999 claims a row.
-/

namespace Go.Proofs.YthbifccankfngaaGreatDoor
open Go.RowKit Go.Shelf
attribute [local go_sem] Oper.semAt_some
set_option maxRecDepth 20000

theorem TbV.ownR {w : World} {B g b1 b2 b3 : Nat} {s : TS} {V : RI → Value} (h : TbV w B g b1 b2 b3 s V) (t : Nat) : ∃ A c, V (.own t) = .slice A ((s.ow t).getD []).length c ∧ w.ownsRow B 33 2 (.slice A ((s.ow t).getD []).length c) ((s.ow t).getD []).length (rsL ((s.ow t).getD [])) := by
  have ho : w.ownsRow B 33 2 (V (.own t)) (((s.ow t).getD []).map rsP).length (rsL ((s.ow t).getD [])) := h.rows.own (.own t)
  rw [List.length_map] at ho
  obtain ⟨A, c, hv, _⟩ := pl_own_slice ho
  rw [hv] at ho
  exact ⟨A, c, hv, ho⟩
theorem hold_fin {w0 w : World} {X : Nat → Prop} {B g b1 b2 b3 : Nat} {s : TS} {V : RI → Value} {r : Rs} {c : Cm} {v1 vq v5 : Value} {hh qq : List Cm} {lo : List Rs}
    (hq : V (.queue r) = vq) (hqq : (s.at r).2 = qq) (h1 : (s.at r).1 = hh) (hlo : (s.ow c.1).getD [] = lo) (hT : hasT hh c.1 = false)
    (h : TbR w0 X w B g b1 b2 b3 { s with th := upd s.th r (some (hh ++ [c], qq)), ow := upd s.ow c.1 (some (lo ++ [r])) } (setF (setTh V r v1 vq) (.own c.1) v5) (setF (setF V (.hold r) v1) (.own c.1) v5) (setF (setF (rowI s) (.hold r) ((hh ++ [c]).map cmP)) (.own c.1) ((lo ++ [r]).map rsP)))
    (n1 : ∀ r, s.th r = none → V (.hold r) = nilS ∧ V (.queue r) = nilS) (n2 : ∀ t, s.ow t = none → V (.own t) = nilS) : Tw w0 X g (holdI s r c) w := by
  have hH : holdI s r c = { s with th := upd s.th r (some (hh ++ [c], qq)), ow := upd s.ow c.1 (some (lo ++ [r])) } := by
    unfold holdI
    rw [h1, hqq, hlo, if_neg (by rw [hT]; simp)]
  rw [hH]
  refine h.fin (fun i => ?_) (fun i => ?_) (fun r' hr' => ?_) (fun t ht => ?_)
  · by_cases e : i = .own c.1
    · subst e; rw [setF_same, setF_same]
    · rw [setF_ne _ _ e, setF_ne _ _ e]
      cases i with
      | hold r' =>
        rw [setTh_h]
        by_cases e2 : r' = r
        · subst e2; rw [if_pos rfl, setF_same]
        · rw [if_neg e2, setF_ne _ _ (by intro e; injection e with e; exact e2 e)]
      | queue r' =>
        rw [setTh_q, setF_ne _ _ (by intro e; cases e)]
        by_cases e2 : r' = r
        · subst e2; rw [if_pos rfl, hq]
        · rw [if_neg e2]
      | own t => rw [setTh_o, setF_ne _ _ (by intro e; cases e)]
  · by_cases e : i = .own c.1
    · subst e; rw [setF_same]; simp [rowI, upd]
    · rw [setF_ne _ _ e]
      have hrow := row_hold s r (hh ++ [c], qq) i
      cases i with
      | hold r' =>
        refine Eq.trans ?_ (Eq.trans hrow.symm rfl)
        rw [setF_ne (setF (rowI s) (.hold r) _) _ (by intro e; cases e)]
      | queue r' =>
        refine Eq.trans ?_ (Eq.trans hrow.symm rfl)
        rw [setF_ne _ _ (by intro e; cases e)]
        by_cases e2 : r' = r
        · subst e2; rw [setF_same, ← hqq]; rfl
        · rw [setF_ne _ _ (by intro e; injection e with e; exact e2 e), setF_ne _ _ (by intro e; cases e)]
      | own t =>
        rw [setF_ne _ _ (by intro e; cases e)]
        have et : t ≠ c.1 := fun e2 => e (by rw [e2])
        simp [rowI, upd, et]
  · have e2 : r' ≠ r := by rintro rfl; simp [upd] at hr'
    have := n1 r' (by simpa [upd, e2] using hr')
    rw [setF_ne _ _ (by intro e; cases e), setF_ne _ _ (by intro e; cases e), setTh_h, setTh_q, if_neg e2, if_neg e2]
    exact this
  · have e2 : t ≠ c.1 := by rintro rfl; simp [upd] at ht
    have := n2 t (by simpa [upd, e2] using ht)
    rw [setF_ne _ _ (by intro e; injection e with e; exact e2 e), setTh_o]
    exact this
theorem wp_lit1r {o : Oper} {a : Act} {w : World} {K : Act → World → Prop} {Q : Exit → Act → World → Prop} (d : Nat) (x : Operand) (t e : TypeId) (size : Nat) (z : Value) (c : Array Value) (hop : o.dst = some d)
    (ho : o.op = .buildSlice t 1 #[(0, x)]) (hx : a.eval x = .agg c) (ht : Tryz.prog.underlying t = some (.slice e)) (hi : (Tryz.prog.info? e).map (fun i => (i.zero, i.size)) = some (some z, size)) (h0 : 0 < size) (hs : size ≤ 100000) (hc : c.size = size)
    (h : K (a.put (some d) (.slice (some ⟨w.heap.size, 0, none⟩) 1 1)) (w.alloc (.cells c e))) : o.wp Tryz.prog a w K Q := wp_lit1 d x t e size z c hop ho hx ht hi h0 hs hc h
set_option maxHeartbeats 6400000 in
theorem hold_new (X : Nat → Prop) (g : Nat) (s : TS) (r : Rs) (c : Cm) (w : World) (h : Tt w g s X) (hr : RsOk r) (ht : U64 c.1) (hs : SmS s 99999) (hT : hasT (s.at r).1 c.1 = false) :
    Calls Tryz.prog 44 #[.pointer (some ⟨g, 0, none⟩), .agg (rsA r), .agg (cmA c)] w fun e w' => e = .returned (.tuple #[]) ∧ Tw w X g (holdI s r c) w' := by
  obtain ⟨B, b1, b2, b3, V, hv, hB, hx⟩ := h.ex
  obtain ⟨A1, c1, hv1, ho1⟩ := hv.holdR r
  obtain ⟨A2, c2, hv2, ho2⟩ := hv.queueR r
  obtain ⟨ct, cm⟩ := c
  obtain ⟨AO, cO, hvO, hoO⟩ := hv.ownR ct
  have hn1 := (hs.1 r).1
  have hnO := hs.2 ct
  obtain ⟨hh, hhe⟩ : ∃ hh, (s.at r).1 = hh := ⟨_, rfl⟩
  obtain ⟨qq, hqe⟩ : ∃ qq, (s.at r).2 = qq := ⟨_, rfl⟩
  obtain ⟨lo, hlo⟩ : ∃ lo, (s.ow ct).getD [] = lo := ⟨_, rfl⟩
  obtain ⟨n1, hn1e⟩ : ∃ n1, hh.length = n1 := ⟨_, rfl⟩
  obtain ⟨n2, hn2e⟩ : ∃ n2, qq.length = n2 := ⟨_, rfl⟩
  obtain ⟨nO, hnOe⟩ : ∃ nO, lo.length = nO := ⟨_, rfl⟩
  rw [hhe] at hT ho1 hv1 hn1
  rw [hqe] at hv2 ho2
  rw [hlo] at hvO hoO hnO
  have hl := own_lz ho1
  rw [hn1e] at ho1 hl hv1 hn1
  rw [hn2e] at hv2
  rw [hnOe] at hvO hoO hnO
  obtain ⟨b4, hb4⟩ : ∃ b4, w.heap.size = b4 := ⟨_, rfl⟩
  obtain ⟨z, hz⟩ : ∃ z, (w.alloc (.cells (rsA r) 33)).alloc (.cells (cmA (ct, cm)) 54) = z := ⟨_, rfl⟩
  have hbel : Below w.heap.size w z := hz ▸ ((Below.refl _ w).alloc (Nat.le_refl _) _).alloc (by simp) _
  have HB := Lib.hid hbel
  have TB := Lib.hid (hv.below hbel)
  have A4 : Hid (At z b4 33 (rsA r)) := by
    have := (At.new w 33 (rsA r)).alloc (.cells (cmA (ct, cm)) 54)
    rw [hz, hb4] at this
    exact this
  have A5 : Hid (At z (b4 + 1) 54 (cmA (ct, cm))) := by
    have := At.new (w.alloc (.cells (rsA r) 33)) 54 (cmA (ct, cm))
    rw [hz] at this
    simp only [World.size_alloc, hb4] at this
    exact this
  have TR : Hid (TbR w X z B g b1 b2 b3 s V V (rowI s)) := (TbR.start hv hB hx).below hbel
  have HL := Lib.hid (hl.below hbel)
  have HNO : Hid (∀ k, b4 ≤ k → some k ≠ (Value.slice AO nO cO).ownBlock) := fun k hk e => by
    have := (hoO.lt k e.symm).2
    omega
  have HNH : Hid (∀ k, b4 ≤ k → some k ≠ (Value.slice A1 n1 c1).ownBlock) := fun k hk e => by
    have := (ho1.lt k e.symm).2
    omega
  have HV1 := Lib.hid hv1
  have HV2 := Lib.hid hv2
  have HVO := Lib.hid hvO
  have HO1 := Lib.hid ho1
  have HOO := Lib.hid hoO
  have HOK := Lib.hid hr
  have HOT := Lib.hid ht
  have N1 := Lib.hid hv.n1
  have N2 := Lib.hid hv.n2
  have HHE := Lib.hid hhe
  have HQE := Lib.hid hqe
  have HLO := Lib.hid hlo
  have HNE := Lib.hid hn1e
  have HNOE := Lib.hid hnOe
  have HT := Lib.hid hT
  have HB4 := Lib.hid hb4
  have HLK0 := Lib.hid (hv.look2 ct)
  clear h hv hB hx ho1 ho2 hv1 hv2 hvO hoO hl hr hs hn2e hn1e hnOe hhe hqe hlo hT hbel ht hb4
  go_enter Tryz.func44, Tryz.ntmps44
  go_upto_region 1 with fail
  rw [HB4.out]
  clear hz
  refine wp_region_held_drew (S := Below z.heap.size z) (by kernel_rfl) ((Below.refl _ z).drew) (fun hS => ?_)
  refine tk 0 hS ?_
  refine tk 1 hS ?_
  refine tk 2 hS ?_
  refine tk 3 hS ?_ (hy := by intro wz hz; have p0 : wz.cell? ⟨g, 0, none⟩ = some (.map (some b1)) := (TB.out.below hz).cell1; go_simp <;> with_reducible rfl)
  refine tk (v := rsV r) 4 hS ?_ (hy := by intro wz hz; have p0 : wz.cell? ⟨g, 0, none⟩ = some (.map (some b1)) := (TB.out.below hz).cell1; exact exec_load_at 33 (.tmp 4) rfl b4 rfl _ 2 strR rfl (A4.out.under hz A4.out.lt))
  refine tk (v := thV (.slice A1 n1 c1) (.slice A2 n2 c2)) 5 hS ?_ (hy := by intro wz hz; have p0 : wz.cell? ⟨g, 0, none⟩ = some (.map (some b1)) := (TB.out.below hz).cell1; exact exec_look (.tmp 12) (.tmp 13) false rfl keyT_res Tryz.underlying57 (thV nilS nilS) zero_th rfl (TB.out.below hz).ms.m1 r rfl HOK.out _ (by rw [(TB.out.below hz).look1, HV1.out, HV2.out]))
  refine wpAnyH_ready (rs := [6]) (by kernel_rfl) (by simp) ?_
  refine AllReadyH.cons rfl (fun K hK => ?_) AllReadyH.nil
  go_simp
  refine hK.out _ _ (((Below.refl _ z).drew).alloc (Nat.le_refl _) _) (fun hT => ?_)
  clear hK hS
  have hS := hT
  clear hT
  refine wpAnyH_ready (rs := [7]) (by kernel_rfl) (by simp) ?_
  refine AllReadyH.cons rfl (fun K hK => ?_) AllReadyH.nil
  rw [if_pos (by rfl)]
  refine wp_store_at 79 (.tmp 6) (.tmp 14) rfl rfl z.heap.size rfl (thA (.slice A1 n1 c1) (.slice A2 n2 c2)) (thA nilS nilS) 2 rfl strTh rfl rfl (thA_one _ _ _ _ _ _) (At.new z.drew 79 (thA nilS nilS)) ?_
  intro w9 ha9 hg9
  have A6 := Lib.hid ha9
  have HB9 := Lib.hid (show Below z.heap.size z w9 from (((Below.refl _ z).drew).alloc (Nat.le_refl _) (.cells (thA nilS nilS) 79)).grown hg9 (by simp [World.alloc]) (fun k hk => by injection hk with hk; subst hk; exact Nat.le_refl _))
  clear ha9 hg9
  refine hK.out _ _ (HB9.out) (fun hT => ?_)
  clear hK hS
  have hS := hT
  clear hT
  refine wpAnyH_done (by kernel_rfl) ?_ _
  clear hS
  have d0 : w9.cell? ⟨z.heap.size, 0, none⟩ = some (.slice A1 n1 c1) := A6.out.cell 0
  have A52 := Lib.hid (A5.out.under HB9.out A5.out.lt)
  have hb6 : z.heap.size < w9.heap.size := A6.out.lt
  have hb46 : b4 + 1 < z.heap.size := A5.out.lt
  have HZ6 : Hid (∃ b6, z.heap.size = b6) := ⟨_, rfl⟩
  obtain ⟨b6, hb6e⟩ := HZ6
  rw [hb6e] at A6 d0 hb6 hb46 ⊢
  have HB6E := Lib.hid hb6e
  clear hb6e
  go_wp2_with fail
  clear d0
  go_loopw [18] (fun i z => HoL w9 hh ct n1 i z) (fun i _ => n1 - (intOf i).toNat)
  case atStart => exact ⟨0, Nat.zero_le _, rfl, Lib.hid (Below.refl _ w9), Lib.hid (fun j _ h => absurd h (Nat.not_lt_zero _))⟩
  case round =>
    obtain ⟨k, hk, rfl, HR, HN⟩ := hrel
    have HBR := Lib.hid (show Below z.heap.size z wr from HB9.out.trans (HR.out.mono HB9.out.size))
    by_cases hlt : k < n1
    · have hkl : k < hh.length := by rw [HNE.out]; exact hlt
      obtain ⟨bL, oL, hl, rfl, _, hbL, hrg⟩ := (HL.out.below HBR.out).cm hlt
      have R1 := Lib.hid hrg
      obtain ⟨x, hx⟩ : ∃ x, hh[k] = x := ⟨_, rfl⟩
      rw [hx] at R1
      have HX := Lib.hid hx
      clear hx hrg
      have c80 : (wr.alloc (.cells (cmA x) 54)).cell? ⟨wr.heap.size, 0, none⟩ = some (.int .u64 (x.1 : Int)) := (At.new wr 54 (cmA x)).cell 0
      have HB2 := Lib.hid (HR.out.alloc HR.out.size (.cells (cmA x) 54))
      have A53 := Lib.hid (A52.out.under HB2.out A52.out.lt)
      have c50 : (wr.alloc (.cells (cmA x) 54)).cell? ⟨b4 + 1, 0, none⟩ = some (.int .u64 (ct : Int)) := A53.out.cell 0
      have hpx : x.1 ≠ ct := by
        intro hpx
        have := hasT_yes hkl (t := ct) (by rw [HX.out]; exact hpx)
        rw [show hasT hh ct = false from HT.out] at this
        cases this
      have e : ((x.1 : Int) == (ct : Int)) = false := by rw [nat_beq]; simpa using hpx
      have HPX := Lib.hid hpx
      clear hpx
      go_wp2_with (first
        | refine wpList_load_in 54 22 (.tmp 21) rfl rfl rfl bL (oL + k * 2) rfl (cmV x) 2 strC rfl R1.out ?_
        | refine wpList_store_new 54 (.tmp 8) (.tmp 22) rfl rfl rfl _ wr rfl rfl (cmA x) zC 2 rfl strC rfl rfl (cmA_one _) rfl ?_)
      exact ⟨⟨k + 1, by omega, by go_num, HB2, Lib.hid fun j hj hjk => by
        rcases Nat.lt_succ_iff_lt_or_eq.1 hjk with h1 | rfl
        · exact HN.out j hj h1
        · rw [HX.out]; exact HPX.out⟩, by simp [intOf]; omega⟩
    · obtain rfl : n1 = k := by omega
      have TRr := Lib.hid (TR.out.below HBR.out)
      have A4R := Lib.hid (A4.out.under HBR.out A4.out.lt)
      have A5R := Lib.hid (A5.out.under HBR.out A5.out.lt)
      have A6R := Lib.hid (A6.out.under HR.out A6.out.lt)
      have d0 : wr.cell? ⟨b6, 0, none⟩ = some (.slice A1 n1 c1) := A6R.out.cell 0
      have hwr : Below w.heap.size w wr := HB.out.trans (HBR.out.mono HB.out.size)
      have HI := Lib.hid (insert_any B (.slice A1 n1 c1) hh wr (by rw [HNE.out]; exact HO1.out.kept (grown_below hwr) (by cases A1 <;> first | exact .inl rfl | exact .inr (by simp [Value.ownBlock]))) (by rw [HNE.out]; omega) TRr.out.hB n1 (by rw [HNE.out]; exact Nat.le_refl _) (ct, cm) b6 0 (thA (.slice A1 n1 c1) (.slice A2 n2 c2)) A6R.out rfl)
      have HINS : Hid (hh.insertIdx n1 (ct, cm) = hh ++ [(ct, cm)]) := by
        show _ = _
        rw [ins_eq (ct, cm) hh n1 (by rw [HNE.out]; exact Nat.le_refl _), List.take_of_length_le (by rw [HNE.out]; exact Nat.le_refl _), List.drop_of_length_le (by rw [HNE.out]; exact Nat.le_refl _)]
      rw [HINS.out] at HI
      clear hwr
      go_wp2_with (first
        | refine wpList_load_at 54 38 (.tmp 5) rfl rfl rfl (b4 + 1) rfl (cmA (ct, cm)) 2 strC rfl A5R.out ?_)
      refine HI.out.mono ?_
      rintro e w2 ⟨rfl, v7, ho7, hv7, ha7, hm7⟩
      obtain ⟨A7, c7, hv7e, _⟩ := pl_own_slice ho7
      obtain ⟨m1, hm1⟩ : ∃ m1, (hh ++ [(ct, cm)]).length = m1 := ⟨_, rfl⟩
      rw [hm1] at hv7e ho7
      subst hv7e
      have hY : ∀ k, (k = b6 ∨ (Value.slice A1 n1 c1).ownBlock = some k) → (V (.hold r)).ownBlock = some k ∨ (¬ TbX g b1 b2 b3 V k ∧ w.heap.size ≤ k) := by
        rintro k (rfl | hk)
        · exact .inr ⟨TRr.out.box_ne A6R.out ⟨by decide, by decide, by decide⟩, by rw [HB4.out]; omega⟩
        · exact .inl (by rw [HV1.out]; exact hk)
      have TR2 := Lib.hid (TRr.out.rowM (.hold r) hm7 hY (v := .slice A7 m1 c7) (l := (hh ++ [(ct, cm)]).map cmP) (by rw [List.length_map, hm1]; exact ho7) (fun k hk => by rw [HV1.out]; exact hv7 k hk))
      have nb : ∀ k, b4 ≤ k → k ≠ b6 → ¬ (k = b6 ∨ (Value.slice A1 n1 c1).ownBlock = some k) := by
        rintro k hk h1 (h2 | h2)
        · exact h1 h2
        · exact HNH.out k hk h2.symm
      have A42 : Hid (At w2 b4 33 (rsA r)) := (hm7.block b4 A4R.out.lt (nb b4 (Nat.le_refl _) (by omega))).trans A4R.out
      have A52 : Hid (At w2 (b4 + 1) 54 (cmA (ct, cm))) := (hm7.block (b4 + 1) A5R.out.lt (nb (b4 + 1) (Nat.le_succ _) (by omega))).trans A5R.out
      have A62 : Hid (At w2 b6 79 (thA (.slice A7 m1 c7) (.slice A2 n2 c2))) := ha7
      clear ho7 hv7 ha7 hm7 hY nb HI d0
      go_upto_region 9 with fail
      have hS0 : At w2.drew g 61 (tabA b1 b2 b3) ∧ At w2.drew b4 33 (rsA r) ∧ At w2.drew b6 79 (thA (.slice A7 m1 c7) (.slice A2 n2 c2)) := ⟨TR2.out.gt, A42.out, A62.out⟩
      refine wp_region_held_drew (S := fun wz => At wz g 61 (tabA b1 b2 b3) ∧ At wz b4 33 (rsA r) ∧ At wz b6 79 (thA (.slice A7 m1 c7) (.slice A2 n2 c2))) (by kernel_rfl) hS0 (fun hS => ?_)
      refine tk 0 hS ?_
      refine tk 1 hS ?_
      refine tk 2 hS ?_
      refine tk 3 hS ?_ (hy := by intro wz hz; have p0 : wz.cell? ⟨g, 0, none⟩ = some (.map (some b1)) := hz.1.cell 0; go_simp <;> with_reducible rfl)
      refine tk (v := rsV r) 4 hS ?_ (hy := by intro wz hz; have p0 : wz.cell? ⟨g, 0, none⟩ = some (.map (some b1)) := hz.1.cell 0; exact exec_load_at 33 (.tmp 4) rfl b4 rfl _ 2 strR rfl hz.2.1)
      refine tk (v := .agg (thA (.slice A7 m1 c7) (.slice A2 n2 c2))) 5 hS ?_ (hy := by intro wz hz; have p0 : wz.cell? ⟨g, 0, none⟩ = some (.map (some b1)) := hz.1.cell 0; exact exec_load_at 79 (.tmp 6) rfl b6 rfl (thA (.slice A7 m1 c7) (.slice A2 n2 c2)) 2 strTh rfl hz.2.2)
      refine wpAnyH_ready (rs := [6]) (by kernel_rfl) (by simp) ?_
      refine AllReadyH.cons rfl (fun K hK => ?_) AllReadyH.nil
      rw [if_pos (by rfl)]
      refine wp_mapStore (.tmp 43) (.tmp 44) (.tmp 45) rfl rfl keyT_res Tryz.underlying57 rfl (TR2.out.below ((Below.refl _ w2).drew)).ms.m1 r rfl HOK.out (thV (.slice A7 m1 c7) (.slice A2 n2 c2)) rfl ?_
      intro w9 hm9 hg9
      have TR3 := Lib.hid ((TR2.out.below ((Below.refl _ w2).drew)).put1 r ((hh ++ [(ct, cm)], qq)) (.slice A7 m1 c7) (.slice A2 n2 c2) hm9 hg9)
      have ngm := TR2.out.ms.m1
      obtain ⟨es9, cl9, hes9, _⟩ := ngm
      have hS9 : At w9 g 61 (tabA b1 b2 b3) ∧ At w9 b4 33 (rsA r) ∧ At w9 b6 79 (thA (.slice A7 m1 c7) (.slice A2 n2 c2)) := ⟨hS0.1.grown hg9 (fun e => at_map TR2.out.gt hes9 (Option.some.inj e)), hS0.2.1.grown hg9 (fun e => at_map A42.out hes9 (Option.some.inj e)), hS0.2.2.grown hg9 (fun e => at_map A62.out hes9 (Option.some.inj e))⟩
      clear hm9 hes9
      refine hK.out _ _ (hS9) (fun hT => ?_)
      clear hK hS
      have hS := hT
      clear hT
      refine wpAnyH_done (by kernel_rfl) ?_ _
      have A43 := Lib.hid hS9.2.1
      have A53 : Hid (At w9 (b4 + 1) 54 (cmA (ct, cm))) := by
        obtain ⟨es7, cl7, hes7, _⟩ := TR2.out.ms.m1
        exact (show At w2.drew (b4 + 1) 54 (cmA (ct, cm)) from A52.out).grown hg9 (fun e => at_map A52.out hes7 (Option.some.inj e))
      clear hS hS9 hg9 hS0
      have TR3d := Lib.hid (TR3.out.below ((Below.refl _ w9).drew))
      have TR4 := Lib.hid (TR3.out.below (((Below.refl _ w9).drew).alloc (Nat.le_refl _) (.cells (rsA r) 33)))
      have HA6 := Lib.hid (At.new w9.drew 33 (rsA r))
      have HLK : Hid (lookV nilS ((s.ow ct).map fun _ => setTh V r (.slice A7 m1 c7) (.slice A2 n2 c2) (.own ct)) false = .slice AO nO cO) := by
        show _ = _
        rw [setTh_o]
        exact HLK0.out.trans HVO.out
      have HO4 : Hid ((w9.drew.alloc (.cells (rsA r) 33)).ownsRow B 33 2 (.slice AO nO cO) nO (rsL lo)) := by
        have := TR4.out.rows.own (.own ct)
        rw [setF_ne _ _ (by intro e; cases e), setF_ne _ _ (by intro e; cases e), HVO.out] at this
        have e : rowI s (.own ct) = lo.map rsP := by show ((s.ow ct).getD []).map rsP = _; rw [HLO.out]
        rw [e, List.length_map, HNOE.out] at this
        exact this
      have HS5 : Hid (∀ (v5 : Value) (w5 : World), w5.ownsRow B 33 2 v5 (nO + 1) (rsL lo ++ rsL [r]) → (w9.drew.alloc (.cells (rsA r) 33)).grownBy w5 (Value.slice AO nO cO).ownBlock → (v5.ownBlock = (Value.slice AO nO cO).ownBlock ∨ v5.ownBlock = some (w9.drew.alloc (.cells (rsA r) 33)).heap.size) →
          TbR w X w5 B g b1 b2 b3 { s with th := upd s.th r (some (hh ++ [(ct, cm)], qq)) } (setTh V r (.slice A7 m1 c7) (.slice A2 n2 c2)) (setF (setF V (.hold r) (.slice A7 m1 c7)) (.own ct) v5) (setF (setF (rowI s) (.hold r) ((hh ++ [(ct, cm)]).map cmP)) (.own ct) ((lo ++ [r]).map rsP))) := fun v5 w5 ho hg hb => by
        have eV : setF V (.hold r) (.slice A7 m1 c7) (.own ct) = .slice AO nO cO := by rw [setF_ne _ _ (by intro e; cases e), HVO.out]
        refine TR4.out.row (.own ct) (by rw [eV]; exact hg) ?_ (fun k hk => ?_)
        · rw [List.length_map, List.length_append, HNOE.out]
          show w5.ownsRow B 33 2 v5 (nO + 1) (rsL (lo ++ [r]))
          rw [rsL_append]
          exact ho
        · rw [eV]
          rcases hb with h | h
          · exact .inl (by rw [← h]; exact hk)
          · rw [h] at hk
            injection hk with hk
            exact .inr (by omega)
      have HFIN : Hid (∀ (w6 : World) (v5 : Value), TbR w X w6 B g b1 b2 b3 { s with th := upd s.th r (some (hh ++ [(ct, cm)], qq)), ow := upd s.ow ct (some (lo ++ [r])) } (setF (setTh V r (.slice A7 m1 c7) (.slice A2 n2 c2)) (.own ct) v5) (setF (setF V (.hold r) (.slice A7 m1 c7)) (.own ct) v5) (setF (setF (rowI s) (.hold r) ((hh ++ [(ct, cm)]).map cmP)) (.own ct) ((lo ++ [r]).map rsP)) → Tw w X g (holdI s r (ct, cm)) w6) := fun w6 v5 h =>
        hold_fin (c := (ct, cm)) HV2.out HQE.out HHE.out HLO.out HT.out h N1.out N2.out
      obtain ⟨i0, hi0, hz0, hz1, hz2⟩ := r_info
      go_upto_region 10 with fail
      refine wp_region_held_drew (S := fun wz => At wz g 61 (tabA b1 b2 b3) ∧ At wz b4 33 (rsA r) ∧ At wz (b4 + 1) 54 (cmA (ct, cm))) (by kernel_rfl) ⟨TR3.out.gt, A43.out, A53.out⟩ (fun hS => ?_)
      refine tk 0 hS ?_
      refine tk 1 hS ?_
      refine tk 2 hS ?_
      refine tk 3 hS ?_ (hy := by intro wz hz; have p0 : wz.cell? ⟨g, 1, none⟩ = some (.map (some b2)) := hz.1.cell 1; have p1 : wz.cell? ⟨b4 + 1, 0, none⟩ = some (.int .u64 (ct : Int)) := hz.2.2.cell 0; go_simp <;> with_reducible rfl)
      refine tk 4 hS ?_
      refine tk 5 hS ?_ (hy := by intro wz hz; have p0 : wz.cell? ⟨g, 1, none⟩ = some (.map (some b2)) := hz.1.cell 1; have p1 : wz.cell? ⟨b4 + 1, 0, none⟩ = some (.int .u64 (ct : Int)) := hz.2.2.cell 0; go_simp <;> with_reducible rfl)
      refine tk 6 hS ?_
      refine tk 7 hS ?_
      refine tk 8 hS ?_
      refine tk 9 hS ?_ (hy := by intro wz hz; have p0 : wz.cell? ⟨g, 1, none⟩ = some (.map (some b2)) := hz.1.cell 1; have p1 : wz.cell? ⟨b4 + 1, 0, none⟩ = some (.int .u64 (ct : Int)) := hz.2.2.cell 0; go_simp <;> with_reducible rfl)
      refine tk 10 hS ?_
      refine tk 11 hS ?_ (hy := by intro wz hz; have p0 : wz.cell? ⟨g, 1, none⟩ = some (.map (some b2)) := hz.1.cell 1; have p1 : wz.cell? ⟨b4 + 1, 0, none⟩ = some (.int .u64 (ct : Int)) := hz.2.2.cell 0; go_simp <;> with_reducible rfl)
      refine tk (v := .agg (rsA r)) 13 hS ?_ (hy := by intro wz hz; have p0 : wz.cell? ⟨g, 1, none⟩ = some (.map (some b2)) := hz.1.cell 1; have p1 : wz.cell? ⟨b4 + 1, 0, none⟩ = some (.int .u64 (ct : Int)) := hz.2.2.cell 0; exact exec_load_at 33 (.tmp 4) rfl b4 rfl _ 2 strR rfl hz.2.1)
      refine wpAnyH_ready (rs := [12, 14]) (by kernel_rfl) (by simp) ?_
      refine AllReadyH.cons rfl (fun K hK => ?_) (AllReadyH.cons rfl (fun K hK => ?_) AllReadyH.nil)
      · rw [if_pos (by rfl)]
        refine wp_look 58 rfl (.tmp 55) (.tmp 57) false rfl keyT_u64 Tryz.underlying58 nilS (zero_rr _) rfl TR3d.out.ms.m2 ct rfl HOT.out (.slice AO nO cO) HLK.out ?_
        refine hK.out _ _ (hS) (fun hT => ?_)
        clear hK hS
        have hS := hT
        clear hT
        refine wpAnyH_ready (rs := [14]) (by kernel_rfl) (by simp) ?_
        refine AllReadyH.cons rfl (fun K hK => ?_) AllReadyH.nil
        rw [if_pos (by rfl)]
        refine wp_lit1r 60 (.tmp 59) 40 33 2 (rsV (0, 0)) (rsA r) rfl rfl rfl Tryz.underlying40 (by kernel_rfl) (by omega) (by omega) rfl ?_
        refine hK.out _ _ (⟨hS.1.alloc _, hS.2.1.alloc _, hS.2.2.alloc _⟩) (fun hT => ?_)
        clear hK hS
        have hS := hT
        clear hT
        refine wpAnyH_ready (rs := [15]) (by kernel_rfl) (by simp) ?_
        refine AllReadyH.cons rfl (fun K hK => ?_) AllReadyH.nil
        rw [if_pos (by rfl)]
        refine wp_app2 61 rfl (.tmp 58) (.tmp 60) 40 rfl B 33 i0 _ 2 16 Tryz.underlying40 hi0 hz0 hz1 hz2 rfl (by omega) (.slice AO nO cO) nO (rsL lo) rfl HO4.out _ (some ⟨w9.heap.size, 0, none⟩) 1 1 (rsL [r]) rfl (lies_rs HA6.out) (rs_one1 r) (by omega) (by simp only [maxLen]; omega) (by omega) TR4.out.hB ?_
        intro v5 w5 ho5 hg5 hb5
        have TR5 := Lib.hid (HS5.out v5 w5 ho5 hg5 hb5)
        have KG := Lib.hid (show At w5 g 61 (tabA b1 b2 b3) ∧ At w5 b4 33 (rsA r) ∧ At w5 (b4 + 1) 54 (cmA (ct, cm)) from ⟨TR5.out.gt, hS.2.1.grown hg5 (HNO.out b4 (Nat.le_refl _)), hS.2.2.grown hg5 (HNO.out (b4 + 1) (Nat.le_succ _))⟩)
        clear ho5 hg5 hb5
        refine hK.out _ _ (KG.out) (fun hT => ?_)
        clear hK hS
        have hS := hT
        clear hT
        refine wpAnyH_ready (rs := [16]) (by kernel_rfl) (by simp) ?_
        refine AllReadyH.cons rfl (fun K hK => ?_) AllReadyH.nil
        rw [if_pos (by rfl)]
        refine wp_mapStore (.tmp 49) (.tmp 51) (.tmp 61) rfl rfl keyT_u64 Tryz.underlying58 rfl TR5.out.ms.m2 ct rfl HOT.out v5 rfl ?_
        intro w6 hm6 hg6
        have TR6 := Lib.hid (TR5.out.put2 ct (lo ++ [r]) v5 hm6 hg6)
        obtain ⟨es8, cl8, hes8, _⟩ := TR5.out.ms.m2
        have K9 := Lib.hid (show At w6 g 61 (tabA b1 b2 b3) ∧ At w6 b4 33 (rsA r) ∧ At w6 (b4 + 1) 54 (cmA (ct, cm)) from ⟨hS.1.grown hg6 (fun e => at_map hS.1 hes8 (Option.some.inj e)), hS.2.1.grown hg6 (fun e => at_map hS.2.1 hes8 (Option.some.inj e)), hS.2.2.grown hg6 (fun e => at_map hS.2.2 hes8 (Option.some.inj e))⟩)
        clear hm6 hg6 hes8
        refine hK.out _ _ (K9.out) (fun hT => ?_)
        clear hK hS
        have hS := hT
        clear hT
        refine wpAnyH_done (by kernel_rfl) ?_ _
        go_wp2_with fail
        go_end0
        exact ⟨rfl, HFIN.out w6 v5 TR6.out⟩
      · rw [if_pos (by rfl)]
        refine wp_lit1r 60 (.tmp 59) 40 33 2 (rsV (0, 0)) (rsA r) rfl rfl rfl Tryz.underlying40 (by kernel_rfl) (by omega) (by omega) rfl ?_
        refine hK.out _ _ (⟨hS.1.alloc _, hS.2.1.alloc _, hS.2.2.alloc _⟩) (fun hT => ?_)
        clear hK hS
        have hS := hT
        clear hT
        refine wpAnyH_ready (rs := [12]) (by kernel_rfl) (by simp) ?_
        refine AllReadyH.cons rfl (fun K hK => ?_) AllReadyH.nil
        rw [if_pos (by rfl)]
        refine wp_look 58 rfl (.tmp 55) (.tmp 57) false rfl keyT_u64 Tryz.underlying58 nilS (zero_rr _) rfl TR4.out.ms.m2 ct rfl HOT.out (.slice AO nO cO) HLK.out ?_
        refine hK.out _ _ (hS) (fun hT => ?_)
        clear hK hS
        have hS := hT
        clear hT
        refine wpAnyH_ready (rs := [15]) (by kernel_rfl) (by simp) ?_
        refine AllReadyH.cons rfl (fun K hK => ?_) AllReadyH.nil
        rw [if_pos (by rfl)]
        refine wp_app2 61 rfl (.tmp 58) (.tmp 60) 40 rfl B 33 i0 _ 2 16 Tryz.underlying40 hi0 hz0 hz1 hz2 rfl (by omega) (.slice AO nO cO) nO (rsL lo) rfl HO4.out _ (some ⟨w9.heap.size, 0, none⟩) 1 1 (rsL [r]) rfl (lies_rs HA6.out) (rs_one1 r) (by omega) (by simp only [maxLen]; omega) (by omega) TR4.out.hB ?_
        intro v5 w5 ho5 hg5 hb5
        have TR5 := Lib.hid (HS5.out v5 w5 ho5 hg5 hb5)
        have KG := Lib.hid (show At w5 g 61 (tabA b1 b2 b3) ∧ At w5 b4 33 (rsA r) ∧ At w5 (b4 + 1) 54 (cmA (ct, cm)) from ⟨TR5.out.gt, hS.2.1.grown hg5 (HNO.out b4 (Nat.le_refl _)), hS.2.2.grown hg5 (HNO.out (b4 + 1) (Nat.le_succ _))⟩)
        clear ho5 hg5 hb5
        refine hK.out _ _ (KG.out) (fun hT => ?_)
        clear hK hS
        have hS := hT
        clear hT
        refine wpAnyH_ready (rs := [16]) (by kernel_rfl) (by simp) ?_
        refine AllReadyH.cons rfl (fun K hK => ?_) AllReadyH.nil
        rw [if_pos (by rfl)]
        refine wp_mapStore (.tmp 49) (.tmp 51) (.tmp 61) rfl rfl keyT_u64 Tryz.underlying58 rfl TR5.out.ms.m2 ct rfl HOT.out v5 rfl ?_
        intro w6 hm6 hg6
        have TR6 := Lib.hid (TR5.out.put2 ct (lo ++ [r]) v5 hm6 hg6)
        obtain ⟨es8, cl8, hes8, _⟩ := TR5.out.ms.m2
        have K9 := Lib.hid (show At w6 g 61 (tabA b1 b2 b3) ∧ At w6 b4 33 (rsA r) ∧ At w6 (b4 + 1) 54 (cmA (ct, cm)) from ⟨hS.1.grown hg6 (fun e => at_map hS.1 hes8 (Option.some.inj e)), hS.2.1.grown hg6 (fun e => at_map hS.2.1 hes8 (Option.some.inj e)), hS.2.2.grown hg6 (fun e => at_map hS.2.2 hes8 (Option.some.inj e))⟩)
        clear hm6 hg6 hes8
        refine hK.out _ _ (K9.out) (fun hT => ?_)
        clear hK hS
        have hS := hT
        clear hT
        refine wpAnyH_done (by kernel_rfl) ?_ _
        go_wp2_with fail
        go_end0
        exact ⟨rfl, HFIN.out w6 v5 TR6.out⟩
theorem hold_any (X : Nat → Prop) (g : Nat) (s : TS) (r : Rs) (c : Cm) (w : World) (h : Tt w g s X) (hr : RsOk r) (ht : U64 c.1) (hs : SmS s 99999) :
    Calls Tryz.prog 44 #[.pointer (some ⟨g, 0, none⟩), .agg (rsA r), .agg (cmA c)] w fun e w' => e = .returned (.tuple #[]) ∧ Tw w X g (holdI s r c) w' := by
  cases hT : hasT (s.at r).1 c.1
  · exact hold_new X g s r c w h hr ht hs hT
  · exact hold_has X g s r c w h hr hs hT
end Go.Proofs.YthbifccankfngaaGreatDoor

/-
  The walk of Lock.
  Conditions: at most 99999 claims a row.
-/

namespace Go.Proofs.YthbifccankfngaaGreatDoor
open Go.RowKit Go.Shelf
attribute [local go_sem] Oper.semAt_some
set_option maxRecDepth 20000

theorem wp_exec {o : Oper} {a : Act} {w : World} {K : Act → World → Prop} {Q : Exit → Act → World → Prop} {v : Value} (d : Nat) (hd : o.dst = some d) (h : (execOp a.eval o).run Tryz.prog w = .ok (.value v) w) (hK : K (a.put (some d) v) w) : o.wp Tryz.prog a w K Q := by
  unfold Oper.wp
  rw [h]
  simp only [Oper.upon]
  rw [hd]
  exact hK
theorem Tw.of_below {w w' : World} {X : Nat → Prop} {g : Nat} {s : TS} (h : Tt w g s X) (hb : Below w.heap.size w w') : Tw w X g s w' := ⟨X, h.below hb, fun _ hk => .inl hk, Mod.of_below hb X⟩
theorem Tw.from {w w1 w' : World} {X : Nat → Prop} {g : Nat} {s : TS} (hb : Below w.heap.size w w1) (h : Tw w1 X g s w') : Tw w X g s w' := h.step (fun _ hk => .inl hk) (Mod.of_below hb X)
/-- The end of a call that turned one thing. -/
theorem th_fin {w0 w : World} {X : Nat → Prop} {B g b1 b2 b3 : Nat} {s s1 : TS} {V V' : RI → Value} {L : RI → List (Value × Value)} {r : Rs} {x : List Cm × List Cm} {vh vq : Value}
    (h : TbR w0 X w B g b1 b2 b3 s1 (setTh V r vh vq) V' L) (hth : s1.th = upd s.th r (some x)) (how : s1.ow = s.ow) (hV : ∀ i, V' i = setTh V r vh vq i) (hL : ∀ i, L i = setF (setF (rowI s) (.hold r) (x.1.map cmP)) (.queue r) (x.2.map cmP) i)
    (n1 : ∀ r, s.th r = none → V (.hold r) = nilS ∧ V (.queue r) = nilS) (n2 : ∀ t, s.ow t = none → V (.own t) = nilS) : Tw w0 X g s1 w := by
  refine h.fin (fun i => (hV i).symm) (fun i => ?_) (fun r' hr' => ?_) (fun t ht => ?_)
  · rw [hL i, ← row_hold]
    cases i with
    | hold r' => simp [rowI, TS.at, hth]
    | queue r' => simp [rowI, TS.at, hth]
    | own t => simp [rowI, how]
  · rw [hth] at hr'
    have e2 : r' ≠ r := by rintro rfl; simp [upd] at hr'
    have := n1 r' (by simpa [upd, e2] using hr')
    rw [setTh_h, setTh_q, if_neg e2, if_neg e2]
    exact this
  · rw [how] at ht
    rw [setTh_o]
    exact n2 t ht
theorem setTh_self (V : RI → Value) (r : Rs) (vq : Value) (i : RI) : setF V (.queue r) vq i = setTh V r (V (.hold r)) vq i := by
  cases i with
  | hold r' =>
    rw [setTh_h, setF_ne _ _ (by intro e; cases e)]
    by_cases h : r' = r
    · subst h; rw [if_pos rfl]
    · rw [if_neg h]
  | queue r' =>
    rw [setTh_q]
    by_cases h : r' = r
    · subst h; rw [if_pos rfl, setF_same]
    · rw [if_neg h, setF_ne _ _ (by intro e; injection e with e; exact h e)]
  | own t => rw [setTh_o, setF_ne _ _ (by intro e; cases e)]
theorem row_self (s : TS) (r : Rs) (q : List (Value × Value)) (i : RI) : setF (rowI s) (.queue r) q i = setF (setF (rowI s) (.hold r) ((s.at r).1.map cmP)) (.queue r) q i := by
  by_cases e : i = .queue r
  · subst e; rw [setF_same, setF_same]
  · rw [setF_ne _ _ e, setF_ne _ _ e, setF_self]
    rfl
theorem below_dn (w : World) (n : Nat) : Below w.heap.size w (w.drewN n) := ⟨rfl, rfl, rfl, Nat.le_refl _, fun _ _ => rfl⟩
theorem lockI_mode {s : TS} {t : Nat} {r : Rs} {m : Int} (h : m < 1 ∨ 5 < m) : lockI s t r m = (s, 14) := by unfold lockI; rw [if_pos h]
theorem lockI_state {s : TS} {t : Nat} {r : Rs} {m : Int} (h : ¬ (m < 1 ∨ 5 < m)) (h2 : (s.wt t).isSome = true) : lockI s t r m = (s, 10) := by unfold lockI; rw [if_neg h, if_pos h2]
theorem lockI_same {s : TS} {t : Nat} {r : Rs} {m : Int} (h : ¬ (m < 1 ∨ 5 < m)) (h2 : s.wt t = none) (h3 : jn (heldI (s.at r).1 t) m = heldI (s.at r).1 t) : lockI s t r m = (s, 0) := by unfold lockI; rw [if_neg h, h2, if_neg (by simp), if_pos h3]
theorem lockI_ok {s : TS} {t : Nat} {r : Rs} {m : Int} (h : ¬ (m < 1 ∨ 5 < m)) (h2 : s.wt t = none) (h3 : jn (heldI (s.at r).1 t) m ≠ heldI (s.at r).1 t) (h4 : (admI (s.at r).1 (t, jn (heldI (s.at r).1 t) m) && (heldI (s.at r).1 t != 0 || (s.at r).2.isEmpty)) = true) :
    lockI s t r m = (holdI s r (t, jn (heldI (s.at r).1 t) m), 0) := by unfold lockI; rw [if_neg h, h2, if_neg (by simp), if_neg h3, if_pos h4]
theorem lockI_wait {s : TS} {t : Nat} {r : Rs} {m : Int} (h : ¬ (m < 1 ∨ 5 < m)) (h2 : s.wt t = none) (h3 : jn (heldI (s.at r).1 t) m ≠ heldI (s.at r).1 t) (h4 : (admI (s.at r).1 (t, jn (heldI (s.at r).1 t) m) && (heldI (s.at r).1 t != 0 || (s.at r).2.isEmpty)) = false) :
    lockI s t r m = ({ s with th := upd s.th r (some ((s.at r).1, (s.at r).2.insertIdx (placeI (s.at r).1 (s.at r).2 t) (t, jn (heldI (s.at r).1 t) m))), wt := upd s.wt t (some r) }, 12) := by
  unfold lockI; rw [if_neg h, h2, if_neg (by simp), if_neg h3, if_neg (by rw [h4]; simp)]
def LockR (w : World) (X : Nat → Prop) (g : Nat) (p : TS × Int) (e : Ending) (w' : World) : Prop := e = .returned (.int .i64 p.2) ∧ Tw w X g p.1 w'
set_option maxHeartbeats 800000 in
theorem lock_mode (X : Nat → Prop) (g : Nat) (s : TS) (t : Nat) (r : Rs) (m : Int) (w : World) (h : Tt w g s X) (hm : m < 1 ∨ 5 < m) :
    Calls Tryz.prog 18 #[.pointer (some ⟨g, 0, none⟩), .int .u64 (t : Int), .agg (rsA r), .int .i64 m] w (LockR w X g (lockI s t r m)) := by
  rw [lockI_mode hm]
  have HF := Lib.hid (Tw.of_below h ((Below.refl _ w).alloc (Nat.le_refl _) (.cells (rsA r) 33)))
  clear h
  by_cases h1 : m < 1
  · have e1 : decide (m < 1) = true := by simpa using h1
    clear hm
    go_enter Tryz.func18, Tryz.ntmps18
    go_wp2_with fail
    go_ret
    exact ⟨rfl, HF.out⟩
  · have h5 : 5 < m := by omega
    have e1 : decide (m < 1) = false := by simpa using h1
    have e2 : decide (5 < m) = true := by simpa using h5
    clear hm
    go_enter Tryz.func18, Tryz.ntmps18
    go_wp2_with fail
    go_ret
    exact ⟨rfl, HF.out⟩
set_option maxHeartbeats 800000 in
theorem lock_state (X : Nat → Prop) (g : Nat) (s : TS) (t : Nat) (r : Rs) (m : Int) (w : World) (h : Tt w g s X) (ht : U64 t) (hm : ¬ (m < 1 ∨ 5 < m)) (hw : (s.wt t).isSome = true) :
    Calls Tryz.prog 18 #[.pointer (some ⟨g, 0, none⟩), .int .u64 (t : Int), .agg (rsA r), .int .i64 m] w (LockR w X g (lockI s t r m)) := by
  rw [lockI_state hm hw]
  obtain ⟨B, b1, b2, b3, V, hv, _⟩ := h.ex
  obtain ⟨z, hz⟩ : ∃ z, w.alloc (.cells (rsA r) 33) = z := ⟨_, rfl⟩
  have hbel : Below w.heap.size w z := hz ▸ (Below.refl _ w).alloc (Nat.le_refl _) _
  have TB := Lib.hid (hv.below hbel)
  obtain ⟨o, ho⟩ : ∃ o, s.wt t = o := ⟨_, rfl⟩
  rw [ho] at hw
  have HF := Lib.hid (Tw.of_below h (hbel.alloc hbel.size (.cells (wtV o) 33)))
  have p0 : z.cell? ⟨g, 2, none⟩ = some (.map (some b3)) := TB.out.cell3
  have HO := Lib.hid ho
  have HT := Lib.hid ht
  have e1 : decide (m < 1) = false := by simp; omega
  have e2 : decide (5 < m) = false := by simp; omega
  clear h hv hbel ho ht hm
  go_enter Tryz.func18, Tryz.ntmps18
  go_upto_region 4 with (first
    | refine wpList_look rfl 26 rfl (.tmp 24) (.tmp 25) true rfl keyT_u64 Tryz.underlying59 (rsV (0, 0)) (zero_res _) rfl TB.out.ms.m3 t rfl HT.out (.tuple #[.agg (wtV o), .bool o.isSome]) (by show lookV _ ((s.wt t).map rsV) true = _; rw [HO.out, wtV_look]) ?_
    | refine wpList_store_new 33 (.tmp 9) (.tmp 27) rfl rfl rfl _ z rfl rfl (wtV o) (rsA (0, 0)) 2 rfl strR rfl rfl (wtV_one _) rfl ?_)
  clear hz p0
  go_wp2_with fail
  go_ret
  exact ⟨rfl, HF.out⟩
set_option maxHeartbeats 6400000 in
theorem lock_go (X : Nat → Prop) (g : Nat) (s : TS) (t : Nat) (r : Rs) (m : Int) (w : World) (h : Tt w g s X) (hT : Tab w) (hr : RsOk r) (ht : U64 t) (hs : SmS s 99999) (hm : ¬ (m < 1 ∨ 5 < m)) (hw : s.wt t = none) :
    Calls Tryz.prog 18 #[.pointer (some ⟨g, 0, none⟩), .int .u64 (t : Int), .agg (rsA r), .int .i64 m] w (LockR w X g (lockI s t r m)) := by
  obtain ⟨B, b1, b2, b3, V, hv, hB, hx⟩ := h.ex
  obtain ⟨A1, c1, hv1, ho1⟩ := hv.holdR r
  obtain ⟨A2, c2, hv2, ho2⟩ := hv.queueR r
  have hn1 := (hs.1 r).1
  have hn2 := (hs.1 r).2
  obtain ⟨hh, hhe⟩ : ∃ hh, (s.at r).1 = hh := ⟨_, rfl⟩
  obtain ⟨qq, hqe⟩ : ∃ qq, (s.at r).2 = qq := ⟨_, rfl⟩
  obtain ⟨n1, hn1e⟩ : ∃ n1, hh.length = n1 := ⟨_, rfl⟩
  obtain ⟨n2, hn2e⟩ : ∃ n2, qq.length = n2 := ⟨_, rfl⟩
  obtain ⟨hv0, hv0e⟩ : ∃ hv0, heldI hh t = hv0 := ⟨_, rfl⟩
  obtain ⟨J, hJ⟩ : ∃ J, jn hv0 m = J := ⟨_, rfl⟩
  obtain ⟨LK, hLK⟩ : ∃ LK, lockI s t r m = LK := ⟨_, rfl⟩
  rw [hLK]
  rw [hhe] at ho1 hv1 hn1
  rw [hqe] at hv2 ho2 hn2
  have hl := own_lz ho1
  have hq := own_lz ho2
  rw [hn1e] at ho1 hl hv1 hn1
  rw [hn2e] at ho2 hq hv2 hn2
  obtain ⟨b6, hb6⟩ : ∃ b6, w.heap.size = b6 := ⟨_, rfl⟩
  obtain ⟨z, hz⟩ : ∃ z, w.alloc (.cells (rsA r) 33) = z := ⟨_, rfl⟩
  have hbel : Below w.heap.size w z := hz ▸ (Below.refl _ w).alloc (Nat.le_refl _) _
  have hbel3 : Below w.heap.size w (z.alloc (.cells (wtV none) 33)) := hbel.alloc hbel.size _
  have HB3 := Lib.hid hbel3
  have TB := Lib.hid (hv.below hbel)
  have TB3 := Lib.hid (hv.below hbel3)
  have TR0 : Hid (TbR w X (z.alloc (.cells (wtV none) 33)) B g b1 b2 b3 s V V (rowI s)) := (TbR.start hv hB hx).below hbel3
  have TT3 := Lib.hid (h.below hbel3)
  have HTAB := Lib.hid (tab_below hT hbel3)
  have A6 : Hid (At (z.alloc (.cells (wtV none) 33)) b6 33 (rsA r)) := by
    have := (At.new w 33 (rsA r))
    rw [hz, hb6] at this
    exact this.alloc _
  have HL := Lib.hid (hl.below hbel3)
  have HQ := Lib.hid (hq.below hbel3)
  have HNQ : Hid (∀ k, b6 ≤ k → (Value.slice A2 n2 c2).ownBlock ≠ some k) := fun k hk e => by
    have := (ho2.lt k e).2
    omega
  have p0 : z.cell? ⟨g, 2, none⟩ = some (.map (some b3)) := TB.out.cell3
  have HV1 := Lib.hid hv1
  have HV2 := Lib.hid hv2
  have HO2 := Lib.hid ho2
  have HOK := Lib.hid hr
  have HOT := Lib.hid ht
  have N1 := Lib.hid hv.n1
  have N2 := Lib.hid hv.n2
  have HHE := Lib.hid hhe
  have HQE := Lib.hid hqe
  have HN1E := Lib.hid hn1e
  have HN2E := Lib.hid hn2e
  have HV0 := Lib.hid hv0e
  have HJ := Lib.hid hJ
  have HLK := Lib.hid hLK
  have HB6 := Lib.hid hb6
  have HM := Lib.hid hm
  have HW := Lib.hid hw
  have HS := Lib.hid hs
  have e1 : decide (m < 1) = false := by simp; omega
  have e2 : decide (5 < m) = false := by simp; omega
  clear h hv hB hx ho1 ho2 hv1 hv2 hl hq hr ht hs hn2e hn1e hhe hqe hv0e hJ hLK hbel hbel3 hb6 hT hm hw
  go_enter Tryz.func18, Tryz.ntmps18
  go_upto_region 4 with (first
    | refine wpList_look rfl 26 rfl (.tmp 24) (.tmp 25) true rfl keyT_u64 Tryz.underlying59 (rsV (0, 0)) (zero_res _) rfl TB.out.ms.m3 t rfl HOT.out (.tuple #[.agg (wtV none), .bool false]) (by show lookV _ ((s.wt t).map rsV) true = _; rw [HW.out, wtV_look]; rfl) ?_
    | refine wpList_store_new 33 (.tmp 9) (.tmp 27) rfl rfl rfl _ z rfl rfl (wtV none) (rsA (0, 0)) 2 rfl strR rfl rfl (wtV_one _) rfl ?_)
  rw [HB6.out]
  clear hz p0
  generalize z.alloc (.cells (wtV none) 33) = z3 at HB3 TB3 TR0 TT3 HTAB A6 HL HQ ⊢
  generalize z.heap.size = b9
  go_upto_region 6 with fail
  refine wp_region_held_drew (S := Below z3.heap.size z3) (by kernel_rfl) ((Below.refl _ z3).drew) (fun hS => ?_)
  refine tk 0 hS ?_
  refine tk 1 hS ?_
  refine tk 2 hS ?_
  refine tk 3 hS ?_ (hy := by intro wz hz; have p0 : wz.cell? ⟨g, 0, none⟩ = some (.map (some b1)) := (TB3.out.below hz).cell1; go_simp <;> with_reducible rfl)
  refine tk (v := rsV r) 4 hS ?_ (hy := by intro wz hz; have p0 : wz.cell? ⟨g, 0, none⟩ = some (.map (some b1)) := (TB3.out.below hz).cell1; exact exec_load_at 33 (.tmp 6) rfl b6 rfl _ 2 strR rfl (A6.out.under hz A6.out.lt))
  refine tk (v := thV (.slice A1 n1 c1) (.slice A2 n2 c2)) 5 hS ?_ (hy := by intro wz hz; have p0 : wz.cell? ⟨g, 0, none⟩ = some (.map (some b1)) := (TB3.out.below hz).cell1; exact exec_look (.tmp 33) (.tmp 34) false rfl keyT_res Tryz.underlying57 (thV nilS nilS) zero_th rfl (TB3.out.below hz).ms.m1 r rfl HOK.out _ (by rw [(TB3.out.below hz).look1, HV1.out, HV2.out]))
  refine wpAnyH_ready (rs := [6]) (by kernel_rfl) (by simp) ?_
  refine AllReadyH.cons rfl (fun K hK => ?_) AllReadyH.nil
  go_simp
  refine hK.out _ _ (((Below.refl _ z3).drew).alloc (Nat.le_refl _) _) (fun hT => ?_)
  clear hK hS
  have hS := hT
  clear hT
  refine wpAnyH_ready (rs := [7]) (by kernel_rfl) (by simp) ?_
  refine AllReadyH.cons rfl (fun K hK => ?_) AllReadyH.nil
  rw [if_pos (by rfl)]
  refine wp_store_at 79 (.tmp 11) (.tmp 35) rfl rfl z3.heap.size rfl (thA (.slice A1 n1 c1) (.slice A2 n2 c2)) (thA nilS nilS) 2 rfl strTh rfl rfl (thA_one _ _ _ _ _ _) (At.new z3.drew 79 (thA nilS nilS)) ?_
  intro w9 ha9 hg9
  have A6X := Lib.hid ha9
  have HB9 := Lib.hid (show Below z3.heap.size z3 w9 from (((Below.refl _ z3).drew).alloc (Nat.le_refl _) (.cells (thA nilS nilS) 79)).grown hg9 (by simp [World.alloc]) (fun k hk => by injection hk with hk; subst hk; exact Nat.le_refl _))
  clear ha9 hg9
  refine hK.out _ _ (HB9.out) (fun hT => ?_)
  clear hK hS
  have hS := hT
  clear hT
  refine wpAnyH_done (by kernel_rfl) ?_ _
  clear hS
  have hbx : z3.heap.size < w9.heap.size := A6X.out.lt
  have hb63 : b6 < z3.heap.size := A6.out.lt
  obtain ⟨bx, hbe⟩ : ∃ bx, z3.heap.size = bx := ⟨_, rfl⟩
  rw [hbe] at A6X hbx hb63 ⊢
  have HBE := Lib.hid hbe
  clear hbe
  go_wp2_with (first | refine wpList_load_at 79 36 (.tmp 11) rfl rfl rfl bx rfl _ 2 strTh rfl A6X.out ?_)
  refine (held_any _ A1 n1 c1 hh (.slice A2 n2 c2) t w9 (HL.out.below HB9.out) (by omega)).mono ?_
  rintro e z7 ⟨rfl, hb7⟩
  rw [HV0.out]
  have HB7 := Lib.hid (HB9.out.trans (hb7.mono HB9.out.size))
  have AX7 := Lib.hid (A6X.out.under hb7 A6X.out.lt)
  clear hb7
  go_wp2_with fail
  refine (jn_any hv0 m z7 (tab_below HTAB.out HB7.out)).mono ?_
  rintro e z8 ⟨rfl, n8, hz8⟩
  rw [HJ.out]
  have HB8 := Lib.hid (show Below z3.heap.size z3 z8 from hz8 ▸ HB7.out.trans ((below_dn z7 n8).mono HB7.out.size))
  have AX8 := Lib.hid (show At z8 bx 79 (thA (.slice A1 n1 c1) (.slice A2 n2 c2)) from hz8 ▸ AX7.out.under (below_dn z7 n8) AX7.out.lt)
  clear hz8
  have HBC := Lib.hid (HB8.out.alloc HB8.out.size (.cells (cmA (t, J)) 54))
  have AXC := Lib.hid (AX8.out.alloc (.cells (cmA (t, J)) 54))
  have ACC := Lib.hid (At.new z8 54 (cmA (t, J)))
  have hbcx : bx < z8.heap.size := AX8.out.lt
  go_upto_region 9 with (first | refine wpList_store_new 54 (.tmp 13) (.tmp 43) rfl rfl rfl _ z8 rfl rfl (cmA (t, J)) zC 2 rfl strC rfl rfl (cmA_one _) rfl ?_)
  generalize z8.alloc (.cells (cmA (t, J)) 54) = zc at HBC AXC ACC ⊢
  generalize z8.heap.size = bc at ACC hbcx ⊢
  have d1 : zc.cell? ⟨bc, 1, none⟩ = some (.int .i64 J) := ACC.out.cell 1
  by_cases hJv : J = hv0
  · have e3 : (J == hv0) = true := by simp [hJv]
    have HJV := Lib.hid hJv
    clear hJv
    go_wp2_with fail
    go_ret
    have hfin := lockI_same (s := s) (r := r) (t := t) HM.out HW.out (by rw [HHE.out, HV0.out, HJ.out]; exact HJV.out)
    rw [HLK.out] at hfin
    exact ⟨by rw [hfin]; rfl, by rw [hfin]; exact (Tw.of_below TT3.out HBC.out).from HB3.out⟩
  · have e3 : (J == hv0) = false := by simpa using hJv
    have HJV := Lib.hid hJv
    clear hJv
    go_upto_region 11 with fail
    clear d1
    obtain ⟨cd, hcd⟩ : ∃ cd, (admI hh (t, J) && (hv0 != 0 || qq.isEmpty)) = cd := ⟨_, rfl⟩
    have HCD := Lib.hid hcd
    have HQE2 : Hid (qq.isEmpty = decide (n2 = 0)) := by
      show _ = _
      rw [← HN2E.out]
      cases qq <;> simp
    clear hcd
    go_cut [60] from 48 to 61 (fun s60 wx => s60 = .bool cd ∧ Hid (Below zc.heap.size zc wx))
    case first =>
      go_wp2_with (first
        | refine wpList_load_at 79 48 (.tmp 11) rfl rfl rfl bx rfl _ 2 strTh rfl AXC.out ?_
        | refine wpList_load_at 54 49 (.tmp 13) rfl rfl rfl bc rfl _ 2 strC rfl ACC.out ?_)
      refine (admits_any _ A1 n1 c1 hh (.slice A2 n2 c2) (t, J) zc (tab_below HTAB.out HBC.out) (HL.out.below HBC.out) (by omega)).mono ?_
      rintro e zd ⟨rfl, hbd⟩
      have HBD := Lib.hid hbd
      have AXD := Lib.hid (AXC.out.under hbd AXC.out.lt)
      have d2 : zd.cell? ⟨bx, 1, none⟩ = some (.slice A2 n2 c2) := AXD.out.cell 1
      clear hbd
      cases had : admI hh (t, J)
      · have hc : cd = false := by rw [← HCD.out, had]; rfl
        subst hc
        go_wp2_with fail
        go_meet
        exact ⟨rfl, HBD⟩
      · cases hv2 : (hv0 != 0)
        · by_cases hq0 : n2 = 0
          · have hc : cd = true := by rw [← HCD.out, had, hv2, HQE2.out]; simp [hq0]
            have e4 : ((n2 : Int) == 0) = true := by simp [hq0]
            subst hc
            clear hq0
            go_wp2_with fail
            go_meet
            exact ⟨rfl, HBD⟩
          · have hc : cd = false := by rw [← HCD.out, had, hv2, HQE2.out]; simp [hq0]
            have e4 : ((n2 : Int) == 0) = false := by simp [hq0]
            subst hc
            clear hq0
            go_wp2_with fail
            go_meet
            exact ⟨rfl, HBD⟩
        · have hc : cd = true := by rw [← HCD.out, had, hv2]; rfl
          subst hc
          go_wp2_with fail
          go_meet
          exact ⟨rfl, HBD⟩
    obtain ⟨rfl, HC⟩ := hcut
    have HBX := Lib.hid (HBC.out.trans (HC.out.mono HBC.out.size))
    have A6D := Lib.hid (A6.out.under HBX.out A6.out.lt)
    have AC6 := Lib.hid (ACC.out.under HC.out ACC.out.lt)
    have AXX := Lib.hid (AXC.out.under HC.out AXC.out.lt)
    cases cd
    · go_upto_region 14 with fail
      have HBXW := Lib.hid (HB3.out.trans (HBX.out.mono HB3.out.size))
      have TRX := Lib.hid (TR0.out.below HBX.out)
      have AXD := Lib.hid (show At wc.drew bx 79 (thA (.slice A1 n1 c1) (.slice A2 n2 c2)) from AXX.out)
      have HPL : Hid (∀ W, Below wc.heap.size wc W → Calls Tryz.prog 46 #[.agg (thA (.slice A1 n1 c1) (.slice A2 n2 c2)), .agg (cmA (t, J))] W (RetB W (.int .i64 ((placeI hh qq t : Nat) : Int)))) := fun W hW =>
        place_any _ A1 n1 c1 hh A2 n2 c2 qq (t, J) W ((HL.out.below HBX.out).below hW) ((HQ.out.below HBX.out).below hW) (by omega) (by omega)
      obtain ⟨pl, hpl⟩ : ∃ pl, placeI hh qq t = pl := ⟨_, rfl⟩
      have hple : pl ≤ n2 := by
        rw [← hpl, ← HN2E.out]
        unfold placeI
        split
        · exact Nat.le_refl _
        · exact (List.takeWhile_sublist _).length_le
      rw [hpl] at HPL
      have HPLE := Lib.hid hpl
      have HIN : Hid (∀ W, Below wc.heap.size wc W → Calls Tryz.prog 45 #[.pointer (some ⟨bx, 1, none⟩), .int .i64 (pl : Int), .agg (cmA (t, J))] W (InR B bx 1 (thA (.slice A1 n1 c1) (.slice A2 n2 c2)) (.slice A2 n2 c2) (qq.insertIdx pl (t, J)) W)) := fun W hW => by
        have hbw : Below w.heap.size w W := HBXW.out.trans (hW.mono HBXW.out.size)
        exact insert_any B (.slice A2 n2 c2) qq W (by rw [HN2E.out]; exact HO2.out.kept (grown_below hbw) (by cases A2 <;> first | exact .inl rfl | exact .inr (by simp [Value.ownBlock]))) (by rw [HN2E.out]; omega) (Nat.le_trans TRX.out.hB hW.size) pl (by rw [HN2E.out]; exact hple) (t, J) bx 1 _ (AXX.out.under hW AXX.out.lt) rfl
      have NBC : Hid (¬ (bc = bx ∨ (Value.slice A2 n2 c2).ownBlock = some bc)) := by
        rintro (h | h)
        · omega
        · exact HNQ.out bc (by omega) h
      clear hpl hple
      refine wp_region_held_drew (S := fun wz => At wz bc 54 (cmA (t, J))) (by kernel_rfl) (AC6.out.grown (grown_drew1 wc none) (by simp)) (fun hS => ?_)
      refine tk 0 hS ?_
      refine tk (v := .agg (cmA (t, J))) 2 hS ?_ (hy := by intro wz hz; exact exec_load_at 54 (.tmp 13) rfl bc rfl _ 2 strC rfl hz)
      refine tk (v := .agg (cmA (t, J))) 4 hS ?_ (hy := by intro wz hz; exact exec_load_at 54 (.tmp 13) rfl bc rfl _ 2 strC rfl hz)
      refine wpAnyH_ready (rs := [1]) (by kernel_rfl) (by simp) ?_
      refine AllReadyH.cons rfl (fun K hK => ?_) AllReadyH.nil
      rw [if_pos (by rfl)]
      refine wp_exec 66 rfl (exec_load_at 79 (.tmp 11) rfl bx rfl (thA (.slice A1 n1 c1) (.slice A2 n2 c2)) 2 strTh rfl AXD.out) ?_
      refine hK.out _ _ (hS) (fun hT => ?_)
      clear hK hS
      have hS := hT
      clear hT
      refine wpAnyH_ready (rs := [3]) (by kernel_rfl) (by simp) ?_
      refine AllReadyH.cons rfl (fun K hK => ?_) AllReadyH.nil
      go_simp
      refine (HPL.out _ ((Below.refl _ wc).drew)).mono ?_
      rintro e y3 ⟨rfl, hb3⟩
      have B3 := Lib.hid (show Below wc.heap.size wc y3 from ((Below.refl _ wc).drew).trans hb3)
      have AC3 := Lib.hid (AC6.out.under B3.out AC6.out.lt)
      clear hb3
      refine hK.out _ _ (AC3.out) (fun hT => ?_)
      clear hK hS
      have hS := hT
      clear hT
      refine wpAnyH_ready (rs := [5]) (by kernel_rfl) (by simp) ?_
      refine AllReadyH.cons rfl (fun K hK => ?_) AllReadyH.nil
      go_simp
      refine (HIN.out _ B3.out).mono ?_
      rintro e w2 ⟨rfl, v8, ho8, hv8, ha8, hm8⟩
      have AC8 := Lib.hid (show At w2 bc 54 (cmA (t, J)) from (hm8.block bc AC3.out.lt (NBC.out)).trans AC3.out)
      refine hK.out _ _ (AC8.out) (fun hT => ?_)
      clear hK hS
      have hS := hT
      clear hT
      refine wpAnyH_done (by kernel_rfl) ?_ _
      obtain ⟨A8, c8, hv8e, _⟩ := pl_own_slice ho8
      obtain ⟨q8, hq8⟩ : ∃ q8, qq.insertIdx pl (t, J) = q8 := ⟨_, rfl⟩
      rw [hq8] at ho8 hv8e
      obtain ⟨m8, hm8l⟩ : ∃ m8, q8.length = m8 := ⟨_, rfl⟩
      rw [hm8l] at ho8 hv8e
      subst hv8e
      have TR3b := Lib.hid (TRX.out.below B3.out)
      have hY : ∀ k, (k = bx ∨ (Value.slice A2 n2 c2).ownBlock = some k) → (V (.queue r)).ownBlock = some k ∨ (¬ TbX g b1 b2 b3 V k ∧ w.heap.size ≤ k) := by
        rintro k (rfl | hk)
        · exact .inr ⟨TR3b.out.box_ne (AXX.out.under B3.out AXX.out.lt) ⟨by decide, by decide, by decide⟩, by rw [HB6.out]; omega⟩
        · exact .inl (by rw [HV2.out]; exact hk)
      have TR2 := Lib.hid (TR3b.out.rowM (.queue r) hm8 hY (v := .slice A8 m8 c8) (l := q8.map cmP) (by rw [List.length_map, hm8l]; exact ho8) (fun k hk => by rw [HV2.out]; exact hv8 k hk))
      have A62 : Hid (At w2 b6 33 (rsA r)) := (hm8.block b6 (A6D.out.under B3.out A6D.out.lt).lt (by
        rintro (h | h)
        · omega
        · exact HNQ.out b6 (Nat.le_refl _) h)).trans (A6D.out.under B3.out A6D.out.lt)
      have AX2 : Hid (At w2 bx 79 (thA (.slice A1 n1 c1) (.slice A8 m8 c8))) := ha8
      have HQ8 := Lib.hid hq8
      clear hS ho8 hv8 ha8 hm8 hY hm8l hq8
      go_upto_region 15 with fail
      have hS0 : At w2.drew g 61 (tabA b1 b2 b3) ∧ At w2.drew b6 33 (rsA r) ∧ At w2.drew bx 79 (thA (.slice A1 n1 c1) (.slice A8 m8 c8)) := ⟨TR2.out.gt, A62.out, AX2.out⟩
      refine wp_region_held_drew (S := fun wz => At wz g 61 (tabA b1 b2 b3) ∧ At wz b6 33 (rsA r) ∧ At wz bx 79 (thA (.slice A1 n1 c1) (.slice A8 m8 c8))) (by kernel_rfl) hS0 (fun hS => ?_)
      refine tk 0 hS ?_
      refine tk 1 hS ?_
      refine tk 2 hS ?_
      refine tk 3 hS ?_ (hy := by intro wz hz; have p0 : wz.cell? ⟨g, 0, none⟩ = some (.map (some b1)) := hz.1.cell 0; go_simp <;> with_reducible rfl)
      refine tk (v := rsV r) 4 hS ?_ (hy := by intro wz hz; have p0 : wz.cell? ⟨g, 0, none⟩ = some (.map (some b1)) := hz.1.cell 0; exact exec_load_at 33 (.tmp 6) rfl b6 rfl _ 2 strR rfl hz.2.1)
      refine tk (v := .agg (thA (.slice A1 n1 c1) (.slice A8 m8 c8))) 5 hS ?_ (hy := by intro wz hz; have p0 : wz.cell? ⟨g, 0, none⟩ = some (.map (some b1)) := hz.1.cell 0; exact exec_load_at 79 (.tmp 11) rfl bx rfl (thA (.slice A1 n1 c1) (.slice A8 m8 c8)) 2 strTh rfl hz.2.2)
      refine wpAnyH_ready (rs := [6]) (by kernel_rfl) (by simp) ?_
      refine AllReadyH.cons rfl (fun K hK => ?_) AllReadyH.nil
      rw [if_pos (by rfl)]
      refine wp_mapStore (.tmp 74) (.tmp 75) (.tmp 76) rfl rfl keyT_res Tryz.underlying57 rfl (TR2.out.below ((Below.refl _ w2).drew)).ms.m1 r rfl HOK.out (thV (.slice A1 n1 c1) (.slice A8 m8 c8)) rfl ?_
      intro w9 hm9 hg9
      have TR3 := Lib.hid ((TR2.out.below ((Below.refl _ w2).drew)).put1 r ((hh, q8)) (.slice A1 n1 c1) (.slice A8 m8 c8) hm9 hg9)
      have ngm := TR2.out.ms.m1
      obtain ⟨es9, cl9, hes9, _⟩ := ngm
      have hS9 : At w9 g 61 (tabA b1 b2 b3) ∧ At w9 b6 33 (rsA r) ∧ At w9 bx 79 (thA (.slice A1 n1 c1) (.slice A8 m8 c8)) := ⟨hS0.1.grown hg9 (fun e => at_map TR2.out.gt hes9 (Option.some.inj e)), hS0.2.1.grown hg9 (fun e => at_map A62.out hes9 (Option.some.inj e)), hS0.2.2.grown hg9 (fun e => at_map AX2.out hes9 (Option.some.inj e))⟩
      clear hm9 hes9
      refine hK.out _ _ (hS9) (fun hT => ?_)
      clear hK hS
      have hS := hT
      clear hT
      refine wpAnyH_done (by kernel_rfl) ?_ _
      obtain ⟨w3, hw3⟩ : ∃ w3, w3 = w9 := ⟨_, rfl⟩
      subst hw3
      have A63 := Lib.hid hS9.2.1
      clear hS hS9 hg9 hS0
      go_upto_region 16 with fail
      have hS0 : At w3.drew g 61 (tabA b1 b2 b3) ∧ At w3.drew b6 33 (rsA r) := ⟨TR3.out.gt, A63.out⟩
      refine wp_region_held_drew (S := fun wz => At wz g 61 (tabA b1 b2 b3) ∧ At wz b6 33 (rsA r)) (by kernel_rfl) hS0 (fun hS => ?_)
      refine tk 0 hS ?_
      refine tk 1 hS ?_
      refine tk 2 hS ?_
      refine tk 3 hS ?_ (hy := by intro wz hz; have p0 : wz.cell? ⟨g, 2, none⟩ = some (.map (some b3)) := hz.1.cell 2; go_simp <;> with_reducible rfl)
      refine tk 4 hS ?_
      refine tk (v := rsV r) 5 hS ?_ (hy := by intro wz hz; have p0 : wz.cell? ⟨g, 2, none⟩ = some (.map (some b3)) := hz.1.cell 2; exact exec_load_at 33 (.tmp 6) rfl b6 rfl _ 2 strR rfl hz.2)
      refine wpAnyH_ready (rs := [6]) (by kernel_rfl) (by simp) ?_
      refine AllReadyH.cons rfl (fun K hK => ?_) AllReadyH.nil
      rw [if_pos (by rfl)]
      refine wp_mapStore (.tmp 80) (.tmp 81) (.tmp 82) rfl rfl keyT_u64 Tryz.underlying59 rfl (TR3.out.below ((Below.refl _ w3).drew)).ms.m3 t rfl HOT.out (rsV r) rfl ?_
      intro w9 hm9 hg9
      have TR4 := Lib.hid ((TR3.out.below ((Below.refl _ w3).drew)).put3 t (some r) hm9 hg9)
      have ngm := TR3.out.ms.m3
      obtain ⟨es9, cl9, hes9, _⟩ := ngm
      have hS9 : At w9 g 61 (tabA b1 b2 b3) ∧ At w9 b6 33 (rsA r) := ⟨hS0.1.grown hg9 (fun e => at_map TR3.out.gt hes9 (Option.some.inj e)), hS0.2.grown hg9 (fun e => at_map A63.out hes9 (Option.some.inj e))⟩
      clear hm9 hes9
      refine hK.out _ _ (hS9) (fun hT => ?_)
      clear hK hS
      have hS := hT
      clear hT
      refine wpAnyH_done (by kernel_rfl) ?_ _
      have TR5 := Lib.hid TR4.out
      clear hS hS9 hg9 hS0
      go_wp2_with fail
      go_ret
      have hfin := lockI_wait (s := s) (r := r) (t := t) HM.out HW.out (by rw [HHE.out, HV0.out, HJ.out]; exact HJV.out) (by rw [HHE.out, HV0.out, HJ.out, HQE.out]; exact HCD.out)
      rw [HLK.out, HHE.out, HV0.out, HJ.out, HQE.out, HPLE.out, HQ8.out] at hfin
      refine ⟨by rw [hfin]; rfl, ?_⟩
      rw [hfin]
      refine th_fin (s := s) (x := (hh, q8)) TR5.out rfl rfl (fun i => ?_) (fun i => ?_) N1.out N2.out
      · rw [← HV1.out]
        exact setTh_self V r _ i
      · rw [row_self, HHE.out]
    · go_wp2_with (first
        | refine wpList_load_at 33 62 (.tmp 6) rfl rfl rfl b6 rfl _ 2 strR rfl A6D.out ?_
        | refine wpList_load_at 54 63 (.tmp 13) rfl rfl rfl bc rfl _ 2 strC rfl AC6.out ?_)
      refine (hold_any X g s r (t, J) wc (TT3.out.below HBX.out) HOK.out HOT.out HS.out).mono ?_
      rintro e w2 ⟨rfl, htw⟩
      have HTW := Lib.hid htw
      clear htw
      go_wp2_with fail
      go_ret
      have hfin := lockI_ok (s := s) (r := r) (t := t) HM.out HW.out (by rw [HHE.out, HV0.out, HJ.out]; exact HJV.out) (by rw [HHE.out, HV0.out, HJ.out, HQE.out]; exact HCD.out)
      rw [HLK.out, HHE.out, HV0.out, HJ.out] at hfin
      exact ⟨by rw [hfin]; rfl, by rw [hfin]; exact (HTW.out.from HBX.out).from HB3.out⟩
theorem Lock_any (X : Nat → Prop) (g : Nat) (s : TS) (t : Nat) (r : Rs) (m : Int) (w : World) (h : Tt w g s X) (hT : Tab w) (hr : RsOk r) (ht : U64 t) (hs : SmS s 99999) :
    Calls Tryz.prog 18 #[.pointer (some ⟨g, 0, none⟩), .int .u64 (t : Int), .agg (rsA r), .int .i64 m] w (LockR w X g (lockI s t r m)) := by
  by_cases hm : m < 1 ∨ 5 < m
  · exact lock_mode X g s t r m w h hm
  · cases hw : s.wt t with
    | none => exact lock_go X g s t r m w h hT hr ht hs hm hw
    | some x => exact lock_state X g s t r m w h ht hm (by rw [hw]; rfl)
end Go.Proofs.YthbifccankfngaaGreatDoor

/-
  What granting does to a lock table, and what the walk of grant carries along.
  Conditions: none beyond those that each theorem names.
-/

namespace Go.Proofs.YthbifccankfngaaGreatDoor
open Go.RowKit Go.Shelf
attribute [local go_sem] Oper.semAt_some
set_option maxRecDepth 20000

/-- The end of a part of a call: a table again, its blocks within X. -/
theorem th_tt {w0 w : World} {X Y : Nat → Prop} {B g b1 b2 b3 : Nat} {s s1 : TS} {V V' : RI → Value} {L : RI → List (Value × Value)} {r : Rs} {x : List Cm × List Cm} {vh vq : Value}
    (h : TbR w0 X w B g b1 b2 b3 s1 (setTh V r vh vq) V' L) (hth : s1.th = upd s.th r (some x)) (how : s1.ow = s.ow) (hV : ∀ i, V' i = setTh V r vh vq i) (hL : ∀ i, L i = setF (setF (rowI s) (.hold r) (x.1.map cmP)) (.queue r) (x.2.map cmP) i)
    (n1 : ∀ r, s.th r = none → V (.hold r) = nilS ∧ V (.queue r) = nilS) (n2 : ∀ t, s.ow t = none → V (.own t) = nilS)
    (hY : ∀ k, TbX g b1 b2 b3 V' k → Y k) (hl : ∀ k, Y k → k < w.heap.size) : Tt w g s1 Y := by
  refine ⟨⟨B, b1, b2, b3, V', ⟨h.gt, ?_, ?_, fun r' hr' => ?_, fun t ht => ?_, h.d12, h.d13, h.d23⟩, h.hB, hY⟩, hl⟩
  · have := h.ms
    rwa [← funext hV] at this
  · have e : L = rowI s1 := funext fun i => by
      rw [hL i, ← row_hold]
      cases i with
      | hold r' => simp [rowI, TS.at, hth]
      | queue r' => simp [rowI, TS.at, hth]
      | own t => simp [rowI, how]
    have := h.rows
    rwa [e] at this
  · rw [hth] at hr'
    have e2 : r' ≠ r := by rintro rfl; simp [upd] at hr'
    have := n1 r' (by simpa [upd, e2] using hr')
    rw [hV, hV, setTh_h, setTh_q, if_neg e2, if_neg e2]
    exact this
  · rw [how] at ht
    rw [hV, setTh_o]
    exact n2 t ht
theorem TbV.box_ne {w : World} {B g b1 b2 b3 : Nat} {s : TS} {V : RI → Value} (h : TbV w B g b1 b2 b3 s V) {k : Nat} {t : TypeId} {cs : Array Value} (ha : At w k t cs) (ht : t ≠ 54 ∧ t ≠ 33 ∧ t ≠ 61) : ¬ TbX g b1 b2 b3 V k := by
  rintro (rfl | rfl | rfl | rfl | ⟨i, hi⟩)
  · have := h.gt
    unfold At at this ha
    rw [ha] at this
    injection this with this
    injection this with _ this
    exact ht.2.2 this
  · obtain ⟨es, c, hb, _⟩ := h.ms.m1
    exact at_map ha hb rfl
  · obtain ⟨es, c, hb, _⟩ := h.ms.m2
    exact at_map ha hb rfl
  · obtain ⟨es, c, hb, _⟩ := h.ms.m3
    exact at_map ha hb rfl
  · refine own_ne (h.rows.own i) ha ?_ hi.symm
    cases i
    · exact ht.1
    · exact ht.1
    · exact ht.2.1
theorem own_mod {w w' : World} {X : Nat → Prop} {B : Nat} {e : TypeId} {sz : Nat} {v : Value} {n : Nat} {xs : List Value} (h : w.ownsRow B e sz v n xs) (hm : Mod X w w') (hx : ∀ k, v.ownBlock = some k → ¬ X k) : w'.ownsRow B e sz v n xs := by
  refine ⟨h.1, ?_⟩
  rcases h.2 with hn | ⟨g, cap, cur, rfl, hb, hgg, rest⟩
  · exact .inl hn
  · exact .inr ⟨g, cap, cur, rfl, hb, by rw [hm.block g (Array.getElem?_eq_some_iff.1 hgg).1 (hx g rfl)]; exact hgg, rest⟩
theorem own_at {w : World} {B : Nat} {e : TypeId} {sz : Nat} {v : Value} {n : Nat} {xs : List Value} (h : w.ownsRow B e sz v n xs) {k : Nat} (hk : v.ownBlock = some k) : ∃ cs, At w k e cs := by
  rcases h.2 with ⟨rfl, _⟩ | ⟨g, cap, cur, rfl, hb, hgg, rest⟩
  · cases hk
  · injection hk with hk
    subst hk
    exact ⟨cur, hgg⟩
theorem At.mod {w w' : World} {X : Nat → Prop} {g : Nat} {t : TypeId} {cs : Array Value} (h : At w g t cs) (hm : Mod X w w') (hx : ¬ X g) : At w' g t cs := (hm.block g h.lt hx).trans h
theorem tab_mod {w z : World} {X : Nat → Prop} (h : Tab w) (hm : Mod X w z) (hX : ∀ k, X k → 2 ≤ k) : Tab z := by
  have hs := h.size
  have c0 : ∀ j, z.cell? ⟨0, j, none⟩ = w.cell? ⟨0, j, none⟩ := fun j => World.cell?_of_block (a := ⟨0, j, none⟩) (hm.block 0 (by omega) fun hx => by have := hX 0 hx; omega)
  have c1 : ∀ j, z.cell? ⟨1, j, none⟩ = w.cell? ⟨1, j, none⟩ := fun j => World.cell?_of_block (a := ⟨1, j, none⟩) (hm.block 1 (by omega) fun hx => by have := hX 1 hx; omega)
  exact ⟨Nat.lt_of_lt_of_le hs hm.size, fun i j hi hj => (c0 _).trans (h.comp i j hi hj), fun i hi => (c1 _).trans (h.rd i hi), fun i hi => (c1 _).trans (h.wr i hi)⟩

theorem Tw.below {w0 w w' : World} {X : Nat → Prop} {g : Nat} {s : TS} (h : Tw w0 X g s w) (hb : Below w.heap.size w w') : Tw w0 X g s w' := by
  obtain ⟨X', h1, h2, h3⟩ := h
  exact ⟨X', h1.below hb, h2, h3.sub (Mod.of_below hb (fun _ => False)) (fun _ h => h.elim)⟩
/-- A row of numbers beside the table is turned. -/
theorem Tw.row {w0 w w' : World} {X : Nat → Prop} {g : Nat} {s : TS} (h : Tw w0 X g s w) {Bf sz n : Nat} {v : Value} {xs : List Value} (ho : w.ownsRow Bf 31 sz v n xs) (hB : w0.heap.size ≤ Bf) (hg : w.grownBy w' v.ownBlock) : Tw w0 X g s w' := by
  obtain ⟨X', h1, h2, h3⟩ := h
  obtain ⟨B, b1, b2, b3, V, hv, hB', hx⟩ := h1.ex
  have hv2 := hv.grown hg fun k hk => by
    obtain ⟨cs, ha⟩ := own_at ho hk
    exact hv.box_ne ha ⟨by decide, by decide, by decide⟩
  exact ⟨TbX g b1 b2 b3 V, ⟨⟨B, b1, b2, b3, V, hv2, Nat.le_trans hB' hg.size, fun _ hk => hk⟩, hv2.lt⟩, fun k hk => h2 k (hx k hk), h3.grown hg fun k hk => .inr (Nat.le_trans hB (ho.lt k hk).1)⟩
/-- A thing is deleted. -/
theorem del_fin {w0 w : World} {X : Nat → Prop} {B g b1 b2 b3 : Nat} {s : TS} {V : RI → Value} {r : Rs} (h : TbR w0 X w B g b1 b2 b3 { s with th := upd s.th r none } (setTh V r nilS nilS) V (rowI s))
    (n1 : ∀ r, s.th r = none → V (.hold r) = nilS ∧ V (.queue r) = nilS) (n2 : ∀ t, s.ow t = none → V (.own t) = nilS) : Tw w0 X g { s with th := upd s.th r none } w := by
  have h2 := (h.forget (.hold r)).forget (.queue r)
  refine h2.fin (fun i => rfl) (fun i => ?_) (fun r' hr' => ?_) (fun t ht => ?_)
  · cases i with
    | hold r' =>
      rw [setF_ne _ _ (by intro e; cases e)]
      by_cases e : r' = r
      · subst e; rw [setF_same]; simp [rowI, TS.at, upd]
      · rw [setF_ne _ _ (by intro e2; injection e2 with e2; exact e e2)]; simp [rowI, TS.at, upd, e]
    | queue r' =>
      by_cases e : r' = r
      · subst e; rw [setF_same]; simp [rowI, TS.at, upd]
      · rw [setF_ne _ _ (by intro e2; injection e2 with e2; exact e e2), setF_ne _ _ (by intro e; cases e)]; simp [rowI, TS.at, upd, e]
    | own t => rw [setF_ne _ _ (by intro e; cases e), setF_ne _ _ (by intro e; cases e)]; rfl
  · rw [setTh_h, setTh_q]
    by_cases e : r' = r
    · rw [if_pos e, if_pos e]; exact ⟨rfl, rfl⟩
    · rw [if_neg e, if_neg e]
      exact n1 r' (by simpa [upd, e] using hr')
  · rw [setTh_o]
    exact n2 t ht

/-! ### sizes -/
theorem repl_len (c : Cm) : ∀ h : List Cm, (replI c h).length = h.length
  | [] => rfl
  | d :: h => by
    rw [replI]
    split
    · rfl
    · rw [List.length_cons, List.length_cons, repl_len c h]
theorem notT_len (t : Nat) (l : List Cm) : (notT t l).length ≤ l.length := List.length_filter_le _ _
theorem SmS.mono {s : TS} {N M : Nat} (h : SmS s N) (hn : N ≤ M) : SmS s M := ⟨fun r => ⟨Nat.le_trans (h.1 r).1 hn, Nat.le_trans (h.1 r).2 hn⟩, fun t => Nat.le_trans (h.2 t) hn⟩
theorem sm_th {s : TS} {N : Nat} (h : SmS s N) (r : Rs) (x : List Cm × List Cm) (h1 : x.1.length ≤ N) (h2 : x.2.length ≤ N) : SmS { s with th := upd s.th r (some x) } N := by
  refine ⟨fun r' => ?_, h.2⟩
  by_cases e : r' = r
  · subst e
    rw [at_upd]
    exact ⟨h1, h2⟩
  · have : ({ s with th := upd s.th r (some x) } : TS).at r' = s.at r' := by simp [TS.at, upd, e]
    rw [this]
    exact h.1 r'
theorem sm_hold {s : TS} {N : Nat} (h : SmS s N) (r : Rs) (c : Cm) : SmS (holdI s r c) (N + 1) := by
  unfold holdI
  have hr := h.1 r
  split
  · exact sm_th (h.mono (Nat.le_succ _)) r _ (by rw [repl_len]; omega) (by show (s.at r).2.length ≤ _; omega)
  · have h2 := sm_th (h.mono (Nat.le_succ N)) r ((s.at r).1 ++ [c], (s.at r).2) (by simp; omega) (by show (s.at r).2.length ≤ _; omega)
    refine ⟨h2.1, fun t => ?_⟩
    by_cases e : t = c.1
    · subst e
      have := h.2 c.1
      simp only [upd, if_true, Option.getD_some, List.length_append, List.length_cons, List.length_nil]
      omega
    · have : (({ s with th := upd s.th r (some ((s.at r).1 ++ [c], (s.at r).2)), ow := upd s.ow c.1 (some ((s.ow c.1).getD [] ++ [r])) } : TS).ow t) = s.ow t := by simp [upd, e]
      rw [this]
      exact h2.2 t
theorem sm_wt {s : TS} {N : Nat} (h : SmS s N) (f : Nat → Option Rs) : SmS { s with wt := f } N := h
theorem sm_step {s : TS} {N : Nat} (h : SmS s N) (r : Rs) (c : Cm) : SmS (stepI s r c) (N + 1) := by
  unfold stepI
  exact sm_wt (sm_hold (sm_th h r ((s.at r).1, notT c.1 (s.at r).2) (h.1 r).1 (Nat.le_trans (notT_len _ _) (h.1 r).2)) r c) _
theorem step_q (s : TS) (r : Rs) (c : Cm) : ((stepI s r c).at r).2 = notT c.1 (s.at r).2 := by
  have h := (hold_th { s with th := upd s.th r (some ((s.at r).1, notT c.1 (s.at r).2)) } r c).1
  have e : (stepI s r c).at r = (holdI { s with th := upd s.th r (some ((s.at r).1, notT c.1 (s.at r).2)) } r c).at r := rfl
  rw [e, h, at_upd]
theorem step_qlen {s : TS} {r : Rs} {c : Cm} {q : List Cm} (h : (s.at r).2 = c :: q) : ((stepI s r c).at r).2.length ≤ q.length := by
  rw [step_q, h]
  have : notT c.1 (c :: q) = notT c.1 q := by simp [notT]
  rw [this]
  exact notT_len _ _
/-- Who waits for r is named by eight bytes. -/
def OkQ (s : TS) (r : Rs) : Prop := ∀ c ∈ (s.at r).2, U64 c.1
theorem okq_step {s : TS} {r : Rs} (h : OkQ s r) (c : Cm) : OkQ (stepI s r c) r := fun d hd => by
  rw [step_q] at hd
  exact h d (List.mem_filter.1 hd).1
theorem grantI_end {s : TS} {r : Rs} (h : (s.at r).2 = [] ∨ ∃ c q, (s.at r).2 = c :: q ∧ admI (s.at r).1 c = false) (n : Nat) : grantI n s r = (endI s r, []) := by
  cases n with
  | zero => rfl
  | succ n =>
    unfold grantI
    rcases h with h | ⟨c, q, h, h2⟩
    · rw [h]
    · rw [h]
      simp [h2]
theorem grantI_go {s : TS} {r : Rs} {c : Cm} {q : List Cm} (h : (s.at r).2 = c :: q) (h2 : admI (s.at r).1 c = true) (n : Nat) : grantI (n + 1) s r = ((grantI n (stepI s r c) r).1, c.1 :: (grantI n (stepI s r c) r).2) := by
  conv => lhs; unfold grantI
  rw [h]
  simp [h2]
set_option maxHeartbeats 400000 in
theorem of_any (t : Nat) (w : World) : Calls Tryz.prog 37 #[.int .u64 (t : Int)] w fun e w' => e = .returned (.func (.func 64) #[] #[.pointer (some ⟨w.heap.size, 0, none⟩)]) ∧ w' = w.alloc (.cells #[.int .u64 (t : Int)] 31) := by
  have hmf : ∀ (fn : Fn) (first cap : Array Value) (w : World), (Instr.makeFunc fn first cap).run Tryz.prog w = .ok (.func fn first cap) w := fun _ _ _ _ => rfl
  go_enter Tryz.func37, Tryz.ntmps37
  go_wp2_with fail
  go_ret
  exact ⟨rfl, rfl⟩
end Go.Proofs.YthbifccankfngaaGreatDoor

/-
  The walk of grant.
  Conditions: at most 99999 claims a row, with those that wait.
-/

namespace Go.Proofs.YthbifccankfngaaGreatDoor
open Go.RowKit Go.Shelf
attribute [local go_sem] Oper.semAt_some
set_option maxRecDepth 20000

/-- What grant returns, and what it leaves. -/
def GrantR (w : World) (X : Nat → Prop) (g : Nat) (p : TS × List Nat) (e : Ending) (w' : World) : Prop :=
  ∃ v, e = .returned v ∧ w'.ownsRow w.heap.size 31 1 v p.2.length (UC p.2) ∧ Tw w X g p.1 w'
def lenS : Value → Nat
  | .slice _ n _ => n
  | _ => 0
/-- The state of grant's loop: begun at w1, on (s0, n0); so far F was freed, the table is s, and n rounds are left. -/
structure GrS (w0 w1 : World) (X : Nat → Prop) (g : Nat) (s0 : TS) (r : Rs) (n0 : Nat) (s : TS) (n : Nat) (F : List Nat) (v : Value) (z : World) : Prop where
  tw : Tw w1 X g s z
  rel : grantI n0 s0 r = ((grantI n s r).1, F ++ (grantI n s r).2)
  len : F.length + n = n0
  q : (s.at r).2.length ≤ n
  ok : OkQ s r
  sm : ∃ N, SmS s N ∧ N + n ≤ 99999
  own : z.ownsRow w1.heap.size 31 1 v F.length (UC F)
theorem u_info : ∃ i, Tryz.prog.info? 31 = some i ∧ i.zero = some (.int .u64 0) ∧ i.size = 1 ∧ i.bytes = 8 := ⟨_, rfl, rfl, rfl, rfl⟩
theorem tU_ne : (31 : Nat) ≠ 54 ∧ (31 : Nat) ≠ 33 ∧ (31 : Nat) ≠ 61 := ⟨by decide, by decide, by decide⟩
def GrL (w0 w1 : World) (X : Nat → Prop) (g : Nat) (s0 : TS) (r : Rs) (n0 : Nat) (v : Value) (z : World) : Prop :=
  ∃ s n F A c, v = .slice A F.length c ∧ Hid (GrS w0 w1 X g s0 r n0 s n F (.slice A F.length c) z)
set_option maxHeartbeats 12800000 in
theorem grant_any (X : Nat → Prop) (g : Nat) (s : TS) (r : Rs) (w : World) (h : Tt w g s X) (hX : ∀ k, X k → 2 ≤ k) (hT : Tab w) (hr : RsOk r) (hok : OkQ s r) (N : Nat) (hs : SmS s N) (hN : N + (s.at r).2.length ≤ 99999) :
    Calls Tryz.prog 49 #[.pointer (some ⟨g, 0, none⟩), .agg (rsA r)] w (GrantR w X g (grantA s r)) := by
  obtain ⟨n0, hn0⟩ : ∃ n0, (s.at r).2.length = n0 := ⟨_, rfl⟩
  have hgr : grantA s r = grantI n0 s r := by rw [← hn0]; rfl
  rw [hgr]
  rw [hn0] at hN
  obtain ⟨PP, hPP⟩ : ∃ PP, grantI n0 s r = PP := ⟨_, rfl⟩
  rw [hPP]
  obtain ⟨w1, hw1⟩ : ∃ w1, w.alloc (.cells (rsA r) 33) = w1 := ⟨_, rfl⟩
  obtain ⟨r3, hr3⟩ : ∃ r3, w.heap.size = r3 := ⟨_, rfl⟩
  have hbel : Below w.heap.size w w1 := hw1 ▸ (Below.refl _ w).alloc (Nat.le_refl _) _
  have hlX := h.lt
  have h1 : w1.heap.size = r3 + 1 := by rw [← hw1, ← hr3]; simp
  have HXR : Hid (∀ k, X k → k < r3) := fun k hk => by rw [← hr3]; exact hlX k hk
  have HB := Lib.hid hbel
  have A3W : Hid (At w1 r3 33 (rsA r)) := by
    have := At.new w 33 (rsA r)
    rw [hw1, hr3] at this
    exact this
  have HW1 := Lib.hid h1
  have HTB := Lib.hid (tab_below hT hbel)
  have HX2 := Lib.hid hX
  have HOK := Lib.hid hr
  have HPP := Lib.hid hPP
  have HBR3 := Lib.hid hr3
  have HN99 : Hid (n0 ≤ 99999) := (by show n0 ≤ 99999; omega : n0 ≤ 99999)
  have ST : Hid (GrS w w1 X g s r n0 s n0 [] (.slice none 0 0) w1) := ⟨Tw.refl (h.below hbel), by rw [List.nil_append], by simp, by rw [hn0]; exact Nat.le_refl _, hok, ⟨N, hs, hN⟩, World.ownsRow_nil w1 w1.heap.size 31 1⟩
  clear h hX hT hr hok hs hN hPP hbel h1 hr3 hgr hn0 hlX
  go_enter Tryz.func49, Tryz.ntmps49
  go_wp2_with fail
  rw [HBR3.out]
  clear hw1
  go_loopw [5] (fun v z => GrL w w1 X g s r n0 v z) (fun v _ => n0 - lenS v)
  case atStart => exact ⟨s, n0, [], none, 0, rfl, ST⟩
  case round =>
    obtain ⟨s', n, F, AF, cF, rfl, HG⟩ := hrel
    obtain ⟨X0, hX0, hXs, hmod⟩ := HG.out.tw
    obtain ⟨B, b1, b2, b3, V, hv, hB, hx⟩ := hX0.ex
    have hXE : ∀ k, TbX g b1 b2 b3 V k → X k ∨ w1.heap.size ≤ k := fun k hk => hXs k (hx k hk)
    have hE3 : ¬ TbX g b1 b2 b3 V r3 := fun hk => by
      rcases hXE r3 hk with h | h
      · have := HXR.out r3 h; omega
      · rw [HW1.out] at h; omega
    have A3 := Lib.hid (A3W.out.mod hmod (fun hk => by have := HXR.out r3 hk; omega))
    have TT := Lib.hid (show Tt wr g s' (TbX g b1 b2 b3 V) from ⟨⟨B, b1, b2, b3, V, hv, hB, fun _ hk => hk⟩, hv.lt⟩)
    have HTAB := Lib.hid (tab_mod HTB.out hmod HX2.out)
    have TR := Lib.hid (TbR.start (X := TbX g b1 b2 b3 V) hv hB fun _ hk => hk)
    have HFR : Hid (∀ k, (Value.slice AF F.length cF).ownBlock = some k → ¬ TbX g b1 b2 b3 V k) := fun k hk => by
      obtain ⟨cs, ha⟩ := own_at HG.out.own hk
      exact hv.box_ne ha tU_ne
    obtain ⟨NB, hNB, hNN⟩ := HG.out.sm
    obtain ⟨A1, c1, hv1, ho1⟩ := hv.holdR r
    obtain ⟨A2, c2, hv2, ho2⟩ := hv.queueR r
    have hn1 := (hNB.1 r).1
    have hn2 := (hNB.1 r).2
    have hqn := HG.out.q
    obtain ⟨hh, hhe⟩ : ∃ hh, (s'.at r).1 = hh := ⟨_, rfl⟩
    obtain ⟨qq, hqe⟩ : ∃ qq, (s'.at r).2 = qq := ⟨_, rfl⟩
    obtain ⟨n1, hn1e⟩ : ∃ n1, hh.length = n1 := ⟨_, rfl⟩
    obtain ⟨n2, hn2e⟩ : ∃ n2, qq.length = n2 := ⟨_, rfl⟩
    rw [hhe] at ho1 hv1 hn1
    rw [hqe] at hv2 ho2 hn2 hqn
    have hl := own_lz ho1
    have hq := own_lz ho2
    rw [hn1e] at ho1 hl hv1 hn1
    rw [hn2e] at ho2 hq hv2 hn2 hqn
    have TB := Lib.hid hv
    have HL := Lib.hid hl
    have HQ := Lib.hid hq
    have HO2 := Lib.hid ho2
    have HV1 := Lib.hid hv1
    have HV2 := Lib.hid hv2
    have HHE := Lib.hid hhe
    have HQE := Lib.hid hqe
    have HN1E := Lib.hid hn1e
    have HN2E := Lib.hid hn2e
    have HXE := Lib.hid hXE
    have HE3 := Lib.hid hE3
    have HMOD := Lib.hid hmod
    have HNB := Lib.hid hNB
    have HB0 := Lib.hid hB
    have hr3 : r3 < wr.heap.size := A3.out.lt
    obtain ⟨nF, hnF⟩ : ∃ nF, F.length = nF := ⟨_, rfl⟩
    have HNF := Lib.hid hnF
    have hlenF := HG.out.len
    rw [hnF] at HFR hlenF ⊢
    clear hX0 hXs hx hv hB hl hq ho1 ho2 hv1 hv2 hhe hqe hn1e hn2e hXE hE3 hmod hNB hnF
    go_upto_region 2 with fail
    refine wp_region_held_drew (S := Below wr.heap.size wr) (by kernel_rfl) ((Below.refl _ wr).drew) (fun hS => ?_)
    refine tk 0 hS ?_
    refine tk 1 hS ?_
    refine tk 2 hS ?_
    refine tk 3 hS ?_ (hy := by intro wz hz; have p0 : wz.cell? ⟨g, 0, none⟩ = some (.map (some b1)) := (TB.out.below hz).cell1; go_simp <;> with_reducible rfl)
    refine tk (v := rsV r) 4 hS ?_ (hy := by intro wz hz; have p0 : wz.cell? ⟨g, 0, none⟩ = some (.map (some b1)) := (TB.out.below hz).cell1; exact exec_load_at 33 (.tmp 3) rfl r3 rfl _ 2 strR rfl (A3.out.under hz A3.out.lt))
    refine tk (v := thV (.slice A1 n1 c1) (.slice A2 n2 c2)) 5 hS ?_ (hy := by intro wz hz; have p0 : wz.cell? ⟨g, 0, none⟩ = some (.map (some b1)) := (TB.out.below hz).cell1; exact exec_look (.tmp 11) (.tmp 12) false rfl keyT_res Tryz.underlying57 (thV nilS nilS) zero_th rfl (TB.out.below hz).ms.m1 r rfl HOK.out _ (by rw [(TB.out.below hz).look1, HV1.out, HV2.out]))
    refine wpAnyH_ready (rs := [6]) (by kernel_rfl) (by simp) ?_
    refine AllReadyH.cons rfl (fun K hK => ?_) AllReadyH.nil
    go_simp
    refine hK.out _ _ (((Below.refl _ wr).drew).alloc (Nat.le_refl _) _) (fun hT => ?_)
    clear hK hS
    have hS := hT
    clear hT
    refine wpAnyH_ready (rs := [7]) (by kernel_rfl) (by simp) ?_
    refine AllReadyH.cons rfl (fun K hK => ?_) AllReadyH.nil
    rw [if_pos (by rfl)]
    refine wp_store_at 79 (.tmp 6) (.tmp 13) rfl rfl wr.heap.size rfl (thA (.slice A1 n1 c1) (.slice A2 n2 c2)) (thA nilS nilS) 2 rfl strTh rfl rfl (thA_one _ _ _ _ _ _) (At.new wr.drew 79 (thA nilS nilS)) ?_
    intro w9 ha9 hg9
    have AX := Lib.hid ha9
    have HB9 := Lib.hid (show Below wr.heap.size wr w9 from (((Below.refl _ wr).drew).alloc (Nat.le_refl _) (.cells (thA nilS nilS) 79)).grown hg9 (by simp [World.alloc]) (fun k hk => by injection hk with hk; subst hk; exact Nat.le_refl _))
    clear ha9 hg9
    refine hK.out _ _ (HB9.out) (fun hT => ?_)
    clear hK hS
    have hS := hT
    clear hT
    refine wpAnyH_done (by kernel_rfl) ?_ _
    clear hS
    obtain ⟨b6, hb6⟩ : ∃ b6, wr.heap.size = b6 := ⟨_, rfl⟩
    have hb69 : wr.heap.size < w9.heap.size := AX.out.lt
    rw [hb6] at AX hb69 hr3 ⊢
    have HB6 := Lib.hid hb6
    clear hb6
    obtain ⟨brk, hbrk⟩ : ∃ brk, brk = (match qq with | [] => true | x :: _ => !admI hh x) := ⟨_, rfl⟩
    have HBRK := Lib.hid hbrk
    clear hbrk
    dsimp only [Act.put]
    go_upto_region 3 with fail
    go_cut [26] from 14 to 27 (fun s26 wx => s26 = .bool brk ∧ Hid (Below w9.heap.size w9 wx))
    case first =>
      cases qq with
      | nil =>
        have hb : brk = true := HBRK.out
        have hn20 : n2 = 0 := HN2E.out.symm
        have e4 : ((n2 : Int) == 0) = true := by simp [hn20]
        subst hb
        clear hn20
        refine wp_region_held_drew (S := Below w9.heap.size w9) (by kernel_rfl) ((Below.refl _ w9).drew) (fun hS => ?_)
        refine tk 0 hS ?_
        refine tk 1 hS ?_ (hy := by intro wz hz; have p1 : wz.cell? ⟨b6, 1, none⟩ = some (.slice A2 n2 c2) := (AX.out.under hz AX.out.lt).cell 1; go_simp <;> with_reducible rfl)
        refine tk 2 hS ?_
        refine tk 3 hS ?_
        refine tk 4 hS ?_
        refine sk 5 hS ?_
        refine sk 6 hS ?_
        refine sk 7 hS ?_
        refine sk 8 hS ?_
        refine sk 9 hS ?_
        refine sk 10 hS ?_
        refine sk 11 hS ?_
        refine tk 12 hS ?_
        refine wpAnyH_done (by kernel_rfl) ?_ _
        go_wp2_with fail
        go_meet
        exact ⟨rfl, Lib.hid hS⟩
      | cons x q =>
        have hb : brk = !admI hh x := HBRK.out
        have hn20 : 0 < n2 := by rw [← HN2E.out]; simp
        have e4 : ((n2 : Int) == 0) = false := by simp; omega
        obtain ⟨ad, had⟩ : ∃ ad, admI hh x = ad := ⟨_, rfl⟩
        rw [had] at hb
        subst hb
        obtain ⟨bQ, oQ, hlq, hAe, _, hbQ, hrQ⟩ := (HQ.out.below HB9.out).cm hn20
        subst hAe
        have RX : Hid (w9.rangeAt bQ oQ (cmV x)) := by
          have := hrQ
          rw [Nat.zero_mul, Nat.add_zero] at this
          exact this
        have HAD : Hid (∀ W, Below w9.heap.size w9 W → Calls Tryz.prog 43 #[.agg (thA (.slice A1 n1 c1) (.slice (some ⟨bQ, oQ, none⟩) n2 c2)), .agg (cmA x)] W (RetB W (.bool ad))) := fun W hW => by
          have := admits_any (fun _ => False) A1 n1 c1 hh (.slice (some ⟨bQ, oQ, none⟩) n2 c2) x W (tab_below HTAB.out (HB9.out.trans (hW.mono HB9.out.size))) (HL.out.below (HB9.out.trans (hW.mono HB9.out.size))) (by omega)
          rw [had] at this
          exact this
        have e5 : (0 : Int) < (n2 : Int) := by omega
        clear hrQ had
        refine wp_region_held_drew (S := Below w9.heap.size w9) (by kernel_rfl) ((Below.refl _ w9).drew) (fun hS => ?_)
        refine tk 0 hS ?_
        refine tk 1 hS ?_ (hy := by intro wz hz; have p1 : wz.cell? ⟨b6, 1, none⟩ = some (.slice (some ⟨bQ, oQ, none⟩) n2 c2) := (AX.out.under hz AX.out.lt).cell 1; go_simp <;> with_reducible rfl)
        refine tk 2 hS ?_
        refine tk 3 hS ?_
        refine tk 4 hS ?_
        refine tk (v := .agg (thA (.slice A1 n1 c1) (.slice (some ⟨bQ, oQ, none⟩) n2 c2))) 5 hS ?_ (hy := by intro wz hz; have p1 : wz.cell? ⟨b6, 1, none⟩ = some (.slice (some ⟨bQ, oQ, none⟩) n2 c2) := (AX.out.under hz AX.out.lt).cell 1; exact exec_load_at 79 (.tmp 6) rfl b6 rfl _ 2 strTh rfl (AX.out.under hz AX.out.lt))
        refine tk 6 hS ?_
        refine tk 7 hS ?_ (hy := by intro wz hz; have p1 : wz.cell? ⟨b6, 1, none⟩ = some (.slice (some ⟨bQ, oQ, none⟩) n2 c2) := (AX.out.under hz AX.out.lt).cell 1; go_simp <;> with_reducible rfl)
        refine tk 8 hS ?_
        refine tk (v := .agg (cmA x)) 9 hS ?_ (hy := by intro wz hz; have p1 : wz.cell? ⟨b6, 1, none⟩ = some (.slice (some ⟨bQ, oQ, none⟩) n2 c2) := (AX.out.under hz AX.out.lt).cell 1; exact exec_load_in 54 (.tmp 22) rfl bQ oQ rfl (cmV x) 2 strC rfl (fun j v hv => (hz.cell (p := ⟨bQ, oQ + j, none⟩) hbQ).trans (RX.out j v hv)))
        refine wpAnyH_ready (rs := [10]) (by kernel_rfl) (by simp) ?_
        refine AllReadyH.cons rfl (fun K hK => ?_) AllReadyH.nil
        go_simp
        refine (HAD.out _ hS).mono ?_
        rintro e y9 ⟨rfl, hb9⟩
        have hb : True := trivial
        have B9 := Lib.hid (hS.trans (hb9.mono hS.size))
        clear hb9
        refine hK.out _ _ (B9.out) (fun hT => ?_)
        clear hK hb hS
        have hS := hT
        clear hT
        refine tk 11 hS ?_
        refine tk 12 hS ?_
        refine wpAnyH_done (by kernel_rfl) ?_ _
        go_wp2_with fail
        go_meet
        exact ⟨rfl, Lib.hid hS⟩
    obtain ⟨rfl, HC⟩ := hcut
    have HBC := Lib.hid (HB9.out.trans (HC.out.mono HB9.out.size))
    cases brk
    · obtain ⟨x, q, hqx, hax⟩ : ∃ x q, qq = x :: q ∧ admI hh x = true := by
        have hb := HBRK.out
        cases hq : qq with
        | nil =>
          rw [hq] at hb
          have hb2 : false = true := hb
          cases hb2
        | cons x q =>
          rw [hq] at hb
          have hb2 : false = !admI hh x := hb
          refine ⟨x, q, rfl, ?_⟩
          cases had : admI hh x
          · rw [had] at hb2; cases hb2
          · rfl
      have hn20 : 0 < n2 := by rw [← HN2E.out, hqx]; simp
      obtain ⟨bQ, oQ, hlq, hAe, _, hbQ, hrQ⟩ := (HQ.out.below HBC.out).cm hn20
      have AXC := Lib.hid (AX.out.under HC.out AX.out.lt)
      subst hAe
      have RX : Hid (wc.rangeAt bQ oQ (cmV x)) := by
        have := hrQ
        rw [Nat.zero_mul, Nat.add_zero] at this
        have e : qq[0]'hlq = x := by simp [hqx]
        rw [e] at this
        exact this
      have c61 : wc.cell? ⟨b6, 1, none⟩ = some (.slice (some ⟨bQ, oQ, none⟩) n2 c2) := AXC.out.cell 1
      have hokx : U64 x.1 := HG.out.ok x (by rw [HQE.out, hqx]; simp)
      have HX1 := Lib.hid hokx
      have HQX := Lib.hid hqx
      have HAX := Lib.hid hax
      have e7 : (0 : Int) < (n2 : Int) := by omega
      have HBA := Lib.hid (HBC.out.alloc HBC.out.size (.cells (cmA x) 54))
      have A7 := Lib.hid (At.new wc 54 (cmA x))
      have hb7 : b6 < wc.heap.size := AXC.out.lt
      have c70 : (wc.alloc (.cells (cmA x) 54)).cell? ⟨wc.heap.size, 0, none⟩ = some (.int .u64 (x.1 : Int)) := A7.out.cell 0
      have AXA := Lib.hid (AXC.out.alloc (.cells (cmA x) 54))
      clear hqx hax hrQ hokx hlq
      go_wp2_with (first
        | refine wpList_load_in 54 30 (.tmp 29) rfl rfl rfl bQ oQ rfl (cmV x) 2 strC rfl RX.out ?_
        | refine wpList_store_new 54 (.tmp 7) (.tmp 30) rfl rfl rfl _ wc rfl rfl (cmA x) zC 2 rfl strC rfl rfl (cmA_one _) rfl ?_)
      refine (of_any x.1 (wc.alloc (.cells (cmA x) 54))).mono ?_
      rintro e zb ⟨rfl, hzb⟩
      obtain ⟨b7, hb7e⟩ : ∃ b7, wc.heap.size = b7 := ⟨_, rfl⟩
      have hsz : (wc.alloc (.cells (cmA x) 54)).heap.size = b7 + 1 := by rw [← hb7e]; simp
      rw [hb7e] at A7 hb7 ⊢
      rw [hsz]
      have HBZ := Lib.hid (show Below wr.heap.size wr zb from hzb ▸ HBA.out.alloc HBA.out.size _)
      have A7Z := Lib.hid (show At zb b7 54 (cmA x) from hzb ▸ A7.out.alloc _)
      have AXZ := Lib.hid (show At zb b6 79 (thA (.slice A1 n1 c1) (.slice (some ⟨bQ, oQ, none⟩) n2 c2)) from hzb ▸ AXA.out.alloc _)
      have hcf : zb.cell? ⟨b7 + 1, 0, none⟩ = some (.int .u64 (x.1 : Int)) := by
        have := (At.new (wc.alloc (.cells (cmA x) 54)) 31 #[.int .u64 (x.1 : Int)]).cell 0
        rw [hsz] at this
        rw [hzb]
        exact this
      have howq : ∀ k, (Value.slice (some ⟨bQ, oQ, none⟩) n2 c2).ownBlock = some k → k < b6 := fun k hk => by
        have := (HO2.out.lt k hk).2
        rw [HB6.out] at this
        exact this
      have HOWQ := Lib.hid howq
      have A3Z := Lib.hid (A3.out.under HBZ.out A3.out.lt)
      have TRZ := Lib.hid (TR.out.below HBZ.out)
      have HREM := Lib.hid (remove_any 64 #[.pointer (some ⟨b7 + 1, 0, none⟩)] (fun c => c.1 == x.1) ent_of B (.slice (some ⟨bQ, oQ, none⟩) n2 c2) qq zb (by rw [HN2E.out]; exact own_mod HO2.out (Mod.of_below HBZ.out (fun _ => False)) (fun _ _ h => h))
        (pred_ofX x.1 (b7 + 1) _ zb (fun hk => by have := howq _ hk; omega) hcf) (by rw [HN2E.out]; omega) b6 1 _ AXZ.out rfl)
      clear hzb hb7e hsz hcf howq c61 c70
      go_wp2_with fail
      refine HREM.out.mono ?_
      rintro e y5 ⟨rfl, v8, ho8, hv8, ha8, hm8⟩
      obtain ⟨q8, hq8⟩ : ∃ q8, qq.filter (fun c => !(c.1 == x.1)) = q8 := ⟨_, rfl⟩
      rw [hq8] at ho8
      obtain ⟨m8, hm8l⟩ : ∃ m8, q8.length = m8 := ⟨_, rfl⟩
      rw [hm8l] at ho8
      obtain ⟨A8, c8, hv8e, _⟩ := pl_own_slice ho8
      subst hv8e
      have hY : ∀ k, (k = b6 ∨ (Value.slice (some ⟨bQ, oQ, none⟩) n2 c2).ownBlock = some k) → (V (.queue r)).ownBlock = some k ∨ (¬ TbX g b1 b2 b3 V k ∧ wr.heap.size ≤ k) := by
        rintro k (rfl | hk)
        · exact .inr ⟨TRZ.out.box_ne AXZ.out ⟨by decide, by decide, by decide⟩, by rw [HB6.out]; exact Nat.le_refl _⟩
        · exact .inl (by rw [HV2.out]; exact hk)
      have TR2 := Lib.hid (TRZ.out.rowM (.queue r) hm8 hY (v := .slice A8 m8 c8) (l := q8.map cmP) (by rw [List.length_map, hm8l]; exact ho8) (fun k hk => .inl (by rw [HV2.out, ← hv8]; exact hk)))
      have nb : ∀ k, k ≠ b6 → (b6 < k ∨ ¬ TbX g b1 b2 b3 V k) → ¬ (k = b6 ∨ (Value.slice (some ⟨bQ, oQ, none⟩) n2 c2).ownBlock = some k) := by
        rintro k h1 h2 (h | h)
        · exact h1 h
        · rcases h2 with h2 | h2
          · have := HOWQ.out k h; omega
          · exact h2 (.inr (.inr (.inr (.inr ⟨.queue r, by rw [HV2.out]; exact h⟩))))
      have A35 := Lib.hid (A3Z.out.mod hm8 (nb r3 (by omega) (.inr HE3.out)))
      have A75 := Lib.hid (A7Z.out.mod hm8 (nb b7 (by omega) (.inl (by omega))))
      have AX5 : Hid (At y5 b6 79 (thA (.slice A1 n1 c1) (.slice A8 m8 c8))) := ha8
      have HV8 := Lib.hid hv8
      have HQ8 := Lib.hid hq8
      clear ho8 hv8 ha8 hm8 hY nb hq8 HREM
      go_upto_region 6 with fail
      have hS0 : At y5.drew g 61 (tabA b1 b2 b3) ∧ At y5.drew r3 33 (rsA r) ∧ At y5.drew b6 79 (thA (.slice A1 n1 c1) (.slice A8 m8 c8)) := ⟨TR2.out.gt, A35.out, AX5.out⟩
      refine wp_region_held_drew (S := fun wz => At wz g 61 (tabA b1 b2 b3) ∧ At wz r3 33 (rsA r) ∧ At wz b6 79 (thA (.slice A1 n1 c1) (.slice A8 m8 c8))) (by kernel_rfl) hS0 (fun hS => ?_)
      refine tk 0 hS ?_
      refine tk 1 hS ?_
      refine tk 2 hS ?_
      refine tk 3 hS ?_ (hy := by intro wz hz; have p0 : wz.cell? ⟨g, 0, none⟩ = some (.map (some b1)) := hz.1.cell 0; go_simp <;> with_reducible rfl)
      refine tk (v := rsV r) 4 hS ?_ (hy := by intro wz hz; have p0 : wz.cell? ⟨g, 0, none⟩ = some (.map (some b1)) := hz.1.cell 0; exact exec_load_at 33 (.tmp 3) rfl r3 rfl _ 2 strR rfl hz.2.1)
      refine tk (v := .agg (thA (.slice A1 n1 c1) (.slice A8 m8 c8))) 5 hS ?_ (hy := by intro wz hz; have p0 : wz.cell? ⟨g, 0, none⟩ = some (.map (some b1)) := hz.1.cell 0; exact exec_load_at 79 (.tmp 6) rfl b6 rfl (thA (.slice A1 n1 c1) (.slice A8 m8 c8)) 2 strTh rfl hz.2.2)
      refine wpAnyH_ready (rs := [6]) (by kernel_rfl) (by simp) ?_
      refine AllReadyH.cons rfl (fun K hK => ?_) AllReadyH.nil
      rw [if_pos (by rfl)]
      refine wp_mapStore (.tmp 39) (.tmp 40) (.tmp 41) rfl rfl keyT_res Tryz.underlying57 rfl (TR2.out.below ((Below.refl _ y5).drew)).ms.m1 r rfl HOK.out (thV (.slice A1 n1 c1) (.slice A8 m8 c8)) rfl ?_
      intro w9 hm9 hg9
      have TR3 := Lib.hid ((TR2.out.below ((Below.refl _ y5).drew)).put1 r ((hh, q8)) (.slice A1 n1 c1) (.slice A8 m8 c8) hm9 hg9)
      have ngm := TR2.out.ms.m1
      obtain ⟨es9, cl9, hes9, _⟩ := ngm
      have hS9 : At w9 g 61 (tabA b1 b2 b3) ∧ At w9 r3 33 (rsA r) ∧ At w9 b6 79 (thA (.slice A1 n1 c1) (.slice A8 m8 c8)) := ⟨hS0.1.grown hg9 (fun e => at_map TR2.out.gt hes9 (Option.some.inj e)), hS0.2.1.grown hg9 (fun e => at_map A35.out hes9 (Option.some.inj e)), hS0.2.2.grown hg9 (fun e => at_map AX5.out hes9 (Option.some.inj e))⟩
      clear hm9 hes9
      refine hK.out _ _ (hS9) (fun hT => ?_)
      clear hK hS
      have hS := hT
      clear hT
      refine wpAnyH_done (by kernel_rfl) ?_ _
      obtain ⟨w3, hw3⟩ : ∃ w3, w3 = w9 := ⟨_, rfl⟩
      subst hw3
      have A36 := Lib.hid hS9.2.1
      have A76 : Hid (At w3 b7 54 (cmA x)) := by
        obtain ⟨es7, cl7, hes7, _⟩ := TR2.out.ms.m1
        exact (show At y5.drew b7 54 (cmA x) from A75.out).grown hg9 (fun e => at_map A75.out hes7 (Option.some.inj e))
      have TT1 : Hid (Tt w3 g { s' with th := upd s'.th r (some (hh, q8)) } (TbX g b1 b2 b3 V)) := by
        refine th_tt (s := s') (x := (hh, q8)) TR3.out rfl rfl (fun i => ?_) (fun i => ?_) TB.out.n1 TB.out.n2 (fun k hk => ?_) (fun k hk => ?_)
        · rw [← HV1.out]
          exact setTh_self V r _ i
        · rw [row_self, HHE.out]
        · rcases hk with h | h | h | h | ⟨i, hi⟩
          · exact .inl h
          · exact .inr (.inl h)
          · exact .inr (.inr (.inl h))
          · exact .inr (.inr (.inr (.inl h)))
          · refine .inr (.inr (.inr (.inr ?_)))
            by_cases e : i = .queue r
            · subst e
              rw [setF_same, HV8.out] at hi
              exact ⟨.queue r, by rw [HV2.out]; exact hi⟩
            · rw [setF_ne _ _ e] at hi
              exact ⟨i, hi⟩
        · exact Nat.lt_of_lt_of_le (TB.out.lt k hk) TR3.out.mod.size
      have hm3 := Lib.hid TR3.out.mod
      have hb7n : Hid (¬ TbX g b1 b2 b3 V b7) := fun hk => by
        have := TB.out.lt b7 hk
        rw [HB6.out] at this
        omega
      have SM1 : Hid (SmS { s' with th := upd s'.th r (some (hh, q8)) } 99999) := by
        refine (sm_th HNB.out r (hh, q8) (by rw [HN1E.out]; exact hn1) ?_).mono (by omega)
        show q8.length ≤ NB
        rw [← HQ8.out]
        exact Nat.le_trans (List.length_filter_le _ _) (by rw [HN2E.out]; exact hn2)
      clear hS hS9 hg9 hS0
      go_wp2_with (first
        | refine wpList_load_at 33 43 (.tmp 3) rfl rfl rfl r3 rfl _ 2 strR rfl A36.out ?_
        | refine wpList_load_at 54 44 (.tmp 7) rfl rfl rfl b7 rfl _ 2 strC rfl A76.out ?_)
      refine (hold_any (TbX g b1 b2 b3 V) g { s' with th := upd s'.th r (some (hh, q8)) } r x w3 TT1.out HOK.out HX1.out SM1.out).mono ?_
      rintro e y7 ⟨rfl, X7, hX7, hXs7, hm7⟩
      obtain ⟨s2, hs2⟩ : ∃ s2, holdI { s' with th := upd s'.th r (some (hh, q8)) } r x = s2 := ⟨_, rfl⟩
      rw [hs2] at hX7
      obtain ⟨B7, d1, d2, d3, V7, hv7, hB7, hx7⟩ := hX7.ex
      have A7H := Lib.hid (A76.out.mod hm7 hb7n.out)
      have TH := Lib.hid (TbR.start (X := X7) hv7 hB7 hx7)
      have HM7 := Lib.hid hm7
      have HXS7 := Lib.hid hXs7
      have HV7 := Lib.hid hv7
      have HS2 := Lib.hid hs2
      clear hX7 hXs7 hm7 hv7 hB7 hx7 hs2
      go_upto_region 8 with fail
      refine wp_region_held_drew (S := fun wz => At wz g 61 (tabA d1 d2 d3) ∧ At wz b7 54 (cmA x)) (by kernel_rfl) ⟨TH.out.gt, A7H.out⟩ (fun hS => ?_)
      refine tk 0 hS ?_
      refine tk 1 hS ?_
      refine tk 2 hS ?_
      refine tk 3 hS ?_ (hy := by intro wz hz; have p0 : wz.cell? ⟨g, 2, none⟩ = some (.map (some d3)) := hz.1.cell 2; have p1 : wz.cell? ⟨b7, 0, none⟩ = some (.int .u64 (x.1 : Int)) := hz.2.cell 0; go_simp <;> with_reducible rfl)
      refine tk 4 hS ?_
      refine tk 5 hS ?_ (hy := by intro wz hz; have p0 : wz.cell? ⟨g, 2, none⟩ = some (.map (some d3)) := hz.1.cell 2; have p1 : wz.cell? ⟨b7, 0, none⟩ = some (.int .u64 (x.1 : Int)) := hz.2.cell 0; go_simp <;> with_reducible rfl)
      refine wpAnyH_ready (rs := [6]) (by kernel_rfl) (by simp) ?_
      refine AllReadyH.cons rfl (fun K hK => ?_) AllReadyH.nil
      rw [if_pos (by rfl)]
      refine wp_mapDrop (.tmp 49) (.tmp 51) rfl rfl keyT_u64 Tryz.underlying59 rfl (TH.out.below ((Below.refl _ y7).drew)).ms.m3 x.1 rfl HX1.out ?_
      intro w9 hm9 hg9
      have TH2 := Lib.hid ((TH.out.below ((Below.refl _ y7).drew)).put3 x.1 none hm9 hg9)
      obtain ⟨es9, cl9, hes9, _⟩ := TH.out.ms.m3
      have hS9 := (show At w9 g 61 (tabA d1 d2 d3) ∧ At w9 b7 54 (cmA x) from ⟨hS.1.grown hg9 (fun e => at_map TH.out.gt hes9 (Option.some.inj e)), hS.2.grown hg9 (fun e => at_map A7H.out hes9 (Option.some.inj e))⟩)
      clear hm9 hes9
      refine hK.out _ _ (hS9) (fun hT => ?_)
      clear hK hS
      have hS := hT
      clear hT
      refine wpAnyH_done (by kernel_rfl) ?_ _
      have hstep : stepI s' r x = { s2 with wt := upd s2.wt x.1 none } := by
        have h1 : stepI s' r x = { holdI { s' with th := upd s'.th r (some ((s'.at r).1, notT x.1 (s'.at r).2)) } r x with wt := upd s'.wt x.1 none } := rfl
        have h2 : notT x.1 (s'.at r).2 = q8 := by rw [HQE.out, ← HQ8.out]; rfl
        rw [h1, h2, HHE.out, HS2.out]
        have h3 : s2.wt = s'.wt := by rw [← HS2.out]; exact (hold_th _ r x).2.2.2
        rw [h3]
      have hfin : Tw y7 X7 g (stepI s' r x) w9 := by
        rw [hstep]
        exact TH2.out.fin (fun _ => rfl) (fun i => by cases i <;> rfl) HV7.out.n1 HV7.out.n2
      have hX7 : ∀ k, X7 k → X k ∨ w1.heap.size ≤ k := fun k hk => by
        rcases HXS7.out k hk with h | h
        · exact HXE.out k h
        · exact .inr (Nat.le_trans HMOD.out.size (Nat.le_trans hm3.out.size h))
      have hm17 : Mod X w1 y7 := (HMOD.out.sub hm3.out HXE.out).sub HM7.out HXE.out
      have TW9 := Lib.hid (hfin.step hX7 hm17)
      have hown3 := own_mod HG.out.own hm3.out (fun k hk => HFR.out k (by rw [HNF.out] at hk; exact hk))
      have hown7 := own_mod hown3 HM7.out (fun k hk => HFR.out k (by rw [HNF.out] at hk; exact hk))
      have hown9 := own_mod hown7 hfin.choose_spec.2.2 (fun k hk hx => by
        rcases HXS7.out k hx with h | h
        · exact HFR.out k (by rw [HNF.out] at hk; exact hk) h
        · have h1 := (HG.out.own.lt k hk).2
          have h2 := hm3.out.size
          omega)
      rw [HNF.out] at hown9
      have OWN := Lib.hid (own_under hown9 ((Below.refl _ w9).alloc (Nat.le_refl _) (.cells #[.int .u64 (x.1 : Int)] 31)) (Nat.le_refl _))
      have TWA := Lib.hid (TW9.out.below ((Below.refl _ w9).alloc (Nat.le_refl _) (.cells #[.int .u64 (x.1 : Int)] 31)))
      have LN := Lib.hid (lies_new w9 (.int .u64 (x.1 : Int)) 31)
      have c70 : w9.cell? ⟨b7, 0, none⟩ = some (.int .u64 (x.1 : Int)) := hS9.2.cell 0
      have hw19 : w1.heap.size ≤ (w9.alloc (.cells #[.int .u64 (x.1 : Int)] 31)).heap.size := by
        have h1 := hm17.size
        have h2 := hfin.choose_spec.2.2.size
        simp
        omega
      have HW19 := Lib.hid hw19
      have HQL := Lib.hid (show ((stepI s' r x).at r).2.length ≤ q.length from step_qlen (by rw [HQE.out, HQX.out]))
      have hqn2 : q.length + 1 = n2 := by rw [← HN2E.out, HQX.out]; simp
      obtain ⟨m, hm⟩ : ∃ m, n = m + 1 := ⟨n - 1, by omega⟩
      have HREL : Hid (grantI n0 s r = ((grantI m (stepI s' r x) r).1, (F ++ [x.1]) ++ (grantI m (stepI s' r x) r).2)) := by
        show _ = _
        rw [HG.out.rel, hm, grantI_go (c := x) (q := q) (by rw [HQE.out, HQX.out]) (by rw [HHE.out]; exact HAX.out)]
        simp
      have HMQ : Hid (((stepI s' r x).at r).2.length ≤ m) := Nat.le_trans HQL.out (by omega)
      have HOKQ := Lib.hid (okq_step HG.out.ok x)
      have HSMX : Hid (∃ N, SmS (stepI s' r x) N ∧ N + m ≤ 99999) := ⟨NB + 1, sm_step HNB.out r x, by omega⟩
      have hF63 : nF ≤ 99999 := by have := HN99.out; omega
      clear hS hS9 hg9 hstep hfin hX7 hm17 hown3 hown7 hown9 hw19
      obtain ⟨i0, hi0, hz0, hz1, hz2⟩ := u_info
      go_wp2_with (at_builtin; refine wpList_app _ rfl (.tmp 52) (.tmp 55) 37 rfl w1.heap.size 31 i0 (.int .u64 0) 1 8 Tryz.underlying37 hi0 hz0 hz1 hz2 rfl (by omega) (.slice AF nF cF) nF (UC F) rfl OWN.out (w9.heap.size + 1) (some ⟨w9.heap.size, 0, none⟩) 1 1 [.int .u64 (x.1 : Int)] rfl LN.out (fun u hu => by simp at hu; rw [hu]; rfl) (by simp only [maxLen]; omega) (by omega) HW19.out ?_; intro v5 w5 ho5 hg5)
      obtain ⟨A5, c5, rfl, _⟩ := own_slice ho5
      have hl5 : (F ++ [x.1]).length = nF + 1 := by rw [List.length_append, HNF.out]; rfl
      refine ⟨⟨stepI s' r x, m, F ++ [x.1], A5, c5, by rw [hl5], ?_⟩, ?_⟩
      · refine ⟨TWA.out.row OWN.out (Nat.le_refl _) hg5, HREL.out, by rw [hl5]; omega, HMQ.out, HOKQ.out, HSMX.out, ?_⟩
        rw [hl5, UC_append]
        exact ho5
      · simp [lenS]
        omega
    · have hend : grantI n s' r = (endI s' r, []) := grantI_end (by
        have hb := HBRK.out
        cases hq : qq with
        | nil => exact .inl (by rw [HQE.out, hq])
        | cons x q =>
          rw [hq] at hb
          have hb2 : true = !admI hh x := hb
          refine .inr ⟨x, q, by rw [HQE.out, hq], ?_⟩
          rw [HHE.out]
          cases had : admI hh x
          · rfl
          · rw [had] at hb2; cases hb2) n
      have HPE : Hid (PP = (endI s' r, F)) := by
        show _ = _
        rw [← HPP.out, HG.out.rel, hend, List.append_nil]
      have TBC := Lib.hid (TB.out.below HBC.out)
      have A3C := Lib.hid (A3.out.under HBC.out A3.out.lt)
      have HTW := Lib.hid (HG.out.tw.below HBC.out)
      have HOW := Lib.hid (own_mod HG.out.own (Mod.of_below HBC.out (fun _ => False)) (fun _ _ h => h))
      clear hend
      go_upto_region 10 with fail
      by_cases h10 : n1 = 0
      · have e6 : ((n1 : Int) == 0) = true := by simp [h10]
        have H10 := Lib.hid h10
        clear h10
        refine wp_region_held_drew (S := Below wc.heap.size wc) (by kernel_rfl) ((Below.refl _ wc).drew) (fun hS => ?_)
        refine tk 0 hS ?_
        refine tk 1 hS ?_
        refine tk 2 hS ?_
        refine tk 3 hS ?_ (hy := by intro wz hz; have p0 : wz.cell? ⟨g, 0, none⟩ = some (.map (some b1)) := (TBC.out.below hz).cell1; go_simp <;> with_reducible rfl)
        refine tk (v := rsV r) 4 hS ?_ (hy := by intro wz hz; have p0 : wz.cell? ⟨g, 0, none⟩ = some (.map (some b1)) := (TBC.out.below hz).cell1; exact exec_load_at 33 (.tmp 3) rfl r3 rfl _ 2 strR rfl (A3C.out.under hz A3C.out.lt))
        refine tk (v := thV (.slice A1 n1 c1) (.slice A2 n2 c2)) 5 hS ?_ (hy := by intro wz hz; have p0 : wz.cell? ⟨g, 0, none⟩ = some (.map (some b1)) := (TBC.out.below hz).cell1; exact exec_look (.tmp 60) (.tmp 61) false rfl keyT_res Tryz.underlying57 (thV nilS nilS) zero_th rfl (TBC.out.below hz).ms.m1 r rfl HOK.out _ (by rw [(TBC.out.below hz).look1, HV1.out, HV2.out]))
        refine tk (v := .slice A1 n1 c1) 6 hS ?_ (hy := by intro wz hz; have p0 : wz.cell? ⟨g, 0, none⟩ = some (.map (some b1)) := (TBC.out.below hz).cell1; have hf := field_th 0 (by omega) (.slice A1 n1 c1) (.slice A2 n2 c2) wz; unfold thV at hf ⊢; go_simp <;> with_reducible rfl)
        refine tk 7 hS ?_
        refine tk 8 hS ?_
        refine wpAnyH_done (by kernel_rfl) ?_ _
        clear hS
        obtain ⟨wd, hwd⟩ : ∃ wd, wd = wc.drew := ⟨_, rfl⟩
        rw [← hwd]
        have HBD := Lib.hid (show Below wr.heap.size wr wd from hwd ▸ HBC.out.drew)
        clear hwd
        have TRD := Lib.hid (TR.out.below HBD.out)
        have A3D := Lib.hid (A3.out.under HBD.out A3.out.lt)
        go_upto_region 11 with fail
        refine wp_region_held_drew (S := fun wz => At wz g 61 (tabA b1 b2 b3) ∧ At wz r3 33 (rsA r)) (by kernel_rfl) ⟨TRD.out.gt, A3D.out⟩ (fun hS => ?_)
        refine tk 0 hS ?_
        refine tk 1 hS ?_
        refine tk 2 hS ?_
        refine tk 3 hS ?_ (hy := by intro wz hz; have p0 : wz.cell? ⟨g, 0, none⟩ = some (.map (some b1)) := hz.1.cell 0; go_simp <;> with_reducible rfl)
        refine tk (v := rsV r) 4 hS ?_ (hy := by intro wz hz; have p0 : wz.cell? ⟨g, 0, none⟩ = some (.map (some b1)) := hz.1.cell 0; exact exec_load_at 33 (.tmp 3) rfl r3 rfl _ 2 strR rfl hz.2)
        refine wpAnyH_ready (rs := [5]) (by kernel_rfl) (by simp) ?_
        refine AllReadyH.cons rfl (fun K hK => ?_) AllReadyH.nil
        rw [if_pos (by rfl)]
        refine wp_mapDrop (.tmp 69) (.tmp 70) rfl rfl keyT_res Tryz.underlying57 rfl (TRD.out.below ((Below.refl _ wd).drew)).ms.m1 r rfl HOK.out ?_
        intro w9 hm9 hg9
        have TRD2 := Lib.hid ((TRD.out.below ((Below.refl _ wd).drew)).del1 r hm9 hg9)
        obtain ⟨es9, cl9, hes9, _⟩ := TRD.out.ms.m1
        have hS9 := (show At w9 g 61 (tabA b1 b2 b3) ∧ At w9 r3 33 (rsA r) from ⟨hS.1.grown hg9 (fun e => at_map TRD.out.gt hes9 (Option.some.inj e)), hS.2.grown hg9 (fun e => at_map A3D.out hes9 (Option.some.inj e))⟩)
        clear hm9 hes9
        refine hK.out _ _ (hS9) (fun hT => ?_)
        clear hK hS
        have hS := hT
        clear hT
        refine wpAnyH_done (by kernel_rfl) ?_ _
        clear hS hS9 hg9
        go_wp2_with fail
        go_ret
        have hee : endI s' r = { s' with th := upd s'.th r none } := by
          unfold endI
          rw [HHE.out]
          have : hh = [] := List.eq_nil_of_length_eq_zero (by rw [HN1E.out]; exact H10.out)
          rw [this]
          rfl
        have hfin := del_fin TRD2.out TB.out.n1 TB.out.n2
        refine ⟨_, rfl, ?_, ?_⟩
        · rw [HPE.out]
          have := own_mod HG.out.own hfin.choose_spec.2.2 (fun k hk => HFR.out k (by rw [HNF.out] at hk; exact hk))
          rw [HNF.out] at this ⊢
          exact own_base this HB.out.size
        · rw [HPE.out, hee]
          exact (hfin.step HXE.out HMOD.out).from HB.out
      · have e6 : ((n1 : Int) == 0) = false := by simp [h10]
        have H10 := Lib.hid h10
        clear h10
        refine wp_region_held_drew (S := Below wc.heap.size wc) (by kernel_rfl) ((Below.refl _ wc).drew) (fun hS => ?_)
        refine tk 0 hS ?_
        refine tk 1 hS ?_
        refine tk 2 hS ?_
        refine tk 3 hS ?_ (hy := by intro wz hz; have p0 : wz.cell? ⟨g, 0, none⟩ = some (.map (some b1)) := (TBC.out.below hz).cell1; go_simp <;> with_reducible rfl)
        refine tk (v := rsV r) 4 hS ?_ (hy := by intro wz hz; have p0 : wz.cell? ⟨g, 0, none⟩ = some (.map (some b1)) := (TBC.out.below hz).cell1; exact exec_load_at 33 (.tmp 3) rfl r3 rfl _ 2 strR rfl (A3C.out.under hz A3C.out.lt))
        refine tk (v := thV (.slice A1 n1 c1) (.slice A2 n2 c2)) 5 hS ?_ (hy := by intro wz hz; have p0 : wz.cell? ⟨g, 0, none⟩ = some (.map (some b1)) := (TBC.out.below hz).cell1; exact exec_look (.tmp 60) (.tmp 61) false rfl keyT_res Tryz.underlying57 (thV nilS nilS) zero_th rfl (TBC.out.below hz).ms.m1 r rfl HOK.out _ (by rw [(TBC.out.below hz).look1, HV1.out, HV2.out]))
        refine tk (v := .slice A1 n1 c1) 6 hS ?_ (hy := by intro wz hz; have p0 : wz.cell? ⟨g, 0, none⟩ = some (.map (some b1)) := (TBC.out.below hz).cell1; have hf := field_th 0 (by omega) (.slice A1 n1 c1) (.slice A2 n2 c2) wz; unfold thV at hf ⊢; go_simp <;> with_reducible rfl)
        refine tk 7 hS ?_
        refine tk 8 hS ?_
        refine wpAnyH_done (by kernel_rfl) ?_ _
        clear hS
        go_wp2_with fail
        go_ret
        have hee : endI s' r = s' := by
          unfold endI
          rw [HHE.out, if_neg]
          intro h
          have : hh = [] := by simpa using h
          rw [this] at HN1E
          exact H10.out HN1E.out.symm
        refine ⟨_, rfl, ?_, ?_⟩
        · rw [HPE.out]
          have := own_mod HOW.out (Mod.of_below ((Below.refl _ wc).drew) (fun _ => False)) (fun _ _ h => h)
          rw [HNF.out] at this ⊢
          exact own_base this HB.out.size
        · rw [HPE.out, hee]
          exact (HTW.out.below ((Below.refl _ wc).drew)).from HB.out
end Go.Proofs.YthbifccankfngaaGreatDoor

/-
  The walk of Cancel.
  Conditions: at most 99999 claims a row, with those that wait.
-/

namespace Go.Proofs.YthbifccankfngaaGreatDoor
open Go.RowKit Go.Shelf
attribute [local go_sem] Oper.semAt_some
set_option maxRecDepth 20000

theorem TbR.tbv {w0 w : World} {X : Nat → Prop} {B g b1 b2 b3 : Nat} {s : TS} {V V' : RI → Value} {L : RI → List (Value × Value)} (h : TbR w0 X w B g b1 b2 b3 s V V' L) (hV : ∀ i, V i = V' i) (hL : ∀ i, L i = rowI s i)
    (n1 : ∀ r, s.th r = none → V (.hold r) = nilS ∧ V (.queue r) = nilS) (n2 : ∀ t, s.ow t = none → V (.own t) = nilS) : TbV w B g b1 b2 b3 s V := by
  obtain rfl : V = V' := funext hV
  obtain rfl : L = rowI s := funext hL
  exact ⟨h.gt, h.ms, h.rows, n1, n2, h.d12, h.d13, h.d23⟩
theorem GrantR.from {w w1 w' : World} {X : Nat → Prop} {g : Nat} {p : TS × List Nat} {e : Ending} (hm : Mod X w w1) {X1 : Nat → Prop} (hx : ∀ k, X1 k → X k ∨ w.heap.size ≤ k) (h : GrantR w1 X1 g p e w') : GrantR w X g p e w' := by
  obtain ⟨v, h1, h2, h3⟩ := h
  exact ⟨v, h1, own_base h2 hm.size, h3.step hx hm⟩
theorem row_wt (s : TS) (f : Nat → Option Rs) (i : RI) : rowI { s with wt := f } i = rowI s i := by cases i <;> rfl
set_option maxHeartbeats 800000 in
theorem cancel_none (X : Nat → Prop) (g : Nat) (s : TS) (t : Nat) (w : World) (h : Tt w g s X) (ht : U64 t) (hw : s.wt t = none) :
    Calls Tryz.prog 22 #[.pointer (some ⟨g, 0, none⟩), .int .u64 (t : Int)] w (GrantR w X g (cancelI s t)) := by
  have hc : cancelI s t = (s, []) := by unfold cancelI; rw [hw]
  rw [hc]
  obtain ⟨B, b1, b2, b3, V, hv, _⟩ := h.ex
  have p0 : w.cell? ⟨g, 2, none⟩ = some (.map (some b3)) := hv.cell3
  have TB := Lib.hid hv
  have HW := Lib.hid hw
  have HT := Lib.hid ht
  have HTT := Lib.hid h
  clear h hv hw ht hc
  go_enter Tryz.func22, Tryz.ntmps22
  go_wp2_with (first
    | refine wpList_look rfl 14 rfl (.tmp 12) (.tmp 13) true rfl keyT_u64 Tryz.underlying59 (rsV (0, 0)) (zero_res _) rfl TB.out.ms.m3 t rfl HT.out (.tuple #[.agg (wtV none), .bool false]) (by show lookV _ ((s.wt t).map rsV) true = _; rw [HW.out, wtV_look]; rfl) ?_
    | refine wpList_store_new 33 (.tmp 5) (.tmp 15) rfl rfl rfl _ w rfl rfl (wtV none) (rsA (0, 0)) 2 rfl strR rfl rfl (wtV_one _) rfl ?_)
  go_ret
  exact ⟨_, rfl, World.ownsRow_nil _ _ _ _, Tw.of_below HTT.out ((Below.refl _ w).alloc (Nat.le_refl _) _)⟩
set_option maxHeartbeats 12800000 in
theorem cancel_some (X : Nat → Prop) (g : Nat) (s : TS) (t : Nat) (r : Rs) (w : World) (h : Tt w g s X) (hX : ∀ k, X k → 2 ≤ k) (hT : Tab w) (hr : RsOk r) (ht : U64 t) (hok : OkQ s r) (N : Nat) (hs : SmS s N) (hN : N + N ≤ 99999) (hw : s.wt t = some r) :
    Calls Tryz.prog 22 #[.pointer (some ⟨g, 0, none⟩), .int .u64 (t : Int)] w (GrantR w X g (cancelI s t)) := by
  obtain ⟨PP, hPP⟩ : ∃ PP, cancelI s t = PP := ⟨_, rfl⟩
  rw [hPP]
  obtain ⟨B, b1, b2, b3, V, hv, hB, hx⟩ := h.ex
  obtain ⟨A1, c1, hv1, ho1⟩ := hv.holdR r
  obtain ⟨A2, c2, hv2, ho2⟩ := hv.queueR r
  have hn1 := (hs.1 r).1
  have hn2 := (hs.1 r).2
  obtain ⟨hh, hhe⟩ : ∃ hh, (s.at r).1 = hh := ⟨_, rfl⟩
  obtain ⟨qq, hqe⟩ : ∃ qq, (s.at r).2 = qq := ⟨_, rfl⟩
  obtain ⟨n1, hn1e⟩ : ∃ n1, hh.length = n1 := ⟨_, rfl⟩
  obtain ⟨n2, hn2e⟩ : ∃ n2, qq.length = n2 := ⟨_, rfl⟩
  rw [hhe] at ho1 hv1 hn1
  rw [hqe] at hv2 ho2 hn2
  rw [hn1e] at ho1 hv1 hn1
  rw [hn2e] at ho2 hv2 hn2
  obtain ⟨b5, hb5⟩ : ∃ b5, w.heap.size = b5 := ⟨_, rfl⟩
  obtain ⟨z, hz⟩ : ∃ z, w.alloc (.cells (wtV (some r)) 33) = z := ⟨_, rfl⟩
  have hbel : Below w.heap.size w z := hz ▸ (Below.refl _ w).alloc (Nat.le_refl _) _
  have p0 : w.cell? ⟨g, 2, none⟩ = some (.map (some b3)) := hv.cell3
  have p1 : z.cell? ⟨g, 2, none⟩ = some (.map (some b3)) := (hv.below hbel).cell3
  have HBW := Lib.hid hbel
  have TR := Lib.hid ((TbR.start hv hB hx).below hbel)
  have A5Z : Hid (At z b5 33 (rsA r)) := by
    have := At.new w 33 (rsA r)
    rw [← hz, ← hb5]
    exact this
  have TB := Lib.hid hv
  have HO2 := Lib.hid ho2
  have HV1 := Lib.hid hv1
  have HV2 := Lib.hid hv2
  have HHE := Lib.hid hhe
  have HQE := Lib.hid hqe
  have HN1E := Lib.hid hn1e
  have HN2E := Lib.hid hn2e
  have HB5 := Lib.hid hb5
  have HW := Lib.hid hw
  have HOT := Lib.hid ht
  have HOK := Lib.hid hr
  have HOKQ := Lib.hid hok
  have HTB := Lib.hid hT
  have HX2 := Lib.hid hX
  have HXX := Lib.hid hx
  have HXL := Lib.hid h.lt
  have HPP := Lib.hid hPP
  have HSM := Lib.hid hs
  clear h hX hT hr ht hok hs hw hPP hv hB hx ho1 ho2 hv1 hv2 hhe hqe hn1e hn2e hbel hb5
  obtain ⟨z2, hdel, hm2, hg2⟩ := TR.out.ms.m3.drop keyT_u64 Tryz.underlying59 (a := t) HOT.out 0
  unfold u64V at hdel
  go_enter Tryz.func22, Tryz.ntmps22
  go_wp2_with (first
    | refine wpList_look rfl 14 rfl (.tmp 12) (.tmp 13) true rfl keyT_u64 Tryz.underlying59 (rsV (0, 0)) (zero_res _) rfl TB.out.ms.m3 t rfl HOT.out (.tuple #[.agg (wtV (some r)), .bool true]) (by show lookV _ ((s.wt t).map rsV) true = _; rw [HW.out, wtV_look]; rfl) ?_
    | refine wpList_store_new 33 (.tmp 5) (.tmp 15) rfl rfl rfl _ w rfl rfl (wtV (some r)) (rsA (0, 0)) 2 rfl strR rfl rfl (wtV_one _) rfl ?_
    | fail)
  rw [HB5.out]
  have TRD := Lib.hid (TR.out.put3 t none hm2 hg2)
  have A5 : Hid (At z2 b5 33 (rsA r)) := by
    obtain ⟨es7, cl7, hes7, _⟩ := TR.out.ms.m3
    exact A5Z.out.grown hg2 (fun e => at_map A5Z.out hes7 (Option.some.inj e))
  have hb5z : b5 < z2.heap.size := A5.out.lt
  clear hm2 hg2 hz p0 p1 hdel
  obtain ⟨s2, hs2⟩ : ∃ s2, s2 = ({ s with wt := upd s.wt t none } : TS) := ⟨_, rfl⟩
  rw [← hs2] at TRD
  have TB2 := Lib.hid (TRD.out.tbv (fun _ => rfl) (fun i => by rw [hs2]; exact (row_wt s _ i).symm) (by rw [hs2]; exact TB.out.n1) (by rw [hs2]; exact TB.out.n2))
  have HS2 := Lib.hid hs2
  clear hs2
  refine wp_region_held_drew (S := Below z2.heap.size z2) (by kernel_rfl) ((Below.refl _ z2).drew) (fun hS => ?_)
  refine tk 0 hS ?_
  refine tk 1 hS ?_
  refine tk 2 hS ?_
  refine tk 3 hS ?_ (hy := by intro wz hz; have p0 : wz.cell? ⟨g, 0, none⟩ = some (.map (some b1)) := (TB2.out.below hz).cell1; go_simp <;> with_reducible rfl)
  refine tk (v := rsV r) 4 hS ?_ (hy := by intro wz hz; have p0 : wz.cell? ⟨g, 0, none⟩ = some (.map (some b1)) := (TB2.out.below hz).cell1; exact exec_load_at 33 (.tmp 5) rfl b5 rfl _ 2 strR rfl (A5.out.under hz A5.out.lt))
  refine tk (v := thV (.slice A1 n1 c1) (.slice A2 n2 c2)) 5 hS ?_ (hy := by intro wz hz; have p0 : wz.cell? ⟨g, 0, none⟩ = some (.map (some b1)) := (TB2.out.below hz).cell1; exact exec_look (.tmp 27) (.tmp 28) false rfl keyT_res Tryz.underlying57 (thV nilS nilS) zero_th rfl (TB2.out.below hz).ms.m1 r rfl HOK.out _ (by rw [(TB2.out.below hz).look1, HV1.out, HV2.out]))
  refine wpAnyH_ready (rs := [6]) (by kernel_rfl) (by simp) ?_
  refine AllReadyH.cons rfl (fun K hK => ?_) AllReadyH.nil
  go_simp
  refine hK.out _ _ (((Below.refl _ z2).drew).alloc (Nat.le_refl _) _) (fun hT => ?_)
  clear hK hS
  have hS := hT
  clear hT
  refine wpAnyH_ready (rs := [7]) (by kernel_rfl) (by simp) ?_
  refine AllReadyH.cons rfl (fun K hK => ?_) AllReadyH.nil
  rw [if_pos (by rfl)]
  refine wp_store_at 79 (.tmp 7) (.tmp 29) rfl rfl z2.heap.size rfl (thA (.slice A1 n1 c1) (.slice A2 n2 c2)) (thA nilS nilS) 2 rfl strTh rfl rfl (thA_one _ _ _ _ _ _) (At.new z2.drew 79 (thA nilS nilS)) ?_
  intro w9 ha9 hg9
  have AX := Lib.hid ha9
  have HB9 := Lib.hid (show Below z2.heap.size z2 w9 from (((Below.refl _ z2).drew).alloc (Nat.le_refl _) (.cells (thA nilS nilS) 79)).grown hg9 (by simp [World.alloc]) (fun k hk => by injection hk with hk; subst hk; exact Nat.le_refl _))
  clear ha9 hg9
  refine hK.out _ _ (HB9.out) (fun hT => ?_)
  clear hK hS
  have hS := hT
  clear hT
  refine wpAnyH_done (by kernel_rfl) ?_ _
  clear hS
  obtain ⟨b7, hb7⟩ : ∃ b7, z2.heap.size = b7 := ⟨_, rfl⟩
  have hb79 : z2.heap.size < w9.heap.size := AX.out.lt
  rw [hb7] at AX hb79 hb5z ⊢
  have HB7 := Lib.hid hb7
  clear hb7
  go_wp2_with fail
  refine (of_any t w9).mono ?_
  rintro e zb ⟨rfl, hzb⟩
  obtain ⟨bf, hbf⟩ : ∃ bf, w9.heap.size = bf := ⟨_, rfl⟩
  rw [hbf] at hb79 ⊢
  have HBZ := Lib.hid (show Below z2.heap.size z2 zb from hzb ▸ HB9.out.alloc HB9.out.size _)
  have AXZ := Lib.hid (show At zb b7 79 (thA (.slice A1 n1 c1) (.slice A2 n2 c2)) from hzb ▸ AX.out.alloc _)
  have hcf : zb.cell? ⟨bf, 0, none⟩ = some (.int .u64 (t : Int)) := by
    have := (At.new w9 31 #[.int .u64 (t : Int)]).cell 0
    rw [hbf] at this
    rw [hzb]
    exact this
  have howq : ∀ k, (Value.slice A2 n2 c2).ownBlock = some k → k < b5 := fun k hk => by
    have := (HO2.out.lt k hk).2
    rw [HB5.out] at this
    exact this
  have HOWQ := Lib.hid howq
  have A5B := Lib.hid (A5.out.under HBZ.out A5.out.lt)
  have TRZ := Lib.hid (TRD.out.below HBZ.out)
  have hoz : zb.ownsRow B 54 2 (.slice A2 n2 c2) n2 (cmL qq) := by
    have := TRZ.out.rows.own (.queue r)
    have e : rowI s (.queue r) = qq.map cmP := by show (s.at r).2.map cmP = _; rw [HQE.out]
    rw [HV2.out, e, List.length_map, HN2E.out] at this
    exact this
  have HREM := Lib.hid (remove_any 64 #[.pointer (some ⟨bf, 0, none⟩)] (fun c => c.1 == t) ent_of B (.slice A2 n2 c2) qq zb (by rw [HN2E.out]; exact hoz)
    (pred_ofX t bf _ zb (fun hk => by have := howq _ hk; omega) hcf) (by rw [HN2E.out]; omega) b7 1 _ AXZ.out rfl)
  clear hzb hbf hcf howq hoz
  go_wp2_with fail
  refine HREM.out.mono ?_
  rintro e y5 ⟨rfl, v8, ho8, hv8, ha8, hm8⟩
  obtain ⟨q8, hq8⟩ : ∃ q8, qq.filter (fun c => !(c.1 == t)) = q8 := ⟨_, rfl⟩
  rw [hq8] at ho8
  obtain ⟨m8, hm8l⟩ : ∃ m8, q8.length = m8 := ⟨_, rfl⟩
  rw [hm8l] at ho8
  obtain ⟨A8, c8, hv8e, _⟩ := pl_own_slice ho8
  subst hv8e
  have hY : ∀ k, (k = b7 ∨ (Value.slice A2 n2 c2).ownBlock = some k) → (V (.queue r)).ownBlock = some k ∨ (¬ TbX g b1 b2 b3 V k ∧ w.heap.size ≤ k) := by
    rintro k (rfl | hk)
    · exact .inr ⟨TRZ.out.box_ne AXZ.out ⟨by decide, by decide, by decide⟩, by rw [HB5.out]; omega⟩
    · exact .inl (by rw [HV2.out]; exact hk)
  have TR2 := Lib.hid (TRZ.out.rowM (.queue r) hm8 hY (v := .slice A8 m8 c8) (l := q8.map cmP) (by rw [List.length_map, hm8l]; exact ho8) (fun k hk => .inl (by rw [HV2.out, ← hv8]; exact hk)))
  have A55 := Lib.hid (A5B.out.mod hm8 (by
    rintro (h | h)
    · omega
    · have := HOWQ.out b5 h; omega))
  have AX5 : Hid (At y5 b7 79 (thA (.slice A1 n1 c1) (.slice A8 m8 c8))) := ha8
  have HV8 := Lib.hid hv8
  have HQ8 := Lib.hid hq8
  clear ho8 hv8 ha8 hm8 hY hq8 HREM
  go_upto_region 7 with fail
  have hS0 : At y5.drew g 61 (tabA b1 b2 b3) ∧ At y5.drew b5 33 (rsA r) ∧ At y5.drew b7 79 (thA (.slice A1 n1 c1) (.slice A8 m8 c8)) := ⟨TR2.out.gt, A55.out, AX5.out⟩
  refine wp_region_held_drew (S := fun wz => At wz g 61 (tabA b1 b2 b3) ∧ At wz b5 33 (rsA r) ∧ At wz b7 79 (thA (.slice A1 n1 c1) (.slice A8 m8 c8))) (by kernel_rfl) hS0 (fun hS => ?_)
  refine tk 0 hS ?_
  refine tk 1 hS ?_
  refine tk 2 hS ?_
  refine tk 3 hS ?_ (hy := by intro wz hz; have p0 : wz.cell? ⟨g, 0, none⟩ = some (.map (some b1)) := hz.1.cell 0; go_simp <;> with_reducible rfl)
  refine tk (v := rsV r) 4 hS ?_ (hy := by intro wz hz; have p0 : wz.cell? ⟨g, 0, none⟩ = some (.map (some b1)) := hz.1.cell 0; exact exec_load_at 33 (.tmp 5) rfl b5 rfl _ 2 strR rfl hz.2.1)
  refine tk (v := .agg (thA (.slice A1 n1 c1) (.slice A8 m8 c8))) 5 hS ?_ (hy := by intro wz hz; have p0 : wz.cell? ⟨g, 0, none⟩ = some (.map (some b1)) := hz.1.cell 0; exact exec_load_at 79 (.tmp 7) rfl b7 rfl (thA (.slice A1 n1 c1) (.slice A8 m8 c8)) 2 strTh rfl hz.2.2)
  refine wpAnyH_ready (rs := [6]) (by kernel_rfl) (by simp) ?_
  refine AllReadyH.cons rfl (fun K hK => ?_) AllReadyH.nil
  rw [if_pos (by rfl)]
  refine wp_mapStore (.tmp 37) (.tmp 38) (.tmp 39) rfl rfl keyT_res Tryz.underlying57 rfl (TR2.out.below ((Below.refl _ y5).drew)).ms.m1 r rfl HOK.out (thV (.slice A1 n1 c1) (.slice A8 m8 c8)) rfl ?_
  intro w9 hm9 hg9
  have TR3 := Lib.hid ((TR2.out.below ((Below.refl _ y5).drew)).put1 r ((hh, q8)) (.slice A1 n1 c1) (.slice A8 m8 c8) hm9 hg9)
  have ngm := TR2.out.ms.m1
  obtain ⟨es9, cl9, hes9, _⟩ := ngm
  have hS9 : At w9 g 61 (tabA b1 b2 b3) ∧ At w9 b5 33 (rsA r) ∧ At w9 b7 79 (thA (.slice A1 n1 c1) (.slice A8 m8 c8)) := ⟨hS0.1.grown hg9 (fun e => at_map TR2.out.gt hes9 (Option.some.inj e)), hS0.2.1.grown hg9 (fun e => at_map A55.out hes9 (Option.some.inj e)), hS0.2.2.grown hg9 (fun e => at_map AX5.out hes9 (Option.some.inj e))⟩
  clear hm9 hes9
  refine hK.out _ _ (hS9) (fun hT => ?_)
  clear hK hS
  have hS := hT
  clear hT
  refine wpAnyH_done (by kernel_rfl) ?_ _
  obtain ⟨w3, hw3⟩ : ∃ w3, w3 = w9 := ⟨_, rfl⟩
  subst hw3
  have A56 := Lib.hid hS9.2.1
  have TT1 : Hid (Tt w3 g { s2 with th := upd s2.th r (some (hh, q8)) } X) := by
    refine th_tt (s := s2) (x := (hh, q8)) TR3.out rfl rfl (fun i => ?_) (fun i => ?_) TB2.out.n1 TB2.out.n2 (fun k hk => ?_) (fun k hk => ?_)
    · rw [← HV1.out]
      exact setTh_self V r _ i
    · have e1 : rowI s = rowI s2 := funext fun i => by rw [HS2.out]; exact (row_wt s _ i).symm
      have e2 : (s2.at r).1 = hh := by rw [HS2.out]; exact HHE.out
      rw [e1, row_self, e2]
    · rcases hk with h | h | h | h | ⟨i, hi⟩
      · exact HXX.out k (.inl h)
      · exact HXX.out k (.inr (.inl h))
      · exact HXX.out k (.inr (.inr (.inl h)))
      · exact HXX.out k (.inr (.inr (.inr (.inl h))))
      · refine HXX.out k (.inr (.inr (.inr (.inr ?_))))
        by_cases e : i = .queue r
        · subst e
          rw [setF_same, HV8.out] at hi
          exact ⟨.queue r, by rw [HV2.out]; exact hi⟩
        · rw [setF_ne _ _ e] at hi
          exact ⟨i, hi⟩
    · exact Nat.lt_of_lt_of_le (HXL.out k hk) TR3.out.mod.size
  have hm3 := Lib.hid TR3.out.mod
  clear hS hS9 hg9 hS0
  have hat : ({ s2 with th := upd s2.th r (some (hh, q8)) } : TS).at r = (hh, q8) := at_upd s2 r (hh, q8)
  have hql : q8.length ≤ N := by
    rw [← HQ8.out]
    exact Nat.le_trans (List.length_filter_le _ _) (by rw [HN2E.out]; exact hn2)
  have HG := Lib.hid (grant_any X g { s2 with th := upd s2.th r (some (hh, q8)) } r w3 TT1.out HX2.out (tab_mod HTB.out hm3.out HX2.out) HOK.out (fun c hc => by
      rw [hat] at hc
      have hc2 : c ∈ q8 := hc
      rw [← HQ8.out] at hc2
      exact HOKQ.out c (by rw [HQE.out]; exact (List.mem_filter.1 hc2).1)) N (sm_th (s := s2) (by rw [HS2.out]; exact sm_wt HSM.out _) r (hh, q8) (by rw [HN1E.out]; exact hn1) hql) (by rw [hat]; show N + q8.length ≤ _; omega))
  have HPE : Hid (grantA { s2 with th := upd s2.th r (some (hh, q8)) } r = PP) := by
    show _ = _
    rw [← HPP.out]
    unfold cancelI
    rw [HW.out]
    have e : notT t (s.at r).2 = q8 := by rw [HQE.out, ← HQ8.out]; rfl
    show _ = grantA { s with wt := upd s.wt t none, th := upd s.th r (some ((s.at r).1, notT t (s.at r).2)) } r
    rw [e, HHE.out, HS2.out]
  rw [HPE.out] at HG
  clear hat hql
  go_wp2_with (first | refine wpList_load_at 33 41 (.tmp 5) rfl rfl rfl b5 rfl _ 2 strR rfl A56.out ?_)
  refine HG.out.mono ?_
  rintro e y9 ⟨v, rfl, hov, htv⟩
  have HOV := Lib.hid hov
  have HTV := Lib.hid htv
  clear hov htv
  go_wp2_with fail
  go_ret
  exact GrantR.from hm3.out (fun _ hk => .inl hk) ⟨v, rfl, HOV.out, HTV.out⟩
theorem Cancel_any (X : Nat → Prop) (g : Nat) (s : TS) (t : Nat) (w : World) (h : Tt w g s X) (hX : ∀ k, X k → 2 ≤ k) (hT : Tab w) (hr : ∀ r, s.wt t = some r → RsOk r ∧ OkQ s r) (ht : U64 t) (N : Nat) (hs : SmS s N) (hN : N + N ≤ 99999) :
    Calls Tryz.prog 22 #[.pointer (some ⟨g, 0, none⟩), .int .u64 (t : Int)] w (GrantR w X g (cancelI s t)) := by
  cases hw : s.wt t with
  | none => exact cancel_none X g s t w h ht hw
  | some r => exact cancel_some X g s t r w h hX hT (hr r hw).1 ht (hr r hw).2 N hs hN hw
end Go.Proofs.YthbifccankfngaaGreatDoor

/-
  Resources in memory, row by row; the literal of one struct.
  Conditions: none beyond those that each theorem names.
-/

namespace Go.Proofs.YthbifccankfngaaGreatDoor
open Go.RowKit Go.Shelf
set_option maxRecDepth 20000

def encR (r : Rs) : List Value := [.int .i64 r.1, .int .u64 (r.2 : Int)]
theorem wpList_lit1r {ops : Array Oper} {rest : List Oper} {o : Oper} {a : Act} {w : World} {Q : Exit → Act → World → Prop} (hgd : o.guard = none) (d : Nat) (x : Operand) (t e : TypeId) (size : Nat) (z : Value) (c : Array Value) (hop : o.dst = some d)
    (ho : o.op = .buildSlice t 1 #[(0, x)]) (hx : a.eval x = .agg c) (ht : Tryz.prog.underlying t = some (.slice e)) (hi : (Tryz.prog.info? e).map (fun i => (i.zero, i.size)) = some (some z, size)) (h0 : 0 < size) (hs : size ≤ 100000) (hc : c.size = size)
    (h : wpList Tryz.prog ops Q rest (a.put (some d) (.slice (some ⟨w.heap.size, 0, none⟩) 1 1)) (w.alloc (.cells c e))) : wpList Tryz.prog ops Q (o :: rest) a w :=
  wpList_plain hgd fun _ hK => wp_lit1r d x t e size z c hop ho hx ht hi h0 hs hc (hK _ _ h)
/-- What stands in own and waits behind the two deletes. -/
def noI (s : TS) (t : Nat) : TS := { s with ow := upd s.ow t none, wt := upd s.wt t none }
theorem Lz.rs {X : Nat → Prop} {w : World} {A : Option Addr} {n k : Nat} {l : List Rs} (h : Lz X w 2 A n (rsL l)) (hk : k < n) : ∃ b o, ∃ hl : k < l.length, A = some ⟨b, o, none⟩ ∧ b < w.heap.size ∧ w.rangeAt b (o + k * 2) (encR l[k]) := by
  have hl : k < l.length := by have := h.len; rw [rsL_length] at this; omega
  obtain ⟨b, o, h1, h2, h3, h4⟩ := h.spot (by omega)
  refine ⟨b, o, hl, h1, h3, fun j v hv => ?_⟩
  have h5 := flat2_get (l.map rsP) k (by simpa using hl)
  match j, hv with
  | 0, hv =>
    have := h4 (k * 2) _ (by simpa [rsL] using h5.1)
    simp [encR] at hv
    rw [← hv]
    simpa [rsP] using this
  | 1, hv =>
    have := h4 (k * 2 + 1) _ (by simpa [rsL] using h5.2)
    simp [encR] at hv
    rw [← hv, show o + k * 2 + 1 = o + (k * 2 + 1) by omega]
    simpa [rsP] using this
end Go.Proofs.YthbifccankfngaaGreatDoor

/-
  The reference's claims in memory, four cells each; the walks of Waits, Mode.
  Conditions: at most 100000 claims.
-/

namespace Go.Proofs.YthbifccankfngaaGreatDoor
open Go.RowKit Go.Shelf
attribute [local go_sem] Oper.semAt_some
set_option maxRecDepth 20000

def rcV (c : Cl) : List Value := [.int .i64 c.1.1, .int .u64 (c.1.2 : Int), .int .u64 (c.2.1 : Int), .int .i64 c.2.2]
def rcA (c : Cl) : Array Value := #[.int .i64 c.1.1, .int .u64 (c.1.2 : Int), .int .u64 (c.2.1 : Int), .int .i64 c.2.2]
def rcL (l : List Cl) : List Value := l.flatMap rcV
theorem rcL_cons (c : Cl) (l : List Cl) : rcL (c :: l) = rcV c ++ rcL l := rfl
theorem rcL_append (a b : List Cl) : rcL (a ++ b) = rcL a ++ rcL b := by simp [rcL]
theorem rcL_one (c : Cl) : rcL [c] = rcV c := by simp [rcL]
theorem rcL_length : ∀ l : List Cl, (rcL l).length = l.length * 4
  | [] => rfl
  | c :: l => by
    rw [rcL_cons, List.length_append, rcL_length l, List.length_cons]
    simp only [rcV, List.length_cons, List.length_nil]
    omega
theorem rcL_get : ∀ (l : List Cl) (k : Nat) (h : k < l.length) (j : Nat) (u : Value), (rcV l[k])[j]? = some u → (rcL l)[k * 4 + j]? = some u
  | [], k, h, _, _, _ => absurd h (Nat.not_lt_zero _)
  | c :: l, 0, _, j, u, hu => by
    have hj : j < (rcV c).length := by
      rcases Nat.lt_or_ge j (rcV c).length with h | h
      · exact h
      · have : (rcV c)[j]? = none := List.getElem?_eq_none h
        rw [List.getElem_cons_zero] at hu
        rw [this] at hu
        cases hu
    rw [rcL_cons, List.getElem?_append_left (by omega), Nat.zero_mul, Nat.zero_add]
    exact hu
  | c :: l, k + 1, h, j, u, hu => by
    have hl : (rcV c).length = 4 := rfl
    rw [rcL_cons, List.getElem?_append_right (by omega), hl, show (k + 1) * 4 + j - 4 = k * 4 + j by omega]
    exact rcL_get l k (by simpa using h) j u (by simpa using hu)
theorem Lz.rc {X : Nat → Prop} {w : World} {A : Option Addr} {n k : Nat} {l : List Cl} (h : Lz X w 4 A n (rcL l)) (hk : k < n) : ∃ b o, ∃ hl : k < l.length, A = some ⟨b, o, none⟩ ∧ b < w.heap.size ∧ w.rangeAt b (o + k * 4) (rcV l[k]) := by
  have hl : k < l.length := by have := h.len; rw [rcL_length] at this; omega
  obtain ⟨b, o, h1, _, h3, h4⟩ := h.spot (by omega)
  refine ⟨b, o, hl, h1, h3, fun j v hv => ?_⟩
  rw [Nat.add_assoc]
  exact h4 _ _ (rcL_get l k hl j v hv)
theorem Lz.rclen {X : Nat → Prop} {w : World} {A : Option Addr} {n : Nat} {l : List Cl} (h : Lz X w 4 A n (rcL l)) : l.length = n := by
  have := h.len
  rw [rcL_length] at this
  omega
/-- Where somebody's wish stands; -1: they have none. -/
def wIdx (q : List Cl) (t : Nat) : Int := match q.findIdx? fun c => c.2.1 == t with
  | some i => (i : Int)
  | none => -1
theorem wIdx_none {q : List Cl} {t : Nat} (h : ∀ (j : Nat) (hj : j < q.length), q[j].2.1 ≠ t) : wIdx q t = -1 := by
  unfold wIdx
  have : (q.findIdx? fun c => c.2.1 == t) = none := by
    rw [List.findIdx?_eq_none_iff]
    intro x hx
    obtain ⟨j, hj, rfl⟩ := List.getElem_of_mem hx
    simpa using h j hj
  rw [this]
theorem wIdx_some {q : List Cl} {t k : Nat} (hk : k < q.length) (h1 : q[k].2.1 = t) (h : ∀ (j : Nat) (hj : j < q.length), j < k → q[j].2.1 ≠ t) : wIdx q t = (k : Int) := by
  unfold wIdx
  have : (q.findIdx? fun c => c.2.1 == t) = some k := by
    rw [List.findIdx?_eq_some_iff_getElem]
    exact ⟨hk, by simpa using h1, fun j hj => by simpa using h j (by omega) hj⟩
  rw [this]
/-- A table of the reference as it is passed. -/
def rtA (A1 A2 : Option Addr) (n1 c1 n2 c2 : Nat) : Array Value := #[.slice A1 n1 c1, .slice A2 n2 c2]
def ScL (w : World) (p : Cl → Bool) (l : List Cl) (n : Nat) (i : Value) (z : World) : Prop :=
  ∃ k : Nat, k ≤ n ∧ i = .int .i64 (k : Int) ∧ Hid (Below w.heap.size w z) ∧ Hid (∀ (j : Nat) (h : j < l.length), j < k → p l[j] = false)
theorem sc_start (w : World) (p : Cl → Bool) (l : List Cl) (n : Nat) : ScL w p l n (.int .i64 0) w := ⟨0, Nat.zero_le _, rfl, Lib.hid (Below.refl _ w), Lib.hid (fun _ _ h => absurd h (Nat.not_lt_zero _))⟩
theorem sc_next {p : Cl → Bool} {l : List Cl} {k : Nat} (h : ∀ (j : Nat) (h : j < l.length), j < k → p l[j] = false) (hk : k < l.length) (h1 : p l[k] = false) : ∀ (j : Nat) (h : j < l.length), j < k + 1 → p l[j] = false := fun j hj hjk => by
  rcases Nat.lt_succ_iff_lt_or_eq.1 hjk with h2 | rfl
  · exact h j hj h2
  · exact h1
set_option maxHeartbeats 1600000 in
theorem rWaits_any (A1 A : Option Addr) (n1 c1 n c : Nat) (q : List Cl) (t : Nat) (w : World) (h : Lz (fun _ => False) w 4 A n (rcL q)) (hn : n ≤ 100000) :
    Calls Tryz.prog 16 #[.agg (rtA A1 A n1 c1 n c), .int .u64 (t : Int)] w (RetB w (.int .i64 (wIdx q t))) := by
  obtain ⟨b2, hb2⟩ : ∃ b2, w.heap.size = b2 := ⟨_, rfl⟩
  have HB := Lib.hid (show Below w.heap.size w (w.alloc (.cells (rtA A1 A n1 c1 n c) 28)) from (Below.refl _ w).alloc (Nat.le_refl _) _)
  have HL := Lib.hid (h.below HB.out)
  have A2 := Lib.hid (At.new w 28 (rtA A1 A n1 c1 n c))
  have hlen := h.rclen
  clear h
  go_enter Tryz.func16, Tryz.ntmps16
  go_upto_region 1 with fail
  rw [hb2] at A2
  generalize w.alloc (.cells (rtA A1 A n1 c1 n c) 28) = z at HB HL A2 ⊢
  have hbz : b2 < z.heap.size := A2.out.lt
  clear hb2
  go_wp2_with fail
  go_loopw [5] (fun i wr => ScL z (fun c => c.2.1 == t) q n i wr) (fun i _ => n - (intOf i).toNat)
  case atStart => exact sc_start z _ q n
  case round =>
    obtain ⟨k, hk, rfl, HR, HN⟩ := hrel
    have p1 : wr.cell? ⟨b2, 1, none⟩ = some (.slice A n c) := (A2.out.under HR.out hbz).cell 1
    by_cases hlt : k < n
    · obtain ⟨b, o, hl, rfl, hb, hr⟩ := HL.out.rc hlt
      have q2 : wr.cell? ⟨b, o + k * 4 + 2, none⟩ = some (.int .u64 (q[k].2.1 : Int)) := (HR.out.cell (p := ⟨b, o + k * 4 + 2, none⟩) hb).trans (hr 2 _ rfl)
      obtain ⟨x, hx⟩ : ∃ x, q[k] = x := ⟨_, rfl⟩
      rw [hx] at q2
      have HX := Lib.hid hx
      clear hr hx
      by_cases hpx : x.2.1 = t
      · have e : ((x.2.1 : Int) == (t : Int)) = true := by rw [nat_beq, hpx, beq_self_eq_true]
        have HPX := Lib.hid hpx
        clear hpx
        go_wp2_with fail
        go_ret
        exact ⟨by rw [wIdx_some hl (by rw [HX.out]; exact HPX.out) (fun j hj hjk => by have := HN.out j hj hjk; simpa using this)]; rfl, HB.out.trans (HR.out.mono HB.out.size)⟩
      · have e : ((x.2.1 : Int) == (t : Int)) = false := by rw [nat_beq]; simpa using hpx
        have HPX := Lib.hid hpx
        clear hpx
        go_wp2_with fail
        exact ⟨⟨k + 1, by omega, by go_num, HR, Lib.hid (sc_next (p := fun c => c.2.1 == t) HN.out hl (by rw [HX.out]; simpa using HPX.out))⟩, by simp [intOf]; omega⟩
    · obtain rfl : k = n := by omega
      go_wp2_with fail
      go_ret
      exact ⟨by rw [wIdx_none (fun j hj => by have := HN.out j hj (by omega); simpa using this)]; rfl, HB.out.trans (HR.out.mono HB.out.size)⟩
/-- Two resources, compared. -/
theorem rs_beq (a b : Rs) : (a == b) = (a.1 == b.1 && ((a.2 : Int) == (b.2 : Int))) := by
  obtain ⟨a1, a2⟩ := a
  obtain ⟨b1, b2⟩ := b
  rw [nat_beq]
  rfl
theorem exec_eqR {o : Oper} {a : Act} {w : World} (x y : Operand) (ho : o.op = .binOp .eql 33 x y 33) (r s : Rs) (hx : a.eval x = .agg (rsA r)) (hy : a.eval y = .agg (rsA s)) : (execOp a.eval o).run Tryz.prog w = .ok (.value (.bool (r == s))) w := by
  obtain ⟨r1, r2⟩ := r
  obtain ⟨s1, s2⟩ := s
  unfold rsA at hx hy
  unfold execOp
  rw [ho]
  simp only [hx, hy]
  rw [rs_beq]
  go_simp
  by_cases h1 : r1 = s1
  · by_cases h2 : (r2 : Int) = (s2 : Int)
    · simp [h1, h2]
    · simp [h1, h2]
  · simp [h1]
theorem modeR_none {l : List Cl} {t : Nat} {r : Rs} (h : ∀ (j : Nat) (hj : j < l.length), isC t r l[j] = false) : modeR l t r = 0 := by
  unfold modeR
  have : l.find? (isC t r) = none := by
    rw [List.find?_eq_none]
    intro x hx
    obtain ⟨j, hj, rfl⟩ := List.getElem_of_mem hx
    rw [h j hj]
    simp
  rw [this]
  rfl
theorem modeR_at {l : List Cl} {t k : Nat} {r : Rs} (hk : k < l.length) (h1 : isC t r l[k] = true) (h : ∀ (j : Nat) (hj : j < l.length), j < k → isC t r l[j] = false) : modeR l t r = l[k].2.2 := by
  unfold modeR
  have : l.find? (isC t r) = some l[k] := by
    rw [List.find?_eq_some_iff_getElem]
    exact ⟨h1, k, hk, rfl, fun j hj => by rw [h j (by omega) hj]; rfl⟩
  rw [this]
  rfl
set_option maxHeartbeats 3200000 in
theorem rMode_any (A : Option Addr) (n c : Nat) (l : List Cl) (t : Nat) (r : Rs) (w : World) (h : Lz (fun _ => False) w 4 A n (rcL l)) (hn : n ≤ 100000) :
    Calls Tryz.prog 31 #[.slice A n c, .int .u64 (t : Int), .agg (rsA r)] w (RetB w (.int .i64 (modeR l t r))) := by
  obtain ⟨b5, hb5⟩ : ∃ b5, w.heap.size = b5 := ⟨_, rfl⟩
  have HB := Lib.hid (show Below w.heap.size w (w.alloc (.cells (rsA r) 33)) from (Below.refl _ w).alloc (Nat.le_refl _) _)
  have HL := Lib.hid (h.below HB.out)
  have A5 := Lib.hid (At.new w 33 (rsA r))
  have hlen := h.rclen
  clear h
  go_enter Tryz.func31, Tryz.ntmps31
  go_upto_region 1 with fail
  rw [hb5] at A5
  generalize w.alloc (.cells (rsA r) 33) = z at HB HL A5 ⊢
  have hbz : b5 < z.heap.size := A5.out.lt
  clear hb5
  go_wp2_with fail
  go_loopw [7] (fun i wr => ScL z (fun c => isC t r c) l n i wr) (fun i _ => n - (intOf i).toNat)
  case atStart => exact sc_start z _ l n
  case round =>
    obtain ⟨k, hk, rfl, HR, HN⟩ := hrel
    have A5R := Lib.hid (A5.out.under HR.out hbz)
    by_cases hlt : k < n
    · obtain ⟨b, o, hl, rfl, hb0, hr⟩ := HL.out.rc hlt
      have hb : b < wr.heap.size := Nat.lt_of_lt_of_le hb0 HR.out.size
      have R1 : Hid (wr.rangeAt b (o + k * 4) (rcV l[k])) := fun j v hv => (HR.out.cell (p := ⟨b, o + k * 4 + j, none⟩) hb0).trans (hr j v hv)
      obtain ⟨x, hx⟩ : ∃ x, l[k] = x := ⟨_, rfl⟩
      rw [hx] at R1
      have R0 : Hid (wr.rangeAt b (o + k * 4) (encR x.1)) := fun j v hv => R1.out j v (by
        match j, hv with
        | 0, hv => exact hv
        | 1, hv => exact hv)
      have HX := Lib.hid hx
      clear hr hx hb0
      go_upto_region 4 with fail
      obtain ⟨bq, hbq⟩ : ∃ bq, (x.1 == r) = bq := ⟨_, rfl⟩
      have HBQ := Lib.hid hbq
      clear hbq
      by_cases hpx : x.2.1 = t
      · have e : ((x.2.1 : Int) == (t : Int)) = true := by rw [nat_beq, hpx, beq_self_eq_true]
        have HPX := Lib.hid hpx
        clear hpx
        refine wp_region_held_drew (S := Below wr.heap.size wr) (by kernel_rfl) ((Below.refl _ wr).drew) (fun hS => ?_)
        refine tk 0 hS ?_
        refine tk 1 hS ?_
        refine tk 2 hS ?_
        refine tk 3 hS ?_
        refine tk 4 hS ?_ (hy := by intro wz hz; have q0 : wz.rangeAt b (o + k * 4) (encR x.1) := fun j v hv => (hz.cell (p := ⟨b, o + k * 4 + j, none⟩) hb).trans (R0.out j v hv); have q2 : wz.cell? ⟨b, o + k * 4 + 2, none⟩ = some (.int .u64 (x.2.1 : Int)) := (hz.cell (p := ⟨b, o + k * 4 + 2, none⟩) hb).trans (R1.out 2 _ rfl); have q3 : wz.cell? ⟨b, o + k * 4 + 3, none⟩ = some (.int .i64 x.2.2) := (hz.cell (p := ⟨b, o + k * 4 + 3, none⟩) hb).trans (R1.out 3 _ rfl); go_simp <;> with_reducible rfl)
        refine tk 5 hS ?_
        refine tk 6 hS ?_
        refine tk 7 hS ?_
        refine tk 8 hS ?_
        refine tk 9 hS ?_
        refine tk 10 hS ?_
        refine tk 11 hS ?_
        refine tk (v := .agg (rsA x.1)) 12 hS ?_ (hy := by intro wz hz; have q0 : wz.rangeAt b (o + k * 4) (encR x.1) := fun j v hv => (hz.cell (p := ⟨b, o + k * 4 + j, none⟩) hb).trans (R0.out j v hv); have q2 : wz.cell? ⟨b, o + k * 4 + 2, none⟩ = some (.int .u64 (x.2.1 : Int)) := (hz.cell (p := ⟨b, o + k * 4 + 2, none⟩) hb).trans (R1.out 2 _ rfl); have q3 : wz.cell? ⟨b, o + k * 4 + 3, none⟩ = some (.int .i64 x.2.2) := (hz.cell (p := ⟨b, o + k * 4 + 3, none⟩) hb).trans (R1.out 3 _ rfl); exact exec_load_in 33 (.tmp 25) rfl b (o + k * 4) rfl (encR x.1) 2 strR rfl q0)
        refine tk (v := .agg (rsA r)) 13 hS ?_ (hy := by intro wz hz; have q0 : wz.rangeAt b (o + k * 4) (encR x.1) := fun j v hv => (hz.cell (p := ⟨b, o + k * 4 + j, none⟩) hb).trans (R0.out j v hv); have q2 : wz.cell? ⟨b, o + k * 4 + 2, none⟩ = some (.int .u64 (x.2.1 : Int)) := (hz.cell (p := ⟨b, o + k * 4 + 2, none⟩) hb).trans (R1.out 2 _ rfl); have q3 : wz.cell? ⟨b, o + k * 4 + 3, none⟩ = some (.int .i64 x.2.2) := (hz.cell (p := ⟨b, o + k * 4 + 3, none⟩) hb).trans (R1.out 3 _ rfl); exact exec_load_at 33 (.tmp 5) rfl b5 rfl (rsA r) 2 strR rfl (A5R.out.under hz A5R.out.lt))
        refine tk (v := .bool bq) 14 hS ?_ (hy := by intro wz hz; have q0 : wz.rangeAt b (o + k * 4) (encR x.1) := fun j v hv => (hz.cell (p := ⟨b, o + k * 4 + j, none⟩) hb).trans (R0.out j v hv); have q2 : wz.cell? ⟨b, o + k * 4 + 2, none⟩ = some (.int .u64 (x.2.1 : Int)) := (hz.cell (p := ⟨b, o + k * 4 + 2, none⟩) hb).trans (R1.out 2 _ rfl); have q3 : wz.cell? ⟨b, o + k * 4 + 3, none⟩ = some (.int .i64 x.2.2) := (hz.cell (p := ⟨b, o + k * 4 + 3, none⟩) hb).trans (R1.out 3 _ rfl); rw [← HBQ.out]; exact exec_eqR (.tmp 26) (.tmp 27) rfl x.1 r rfl rfl)
        refine tk 15 hS ?_
        refine wpAnyH_done (by kernel_rfl) ?_ _
        have HS := Lib.hid (HR.out.trans (hS.mono HR.out.size))
        have q3 : ∀ wz, Below wr.heap.size wr wz → wz.cell? ⟨b, o + k * 4 + 3, none⟩ = some (.int .i64 x.2.2) := fun wz hz => (hz.cell (p := ⟨b, o + k * 4 + 3, none⟩) hb).trans (R1.out 3 _ rfl)
        have q4 := q3 _ hS
        clear hS q3
        cases bq
        · go_wp2_with fail
          exact ⟨⟨k + 1, by omega, by go_num, HS, Lib.hid (sc_next (p := fun c => isC t r c) HN.out hl (by rw [HX.out]; unfold isC; rw [HBQ.out]; simp))⟩, by simp [intOf]; omega⟩
        · go_wp2_with fail
          go_ret
          exact ⟨by rw [modeR_at hl (by rw [HX.out]; unfold isC; rw [HBQ.out, HPX.out]; simp) HN.out, HX.out]; rfl, HB.out.trans (HS.out.mono HB.out.size)⟩
      · have e : ((x.2.1 : Int) == (t : Int)) = false := by rw [nat_beq]; simpa using hpx
        have HPX := Lib.hid hpx
        clear hpx
        refine wp_region_held_drew (S := Below wr.heap.size wr) (by kernel_rfl) ((Below.refl _ wr).drew) (fun hS => ?_)
        refine tk 0 hS ?_
        refine tk 1 hS ?_
        refine tk 2 hS ?_
        refine tk 3 hS ?_
        refine tk 4 hS ?_ (hy := by intro wz hz; have q0 : wz.rangeAt b (o + k * 4) (encR x.1) := fun j v hv => (hz.cell (p := ⟨b, o + k * 4 + j, none⟩) hb).trans (R0.out j v hv); have q2 : wz.cell? ⟨b, o + k * 4 + 2, none⟩ = some (.int .u64 (x.2.1 : Int)) := (hz.cell (p := ⟨b, o + k * 4 + 2, none⟩) hb).trans (R1.out 2 _ rfl); have q3 : wz.cell? ⟨b, o + k * 4 + 3, none⟩ = some (.int .i64 x.2.2) := (hz.cell (p := ⟨b, o + k * 4 + 3, none⟩) hb).trans (R1.out 3 _ rfl); go_simp <;> with_reducible rfl)
        refine tk 5 hS ?_
        refine tk 6 hS ?_
        refine tk 7 hS ?_
        refine sk 8 hS ?_
        refine sk 9 hS ?_
        refine sk 10 hS ?_
        refine sk 11 hS ?_
        refine sk 12 hS ?_
        refine sk 13 hS ?_
        refine sk 14 hS ?_
        refine tk 15 hS ?_
        refine wpAnyH_done (by kernel_rfl) ?_ _
        have HS := Lib.hid (HR.out.trans (hS.mono HR.out.size))
        clear hS
        go_wp2_with fail
        exact ⟨⟨k + 1, by omega, by go_num, HS, Lib.hid (sc_next (p := fun c => isC t r c) HN.out hl (by rw [HX.out]; simp [isC, HPX.out]))⟩, by simp [intOf]; omega⟩
    · obtain rfl : k = n := by omega
      go_wp2_with fail
      go_ret
      exact ⟨by rw [modeR_none (fun j hj => HN.out j hj (by omega))]; rfl, HB.out.trans (HR.out.mono HB.out.size)⟩
end Go.Proofs.YthbifccankfngaaGreatDoor
