/-
  The walks of Open.
  Conditions: disks of at most 100000 sectors, logs of at most 2000; the disk's fuse is at 0 or never burns.
-/
import Derived.Test.YthicidpdgggbjaaDoorK13Q
namespace Go.Proofs.YthicidpdgggbjaaDoor
open Go.RowKit
set_option maxRecDepth 8000

theorem held_le {S : List Sect} {es : List Ent} {kept : Nat → Bool} {m : Nat} (hh : Held S es kept) (hw : IsWhole es kept m) : pos (es.take m) ≤ S.length := by
  by_cases h : pos (es.take m) ≤ S.length
  · exact h
  · have hlt : S.length < pos es := by have := pos_take_le es m; omega
    have h1 := hh.yes S.length hlt (hw.all _ (by omega))
    rw [List.getElem?_eq_none (Nat.le_refl _), List.getElem?_eq_getElem (by rw [lay_length]; exact hlt)] at h1
    cases h1

/-- The two stores behind Join. -/
theorem LogAt.fill {X : Nat → Prop} {B : Nat} {w : World} {g gd base size m : Nat} {rs : List Er} {v : Value} (h : LogAt X B w g gd base size [] 0 [] (.slice none 0 0) (.slice none 0 0)) (ho : w.ownsRow B 42 13 v m (flatE rs)) (hm : rs.length = m)
    (he : ∀ r ∈ rs, ELz (fun k => XL g v (.slice none 0 0) k ∨ X k) w r) (q : Nat) :
    LogAt X B ((w.setCell ⟨g, 3, none⟩ v).setCell ⟨g, 4, none⟩ (.int .i64 (q : Int))) g gd base size rs q [] v (.slice none 0 0) ∧ Mod (fun k => k = g) w ((w.setCell ⟨g, 3, none⟩ v).setCell ⟨g, 4, none⟩ (.int .i64 (q : Int))) := by
  have hm : Mod (fun k => k = g) w ((w.setCell ⟨g, 3, none⟩ v).setCell ⟨g, 4, none⟩ (.int .i64 (q : Int))) :=
    Mod.setCell (X := fun k => k = g) (Mod.setCell (X := fun k => k = g) (Mod.refl (fun k => k = g) w) (.inl rfl) _) (.inl rfl) _
  subst m
  refine ⟨⟨(h.box.set 3 _).set 4 _, own_keep ho fun k hk => ?_, World.ownsRow_nil _ _ _ _, fun r hr => (he r hr).keptY hm fun k _ hk => .inl (.inl hk), h.low⟩, hm⟩
  obtain ⟨_, cur, hc⟩ := own_cells ho hk
  exact hm.block k (Array.getElem?_eq_some_iff.1 hc).1 fun e => own_ne ho h.box (by decide) (by rw [← e]; exact hk.symm)

theorem lz_zeros {X : Nat → Prop} (w : World) (n : Nat) (hX : ∀ k, X k → k < w.heap.size) : Lz X (w.alloc (.cells (flat (List.replicate n zsec)).toArray 68)) 64 (some ⟨w.heap.size, 0, none⟩) n (flat (List.replicate n zsec)) := by
  refine ⟨by rw [flat_length, List.length_replicate], fun _ => ⟨_, _, rfl, fun hx => by have := hX _ hx; omega, (Array.getElem?_eq_some_iff.1 (heap_alloc_new w _)).1, fun j u hu => ?_⟩⟩
  rw [cell_of_row _ w.heap.size _ (flat (List.replicate n zsec)).toArray 68 (0, 0) (heap_alloc_new w _)]
  simpa using hu

/-- Where Open stands behind Join. -/
structure OpZ (w z : World) (gd gs base size : Nat) (S : List Sect) (nw fu : Int) (kp : List Bool) (rs : List Er) (q : Nat) (vE : Value) : Prop where
  log : LogAt (fun k => k < w.heap.size) w.heap.size z w.heap.size gd base size rs q [] vE (.slice none 0 0)
  plat : Plat (fun _ => False) z gd gs S nw fu kp false
  low : Below w.heap.size w z
theorem OpZ.below {w z z' : World} {gd gs base size : Nat} {S : List Sect} {nw fu : Int} {kp : List Bool} {rs : List Er} {q : Nat} {vE : Value} (h : OpZ w z gd gs base size S nw fu kp rs q vE) (hb : Below z.heap.size z z') : OpZ w z' gd gs base size S nw fu kp rs q vE :=
  ⟨h.log.below hb, h.plat.below hb, h.low.trans (hb.mono h.low.size)⟩
theorem OpZ.mk2 {w w3 : World} {gd gs base size m : Nat} {S : List Sect} {nw fu : Int} {kp : List Bool} {rs : List Er} {v : Value} (hl : LogAt (fun k => k < w.heap.size) w.heap.size w3 w.heap.size gd base size [] 0 [] (.slice none 0 0) (.slice none 0 0))
    (hd : Plat (fun _ => False) w gd gs S nw fu kp false) (hb : Below w.heap.size w w3) (ho : w3.ownsRow w.heap.size 42 13 v m (flatE rs)) (hm : rs.length = m)
    (he : ∀ r ∈ rs, ELz (fun k => XL w.heap.size v (.slice none 0 0) k ∨ k < w.heap.size) w3 r) (q : Nat) :
    OpZ w ((w3.setCell ⟨w.heap.size, 3, none⟩ v).setCell ⟨w.heap.size, 4, none⟩ (.int .i64 (q : Int))) gd gs base size S nw fu kp rs q v := by
  obtain ⟨L, M⟩ := hl.fill ho hm he q
  have hb2 : Below w.heap.size w ((w3.setCell ⟨w.heap.size, 3, none⟩ v).setCell ⟨w.heap.size, 4, none⟩ (.int .i64 (q : Int))) :=
    ⟨M.os.trans hb.os, M.tape.trans hb.tape, M.output.trans hb.output, Nat.le_trans hb.size M.size, fun k hk => (M.block k (Nat.lt_of_lt_of_le hk hb.size) (by omega)).trans (hb.block k hk)⟩
  exact ⟨L, hd.below hb2, hb2⟩

/-- A log that is opened. -/
def OpenY (w : World) (gd gs base size : Nat) (S : List Sect) (nw : Int) (es : List Ent) (kept : Nat → Bool) (e : Ending) (w' : World) : Prop :=
  ∃ (m q : Nat) (vE : Value) (rs : List Er) (nw' : Int), IsWhole es kept m ∧ q = pos (es.take m) ∧ e = .returned (.tuple #[.pointer (some ⟨w.heap.size, 0, none⟩), .int .i64 0]) ∧ rs.map (·.e) = es.take m ∧ nw ≤ nw' ∧ nw' ≤ nw + 1 ∧
    LogAt (fun k => k < w.heap.size) w.heap.size w' w.heap.size gd base size rs q [] vE (.slice none 0 0) ∧ Plat (fun _ => False) w' gd gs (upd S (base + q) (List.replicate (size - q) zsec) (fun _ => true)) nw' (-1) [] false ∧ Mod (pl_own gd gs) w w'
/-- The power goes while it is opened. -/
def OpenT (w : World) (gd gs base size : Nat) (S : List Sect) (nw : Int) (kp : List Bool) (es : List Ent) (kept : Nat → Bool) (e : Ending) (w' : World) : Prop :=
  ∃ (m q : Nat) (u : Value) (fu : Int) (kp' : List Bool) (dn : Bool), IsWhole es kept m ∧ q = pos (es.take m) ∧ e = .returned u ∧ kp'.length ≤ kp.length ∧
    Plat (fun _ => False) w' gd gs (upd S (base + q) (List.replicate (size - q) zsec) (fun j => kp.getD j false)) nw fu kp' dn ∧ Mod (pl_own gd gs) w w'

section
set_option maxHeartbeats 800000 in
theorem open_nil (base size : Int) (w : World) : Calls Tryd.prog 25 #[.pointer none, .int .i64 base, .int .i64 size] w fun e w' => e = .returned (.tuple #[.pointer none, .int .i64 1]) ∧ w = w' := by
  have NW := Lib.hid (wnew_nil base size w)
  go_enter Tryd.func25, Tryd.ntmps25
  go_wp2_with (go_at_call 9; refine NW.out.mono ?_; rintro e w1 ⟨rfl, rfl⟩)
  go_ret2
  exact ⟨rfl, rfl⟩
variable (gd gs : Nat) (S : List Sect) (nw fu : Int) (kp : List Bool) (dn : Bool) (w : World)
set_option maxHeartbeats 800000 in
theorem open_bad (X : Nat → Prop) (base size : Int) (h : Plat X w gd gs S nw fu kp dn) (hn : S.length ≤ 100000) (hb1 : -9223372036854775808 ≤ base) (hb2 : base ≤ 9223372036854775807) (hs : ¬ (0 ≤ base ∧ 1 ≤ size ∧ size ≤ S.length - base)) :
    Calls Tryd.prog 25 #[.pointer (some ⟨gd, 0, none⟩), .int .i64 base, .int .i64 size] w fun e w' => e = .returned (.tuple #[.pointer none, .int .i64 2]) ∧ w = w' := by
  have NW := Lib.hid (wnew_bad X gd gs S nw fu kp dn w base size h hn hb1 hb2 hs)
  clear h hs
  go_enter Tryd.func25, Tryd.ntmps25
  go_wp2_with (go_at_call 9; refine NW.out.mono ?_; rintro e w1 ⟨rfl, rfl⟩)
  go_ret2
  exact ⟨rfl, rfl⟩
set_option maxHeartbeats 3200000 in
theorem open_ok (es : List Ent) (kept : Nat → Bool) (base size : Nat) (hd : Plat (fun _ => False) w gd gs S nw (-1) [] false) (hn : S.length ≤ 100000) (h1 : 1 ≤ size) (h2 : base + size ≤ S.length) (hs : size ≤ 2000) (hw0 : 0 ≤ nw) (hw1 : nw ≤ 1000000)
    (hh : Held ((S.drop base).take size) es kept) (hnum : Numd es 0) : Calls Tryd.prog 25 #[.pointer (some ⟨gd, 0, none⟩), .int .i64 (base : Int), .int .i64 (size : Int)] w (OpenY w gd gs base size S nw es kept) := by
  have HW0 := Lib.hid hw0
  have HW1 := Lib.hid hw1
  have NW := Lib.hid (wnew_ok (fun _ => False) gd gs S nw (-1) [] false w base size hd hn h1 h2)
  have LGN := Lib.hid (log_new (fun k => k < w.heap.size) w gd base size)
  have BWN := Lib.hid ((Below.refl w.heap.size w).alloc (Nat.le_refl _) (.cells #[.pointer (some ⟨gd, 0, none⟩), .int .i64 (base : Int), .int .i64 (size : Int), .slice none 0 0, .int .i64 0, .slice none 0 0] 82))
  obtain ⟨L, hL⟩ : ∃ L, L = (S.drop base).take size := ⟨_, rfl⟩
  have HRD : Hid (∀ w1, Plat (fun _ => False) w1 gd gs S nw (-1) [] false → Calls Tryd.prog 50 #[.pointer (some ⟨gd, 0, none⟩), .int .i64 (base : Int), .int .i64 (size : Int)] w1 (RetRead w1 L)) := fun w1 h => by
    rw [hL]
    exact read_ok (fun _ => False) gd gs S nw (-1) [] w1 base size h hn (by omega) h2
  have HLL := Lib.hid (show L.length = size by rw [hL, List.length_take, List.length_drop]; omega)
  rw [← hL] at hh
  clear hL
  have HD := Lib.hid hd
  have HH := Lib.hid hh
  have HNM := Lib.hid hnum
  have HLS := Lib.hid (show L.length ≤ 2000 by rw [HLL.out]; exact hs)
  have HN := Lib.hid hn
  have H2 := Lib.hid h2
  have HS := Lib.hid hs
  clear hd hh hnum
  go_enter Tryd.func25, Tryd.ntmps25
  go_upto_region 8 with (first
    | (go_at_call 9
       refine NW.out.mono ?_
       rintro e w1 ⟨rfl, hw1⟩
       rw [← hw1] at LGN BWN
       clear hw1)
    | (go_at_call 50
       refine (HRD.out w1 (HD.out.below BWN.out)).mono ?_
       rintro e w2 ⟨A2, c2, rfl, ho2, hb2⟩
       have LG2 := Lib.hid (LGN.out.below hb2)
       have B2 := Lib.hid (BWN.out.trans (hb2.mono BWN.out.size))
       have LZ2 := Lib.hid (Lz.of_own (X := fun _ => False) ho2 (fun _ h => h.elim))
       clear ho2 hb2)
    | (go_at_call 23
       refine (join_any (fun _ => False) _ c2 A2 _ es kept w2 LZ2.out HLS.out HH.out HNM.out).mono ?_
       rintro e w3 ⟨m, v, rs, hwh, rfl, hents, hoe, hels, hb3⟩
       have HQ0 := Lib.hid (held_le HH.out hwh)
       rw [HLL.out] at HQ0
       generalize hq : pos (es.take m) = q at HQ0 ⊢
       have HQ := Lib.hid hq
       have HWH := Lib.hid hwh
       have HEN := Lib.hid hents
       have LG3 := Lib.hid (LG2.out.below hb3)
       have B3 := Lib.hid (B2.out.trans (hb3.mono B2.out.size))
       have GL2 := Lib.hid LG2.out.box.lt
       have HRL := Lib.hid (show rs.length = m by have h5 := congrArg List.length hents; rw [List.length_map, List.length_take, Nat.min_eq_left hwh.le] at h5; exact h5)
       have HOE := Lib.hid (own_base hoe B2.out.size)
       obtain ⟨AE, cE, rfl, _, _⟩ := own_slice hoe
       have HEL : Hid (∀ r ∈ rs, ELz (fun k => XL w.heap.size (.slice AE m cE) (.slice none 0 0) k ∨ k < w.heap.size) w3 r) := fun r hr => (hels r hr).mono fun k _ hk => hk.elim (fun hk => hk.elim (fun e => .inl (by rw [e]; exact GL2.out)) (fun hk => hk.elim (fun hk => .inr hk) (fun hk => by cases hk))) (fun hk => .inl (Nat.lt_of_lt_of_le hk B2.out.size))
       clear hq hwh hents hoe hels hb3
       have k3 : w3.cell? ⟨w.heap.size, 3, none⟩ = some (.slice none 0 0) := LG3.out.cells.2.2.2.1
       have k4 : w3.cell? ⟨w.heap.size, 4, none⟩ = some (.int .i64 0) := LG3.out.cells.2.2.2.2.1
       have j3 : w3.frozen? ⟨w.heap.size, 3, none⟩ = false := LG3.out.box.frozen 3
       have j4 : w3.frozen? ⟨w.heap.size, 4, none⟩ = false := LG3.out.box.frozen 4))
  have Z := Lib.hid (OpZ.mk2 LG3.out HD.out B3.out HOE.out HRL.out HEL.out q)
  clear LGN BWN LG2 B2 LZ2 LG3 B3 HOE HEL k3 k4 j3 j4 NW HH HNM
  generalize (w3.setCell ⟨w.heap.size, 3, none⟩ (.slice AE m cE)).setCell ⟨w.heap.size, 4, none⟩ (.int .i64 (q : Int)) = z at *
  obtain ⟨le, hle⟩ : ∃ le, le = size - q := ⟨_, rfl⟩
  have LF := Lib.hid (fun z1 (h : LogAt (fun k => k < w.heap.size) w.heap.size z1 w.heap.size gd base size rs q [] (.slice AE m cE) (.slice none 0 0)) => lleft_any _ _ z1 _ gd base size rs q [] _ _ h (by have := HQ0.out; have := HS.out; omega) (Nat.zero_le _) q rfl HQ0.out (by have := HS.out; omega) le hle)
  have HLE := Lib.hid hle
  by_cases h0 : le = 0
  · have q0 : ((le : Int) == 0) = true := beq_iff_eq.2 (by omega)
    have q1 : decide ((le : Int) = 0) = true := decide_eq_true (by omega)
    clear hle
    go_wp2_with (go_at_call 26; refine (LF.out _ Z.out.log).mono ?_; rintro e z1 ⟨rfl, n1, rfl⟩; have Z1 := Lib.hid (Z.out.below (z' := z.drewN n1) ⟨rfl, rfl, rfl, Nat.le_refl _, fun _ _ => rfl⟩); generalize z.drewN n1 = z1 at *)
    go_ret2
    refine ⟨m, q, _, rs, nw, HWH.out, HQ.out.symm, rfl, HEN.out, Int.le_refl _, by omega, Z1.out.log, ?_, Mod.of_below Z1.out.low _⟩
    rw [← HLE.out, h0, List.replicate_zero, upd_none _ _ _ _ (fun j hj => absurd hj (Nat.not_lt_zero _))]
    exact Z1.out.plat
  · have q0 : ((le : Int) == 0) = false := beq_eq_false_iff_ne.2 (by omega)
    have q1 : decide ((le : Int) = 0) = false := decide_eq_false (by omega)
    obtain ⟨p, hp⟩ : ∃ p, p = base + q := ⟨_, rfl⟩
    have e1 : (base : Int) + (q : Int) = (p : Int) := by omega
    have e2 : IntKind.i64.wrap (p : Int) = (p : Int) := by rw [IntKind.wrap_i64]; have := HQ0.out; omega
    have HPS := Lib.hid (show p + le ≤ S.length ∧ p < S.length ∧ le ≤ 100000 by have := HQ0.out; omega)
    have HP := Lib.hid hp
    clear hle hp
    go_upto_region 10 with (go_at_call 26; refine (LF.out _ Z.out.log).mono ?_; rintro e z1 ⟨rfl, n1, rfl⟩; have Z1 := Lib.hid (Z.out.below (z' := z.drewN n1) ⟨rfl, rfl, rfl, Nat.le_refl _, fun _ _ => rfl⟩); generalize z.drewN n1 = z1 at *)
    have hbx : At z1 w.heap.size 82 #[.pointer (some ⟨gd, 0, none⟩), .int .i64 (base : Int), .int .i64 (size : Int), .slice AE m cE, .int .i64 (q : Int), .slice none 0 0] := Z1.out.log.box
    refine wp_region_held_drew (S := fun z => At z w.heap.size 82 #[.pointer (some ⟨gd, 0, none⟩), .int .i64 (base : Int), .int .i64 (size : Int), .slice AE m cE, .int .i64 (q : Int), .slice none 0 0]) (by kernel_rfl) (hbx.under (B := z1.heap.size) ⟨rfl, rfl, rfl, Nat.le_refl _, fun _ _ => rfl⟩ hbx.lt) (fun hS => ?_)
    refine takeH (i := 0) (d := 47) (v := ?vo0) rfl (by kernel_rfl) (by kernel_rfl) (by kernel_rfl) (fun _ _ _ h => h) rfl (by rfl) ?yo0 hS ?ro0
    case yo0 => (intro wz hz; have c4 : wz.cell? ⟨w.heap.size, 4, none⟩ = some (.int .i64 (q : Int)) := hz.cell 4; go_simp <;> with_reducible rfl)
    simp only [List.setIfInBounds_toArray, List.set_cons_zero, List.set_cons_succ]
    refine takeH (i := 1) (d := 48) (v := ?vo1) rfl (by kernel_rfl) (by kernel_rfl) (by kernel_rfl) (fun _ _ _ h => h) rfl (by rfl) ?yo1 hS ?ro1
    case yo1 => (intro wz hz; have c4 : wz.cell? ⟨w.heap.size, 4, none⟩ = some (.int .i64 (q : Int)) := hz.cell 4; go_simp <;> with_reducible rfl)
    simp only [List.setIfInBounds_toArray, List.set_cons_zero, List.set_cons_succ]
    refine takeH (i := 2) (d := 49) (v := ?vo2) rfl (by kernel_rfl) (by kernel_rfl) (by kernel_rfl) (fun _ _ _ h => h) rfl (by rfl) ?yo2 hS ?ro2
    case yo2 => (intro wz hz; have c4 : wz.cell? ⟨w.heap.size, 4, none⟩ = some (.int .i64 (q : Int)) := hz.cell 4; go_simp <;> with_reducible rfl)
    simp only [List.setIfInBounds_toArray, List.set_cons_zero, List.set_cons_succ]
    refine takeH (i := 3) (d := 50) (v := ?vo3) rfl (by kernel_rfl) (by kernel_rfl) (by kernel_rfl) (fun _ _ _ h => h) rfl (by rfl) ?yo3 hS ?ro3
    case yo3 => (intro wz hz; have c4 : wz.cell? ⟨w.heap.size, 4, none⟩ = some (.int .i64 (q : Int)) := hz.cell 4; go_simp <;> with_reducible rfl)
    simp only [List.setIfInBounds_toArray, List.set_cons_zero, List.set_cons_succ]
    refine takeH (i := 4) (d := 51) (v := ?vo4) rfl (by kernel_rfl) (by kernel_rfl) (by kernel_rfl) (fun _ _ _ h => h) rfl (by rfl) ?yo4 hS ?ro4
    case yo4 => (intro wz hz; have c4 : wz.cell? ⟨w.heap.size, 4, none⟩ = some (.int .i64 (q : Int)) := hz.cell 4; go_simp <;> with_reducible rfl)
    simp only [List.setIfInBounds_toArray, List.set_cons_zero, List.set_cons_succ]
    refine takeH (i := 5) (d := 52) (v := ?vo5) rfl (by kernel_rfl) (by kernel_rfl) (by kernel_rfl) (fun _ _ _ h => h) rfl (by rfl) ?yo5 hS ?ro5
    case yo5 => (intro wz hz; have c4 : wz.cell? ⟨w.heap.size, 4, none⟩ = some (.int .i64 (q : Int)) := hz.cell 4; go_simp <;> with_reducible rfl)
    simp only [List.setIfInBounds_toArray, List.set_cons_zero, List.set_cons_succ]
    refine takeH (i := 6) (d := 53) (v := ?vo6) rfl (by kernel_rfl) (by kernel_rfl) (by kernel_rfl) (fun _ _ _ h => h) rfl (by rfl) ?yo6 hS ?ro6
    case yo6 => (intro wz hz; have c4 : wz.cell? ⟨w.heap.size, 4, none⟩ = some (.int .i64 (q : Int)) := hz.cell 4; go_simp <;> with_reducible rfl)
    simp only [List.setIfInBounds_toArray, List.set_cons_zero, List.set_cons_succ]
    refine takeH (i := 7) (d := 54) (v := ?vo7) rfl (by kernel_rfl) (by kernel_rfl) (by kernel_rfl) (fun _ _ _ h => h) rfl (by rfl) ?yo7 hS ?ro7
    case yo7 => (intro wz hz; have c4 : wz.cell? ⟨w.heap.size, 4, none⟩ = some (.int .i64 (q : Int)) := hz.cell 4; go_simp <;> with_reducible rfl)
    simp only [List.setIfInBounds_toArray, List.set_cons_zero, List.set_cons_succ]
    refine wpAnyH_ready (rs := [8]) (by kernel_rfl) (by simp) ?_
    refine AllReadyH.cons rfl (fun K hK => ?_) AllReadyH.nil
    go_simp
    refine (LF.out (z1.drewN 1) (Z1.out.log.drewN 1)).mono ?_
    rintro e y1 ⟨rfl, n2, rfl⟩
    have Z2 := Lib.hid (Z1.out.below (z' := (z1.drewN 1).drewN n2) ⟨rfl, rfl, rfl, Nat.le_refl _, fun _ _ => rfl⟩)
    generalize (z1.drewN 1).drewN n2 = z2 at *
    have hb : True := trivial
    refine hK.out _ _ (Z2.out.log.box) (fun hT => ?_)
    clear hK hb hS
    have hS := hT
    clear hT
    refine wpAnyH_ready (rs := [9]) (by kernel_rfl) (by simp) ?_
    refine AllReadyH.cons rfl (fun K hK => ?_) AllReadyH.nil
    have MK := make_any le HPS.out.2.2 z2
    go_simp
    have Z3 := Lib.hid (Z2.out.below ((Below.refl _ z2).alloc (Nat.le_refl _) (.cells (flat (List.replicate le zsec)).toArray 68)))
    have LZ := Lib.hid (lz_zeros (X := pl_own gd gs) z2 le (fun k hk => hk.elim (fun e => e ▸ Z2.out.plat.lt.1) (fun e => e ▸ Z2.out.plat.lt.2.1)))
    generalize z2.alloc (.cells (flat (List.replicate le zsec)).toArray 68) = z3 at *
    have hb : True := trivial
    refine hK.out _ _ (Z3.out.log.box) (fun hT => ?_)
    clear hK hb hS
    have hS := hT
    clear hT
    refine wpAnyH_ready (rs := [10]) (by kernel_rfl) (by simp) ?_
    refine AllReadyH.cons rfl (fun K hK => ?_) AllReadyH.nil
    go_simp
    refine (write_ok (fun _ => False) gd gs S nw (-1) [] z3 p le le (List.replicate le zsec) _ Z3.out.plat HN.out (by simp) HPS.out.2.1 HPS.out.1 LZ.out (by decide) (by decide) (by decide) HW0.out HW1.out).mono ?_
    rintro e z4 ⟨rfl, hp4, hm4⟩
    rw [if_neg (by decide)] at hp4
    have HP4 := Lib.hid hp4
    have HM4 := Lib.hid ((Mod.of_below Z3.out.low (pl_own gd gs)).trans hm4)
    have LG4 := Lib.hid (Z3.out.log.kept hm4 (fun k hk hx => by have h5 := (Z3.out.log.xlt k hk).2; have h6 := HD.out.lt; rcases hx with rfl | rfl <;> omega) (fun k hk hx => hx.elim (fun e => e ▸ HD.out.lt.1) (fun e => e ▸ HD.out.lt.2.1)))
    have hb : True := trivial
    clear hp4 hm4
    refine hK.out _ _ (LG4.out.box) (fun hT => ?_)
    clear hK hb hS
    have hS := hT
    clear hT
    refine takeH (i := 11) (d := 11) (v := ?vo11) rfl (by kernel_rfl) (by kernel_rfl) (by kernel_rfl) (fun _ _ _ h => h) rfl (by rfl) ?yo11 hS ?ro11
    case yo11 => (intro wz hz; have c4 : wz.cell? ⟨w.heap.size, 4, none⟩ = some (.int .i64 (q : Int)) := hz.cell 4; go_simp <;> with_reducible rfl)
    simp only [List.setIfInBounds_toArray, List.set_cons_zero, List.set_cons_succ]
    refine wpAnyH_done (by kernel_rfl) ?_ _
    clear hS hbx
    go_wp2_with fail
    go_ret2
    refine ⟨m, q, _, rs, nw + 1, HWH.out, HQ.out.symm, rfl, HEN.out, by omega, Int.le_refl _, LG4.out, ?_, HM4.out⟩
    rw [← HLE.out, ← HP.out]
    exact HP4.out
set_option maxHeartbeats 3200000 in
theorem open_torn (es : List Ent) (kept : Nat → Bool) (base size : Nat) (hd : Plat (fun _ => False) w gd gs S nw 0 kp false) (hn : S.length ≤ 100000) (h1 : 1 ≤ size) (h2 : base + size ≤ S.length) (hs : size ≤ 2000) (hkp : kp.length ≤ 100000)
    (hh : Held ((S.drop base).take size) es kept) (hnum : Numd es 0) : Calls Tryd.prog 25 #[.pointer (some ⟨gd, 0, none⟩), .int .i64 (base : Int), .int .i64 (size : Int)] w (OpenT w gd gs base size S nw kp es kept) := by
  have HKP := Lib.hid hkp
  have NW := Lib.hid (wnew_ok (fun _ => False) gd gs S nw 0 kp false w base size hd hn h1 h2)
  have LGN := Lib.hid (log_new (fun k => k < w.heap.size) w gd base size)
  have BWN := Lib.hid ((Below.refl w.heap.size w).alloc (Nat.le_refl _) (.cells #[.pointer (some ⟨gd, 0, none⟩), .int .i64 (base : Int), .int .i64 (size : Int), .slice none 0 0, .int .i64 0, .slice none 0 0] 82))
  obtain ⟨L, hL⟩ : ∃ L, L = (S.drop base).take size := ⟨_, rfl⟩
  have HRD : Hid (∀ w1, Plat (fun _ => False) w1 gd gs S nw 0 kp false → Calls Tryd.prog 50 #[.pointer (some ⟨gd, 0, none⟩), .int .i64 (base : Int), .int .i64 (size : Int)] w1 (RetRead w1 L)) := fun w1 h => by
    rw [hL]
    exact read_ok (fun _ => False) gd gs S nw 0 kp w1 base size h hn (by omega) h2
  have HLL := Lib.hid (show L.length = size by rw [hL, List.length_take, List.length_drop]; omega)
  rw [← hL] at hh
  clear hL
  have HD := Lib.hid hd
  have HH := Lib.hid hh
  have HNM := Lib.hid hnum
  have HLS := Lib.hid (show L.length ≤ 2000 by rw [HLL.out]; exact hs)
  have HN := Lib.hid hn
  have H2 := Lib.hid h2
  have HS := Lib.hid hs
  clear hd hh hnum
  go_enter Tryd.func25, Tryd.ntmps25
  go_upto_region 8 with (first
    | (go_at_call 9
       refine NW.out.mono ?_
       rintro e w1 ⟨rfl, hw1⟩
       rw [← hw1] at LGN BWN
       clear hw1)
    | (go_at_call 50
       refine (HRD.out w1 (HD.out.below BWN.out)).mono ?_
       rintro e w2 ⟨A2, c2, rfl, ho2, hb2⟩
       have LG2 := Lib.hid (LGN.out.below hb2)
       have B2 := Lib.hid (BWN.out.trans (hb2.mono BWN.out.size))
       have LZ2 := Lib.hid (Lz.of_own (X := fun _ => False) ho2 (fun _ h => h.elim))
       clear ho2 hb2)
    | (go_at_call 23
       refine (join_any (fun _ => False) _ c2 A2 _ es kept w2 LZ2.out HLS.out HH.out HNM.out).mono ?_
       rintro e w3 ⟨m, v, rs, hwh, rfl, hents, hoe, hels, hb3⟩
       have HQ0 := Lib.hid (held_le HH.out hwh)
       rw [HLL.out] at HQ0
       generalize hq : pos (es.take m) = q at HQ0 ⊢
       have HQ := Lib.hid hq
       have HWH := Lib.hid hwh
       have HEN := Lib.hid hents
       have LG3 := Lib.hid (LG2.out.below hb3)
       have B3 := Lib.hid (B2.out.trans (hb3.mono B2.out.size))
       have GL2 := Lib.hid LG2.out.box.lt
       have HRL := Lib.hid (show rs.length = m by have h5 := congrArg List.length hents; rw [List.length_map, List.length_take, Nat.min_eq_left hwh.le] at h5; exact h5)
       have HOE := Lib.hid (own_base hoe B2.out.size)
       obtain ⟨AE, cE, rfl, _, _⟩ := own_slice hoe
       have HEL : Hid (∀ r ∈ rs, ELz (fun k => XL w.heap.size (.slice AE m cE) (.slice none 0 0) k ∨ k < w.heap.size) w3 r) := fun r hr => (hels r hr).mono fun k _ hk => hk.elim (fun hk => hk.elim (fun e => .inl (by rw [e]; exact GL2.out)) (fun hk => hk.elim (fun hk => .inr hk) (fun hk => by cases hk))) (fun hk => .inl (Nat.lt_of_lt_of_le hk B2.out.size))
       clear hq hwh hents hoe hels hb3
       have k3 : w3.cell? ⟨w.heap.size, 3, none⟩ = some (.slice none 0 0) := LG3.out.cells.2.2.2.1
       have k4 : w3.cell? ⟨w.heap.size, 4, none⟩ = some (.int .i64 0) := LG3.out.cells.2.2.2.2.1
       have j3 : w3.frozen? ⟨w.heap.size, 3, none⟩ = false := LG3.out.box.frozen 3
       have j4 : w3.frozen? ⟨w.heap.size, 4, none⟩ = false := LG3.out.box.frozen 4))
  have Z := Lib.hid (OpZ.mk2 LG3.out HD.out B3.out HOE.out HRL.out HEL.out q)
  clear LGN BWN LG2 B2 LZ2 LG3 B3 HOE HEL k3 k4 j3 j4 NW HH HNM
  generalize (w3.setCell ⟨w.heap.size, 3, none⟩ (.slice AE m cE)).setCell ⟨w.heap.size, 4, none⟩ (.int .i64 (q : Int)) = z at *
  obtain ⟨le, hle⟩ : ∃ le, le = size - q := ⟨_, rfl⟩
  have LF := Lib.hid (fun z1 (h : LogAt (fun k => k < w.heap.size) w.heap.size z1 w.heap.size gd base size rs q [] (.slice AE m cE) (.slice none 0 0)) => lleft_any _ _ z1 _ gd base size rs q [] _ _ h (by have := HQ0.out; have := HS.out; omega) (Nat.zero_le _) q rfl HQ0.out (by have := HS.out; omega) le hle)
  have HLE := Lib.hid hle
  by_cases h0 : le = 0
  · have q0 : ((le : Int) == 0) = true := beq_iff_eq.2 (by omega)
    have q1 : decide ((le : Int) = 0) = true := decide_eq_true (by omega)
    clear hle
    go_wp2_with (go_at_call 26; refine (LF.out _ Z.out.log).mono ?_; rintro e z1 ⟨rfl, n1, rfl⟩; have Z1 := Lib.hid (Z.out.below (z' := z.drewN n1) ⟨rfl, rfl, rfl, Nat.le_refl _, fun _ _ => rfl⟩); generalize z.drewN n1 = z1 at *)
    go_ret2
    refine ⟨m, q, _, 0, kp, false, HWH.out, HQ.out.symm, rfl, Nat.le_refl _, ?_, Mod.of_below Z1.out.low _⟩
    rw [← HLE.out, h0, List.replicate_zero, upd_none _ _ _ _ (fun j hj => absurd hj (Nat.not_lt_zero _))]
    exact Z1.out.plat
  · have q0 : ((le : Int) == 0) = false := beq_eq_false_iff_ne.2 (by omega)
    have q1 : decide ((le : Int) = 0) = false := decide_eq_false (by omega)
    obtain ⟨p, hp⟩ : ∃ p, p = base + q := ⟨_, rfl⟩
    have e1 : (base : Int) + (q : Int) = (p : Int) := by omega
    have e2 : IntKind.i64.wrap (p : Int) = (p : Int) := by rw [IntKind.wrap_i64]; have := HQ0.out; omega
    have HPS := Lib.hid (show p + le ≤ S.length ∧ p < S.length ∧ le ≤ 100000 by have := HQ0.out; omega)
    have HP := Lib.hid hp
    clear hle hp
    go_upto_region 10 with (go_at_call 26; refine (LF.out _ Z.out.log).mono ?_; rintro e z1 ⟨rfl, n1, rfl⟩; have Z1 := Lib.hid (Z.out.below (z' := z.drewN n1) ⟨rfl, rfl, rfl, Nat.le_refl _, fun _ _ => rfl⟩); generalize z.drewN n1 = z1 at *)
    have hbx : At z1 w.heap.size 82 #[.pointer (some ⟨gd, 0, none⟩), .int .i64 (base : Int), .int .i64 (size : Int), .slice AE m cE, .int .i64 (q : Int), .slice none 0 0] := Z1.out.log.box
    refine wp_region_held_drew (S := fun z => At z w.heap.size 82 #[.pointer (some ⟨gd, 0, none⟩), .int .i64 (base : Int), .int .i64 (size : Int), .slice AE m cE, .int .i64 (q : Int), .slice none 0 0]) (by kernel_rfl) (hbx.under (B := z1.heap.size) ⟨rfl, rfl, rfl, Nat.le_refl _, fun _ _ => rfl⟩ hbx.lt) (fun hS => ?_)
    refine takeH (i := 0) (d := 47) (v := ?vo0) rfl (by kernel_rfl) (by kernel_rfl) (by kernel_rfl) (fun _ _ _ h => h) rfl (by rfl) ?yo0 hS ?ro0
    case yo0 => (intro wz hz; have c4 : wz.cell? ⟨w.heap.size, 4, none⟩ = some (.int .i64 (q : Int)) := hz.cell 4; go_simp <;> with_reducible rfl)
    simp only [List.setIfInBounds_toArray, List.set_cons_zero, List.set_cons_succ]
    refine takeH (i := 1) (d := 48) (v := ?vo1) rfl (by kernel_rfl) (by kernel_rfl) (by kernel_rfl) (fun _ _ _ h => h) rfl (by rfl) ?yo1 hS ?ro1
    case yo1 => (intro wz hz; have c4 : wz.cell? ⟨w.heap.size, 4, none⟩ = some (.int .i64 (q : Int)) := hz.cell 4; go_simp <;> with_reducible rfl)
    simp only [List.setIfInBounds_toArray, List.set_cons_zero, List.set_cons_succ]
    refine takeH (i := 2) (d := 49) (v := ?vo2) rfl (by kernel_rfl) (by kernel_rfl) (by kernel_rfl) (fun _ _ _ h => h) rfl (by rfl) ?yo2 hS ?ro2
    case yo2 => (intro wz hz; have c4 : wz.cell? ⟨w.heap.size, 4, none⟩ = some (.int .i64 (q : Int)) := hz.cell 4; go_simp <;> with_reducible rfl)
    simp only [List.setIfInBounds_toArray, List.set_cons_zero, List.set_cons_succ]
    refine takeH (i := 3) (d := 50) (v := ?vo3) rfl (by kernel_rfl) (by kernel_rfl) (by kernel_rfl) (fun _ _ _ h => h) rfl (by rfl) ?yo3 hS ?ro3
    case yo3 => (intro wz hz; have c4 : wz.cell? ⟨w.heap.size, 4, none⟩ = some (.int .i64 (q : Int)) := hz.cell 4; go_simp <;> with_reducible rfl)
    simp only [List.setIfInBounds_toArray, List.set_cons_zero, List.set_cons_succ]
    refine takeH (i := 4) (d := 51) (v := ?vo4) rfl (by kernel_rfl) (by kernel_rfl) (by kernel_rfl) (fun _ _ _ h => h) rfl (by rfl) ?yo4 hS ?ro4
    case yo4 => (intro wz hz; have c4 : wz.cell? ⟨w.heap.size, 4, none⟩ = some (.int .i64 (q : Int)) := hz.cell 4; go_simp <;> with_reducible rfl)
    simp only [List.setIfInBounds_toArray, List.set_cons_zero, List.set_cons_succ]
    refine takeH (i := 5) (d := 52) (v := ?vo5) rfl (by kernel_rfl) (by kernel_rfl) (by kernel_rfl) (fun _ _ _ h => h) rfl (by rfl) ?yo5 hS ?ro5
    case yo5 => (intro wz hz; have c4 : wz.cell? ⟨w.heap.size, 4, none⟩ = some (.int .i64 (q : Int)) := hz.cell 4; go_simp <;> with_reducible rfl)
    simp only [List.setIfInBounds_toArray, List.set_cons_zero, List.set_cons_succ]
    refine takeH (i := 6) (d := 53) (v := ?vo6) rfl (by kernel_rfl) (by kernel_rfl) (by kernel_rfl) (fun _ _ _ h => h) rfl (by rfl) ?yo6 hS ?ro6
    case yo6 => (intro wz hz; have c4 : wz.cell? ⟨w.heap.size, 4, none⟩ = some (.int .i64 (q : Int)) := hz.cell 4; go_simp <;> with_reducible rfl)
    simp only [List.setIfInBounds_toArray, List.set_cons_zero, List.set_cons_succ]
    refine takeH (i := 7) (d := 54) (v := ?vo7) rfl (by kernel_rfl) (by kernel_rfl) (by kernel_rfl) (fun _ _ _ h => h) rfl (by rfl) ?yo7 hS ?ro7
    case yo7 => (intro wz hz; have c4 : wz.cell? ⟨w.heap.size, 4, none⟩ = some (.int .i64 (q : Int)) := hz.cell 4; go_simp <;> with_reducible rfl)
    simp only [List.setIfInBounds_toArray, List.set_cons_zero, List.set_cons_succ]
    refine wpAnyH_ready (rs := [8]) (by kernel_rfl) (by simp) ?_
    refine AllReadyH.cons rfl (fun K hK => ?_) AllReadyH.nil
    go_simp
    refine (LF.out (z1.drewN 1) (Z1.out.log.drewN 1)).mono ?_
    rintro e y1 ⟨rfl, n2, rfl⟩
    have Z2 := Lib.hid (Z1.out.below (z' := (z1.drewN 1).drewN n2) ⟨rfl, rfl, rfl, Nat.le_refl _, fun _ _ => rfl⟩)
    generalize (z1.drewN 1).drewN n2 = z2 at *
    have hb : True := trivial
    refine hK.out _ _ (Z2.out.log.box) (fun hT => ?_)
    clear hK hb hS
    have hS := hT
    clear hT
    refine wpAnyH_ready (rs := [9]) (by kernel_rfl) (by simp) ?_
    refine AllReadyH.cons rfl (fun K hK => ?_) AllReadyH.nil
    have MK := make_any le HPS.out.2.2 z2
    go_simp
    have Z3 := Lib.hid (Z2.out.below ((Below.refl _ z2).alloc (Nat.le_refl _) (.cells (flat (List.replicate le zsec)).toArray 68)))
    have LZ := Lib.hid (lz_zeros (X := pl_own gd gs) z2 le (fun k hk => hk.elim (fun e => e ▸ Z2.out.plat.lt.1) (fun e => e ▸ Z2.out.plat.lt.2.1)))
    generalize z2.alloc (.cells (flat (List.replicate le zsec)).toArray 68) = z3 at *
    have hb : True := trivial
    refine hK.out _ _ (Z3.out.log.box) (fun hT => ?_)
    clear hK hb hS
    have hS := hT
    clear hT
    refine wpAnyH_ready (rs := [10]) (by kernel_rfl) (by simp) ?_
    refine AllReadyH.cons rfl (fun K hK => ?_) AllReadyH.nil
    go_simp
    refine (write_torn (fun _ => False) gd gs S nw kp z3 p le le (List.replicate le zsec) _ Z3.out.plat HN.out (by simp) HPS.out.2.1 HPS.out.1 LZ.out HKP.out (fun _ h => h.elim)).mono ?_
    rintro e z4 ⟨rfl, hp4, hm4⟩
    have HP4 := Lib.hid hp4
    have HM4 := Lib.hid ((Mod.of_below Z3.out.low (pl_own gd gs)).trans hm4)
    have LG4 := Lib.hid (Z3.out.log.kept hm4 (fun k hk hx => by have h5 := (Z3.out.log.xlt k hk).2; have h6 := HD.out.lt; rcases hx with rfl | rfl <;> omega) (fun k hk hx => hx.elim (fun e => e ▸ HD.out.lt.1) (fun e => e ▸ HD.out.lt.2.1)))
    have hb : True := trivial
    clear hp4 hm4
    refine hK.out _ _ (LG4.out.box) (fun hT => ?_)
    clear hK hb hS
    have hS := hT
    clear hT
    refine takeH (i := 11) (d := 11) (v := ?vo11) rfl (by kernel_rfl) (by kernel_rfl) (by kernel_rfl) (fun _ _ _ h => h) rfl (by rfl) ?yo11 hS ?ro11
    case yo11 => (intro wz hz; have c4 : wz.cell? ⟨w.heap.size, 4, none⟩ = some (.int .i64 (q : Int)) := hz.cell 4; go_simp <;> with_reducible rfl)
    simp only [List.setIfInBounds_toArray, List.set_cons_zero, List.set_cons_succ]
    refine wpAnyH_done (by kernel_rfl) ?_ _
    clear hS hbx
    go_wp2_with fail
    go_ret2
    refine ⟨m, q, _, -1, [], true, HWH.out, HQ.out.symm, rfl, Nat.zero_le _, ?_, HM4.out⟩
    rw [← HLE.out, ← HP.out]
    exact HP4.out
end
end Go.Proofs.YthicidpdgggbjaaDoor
