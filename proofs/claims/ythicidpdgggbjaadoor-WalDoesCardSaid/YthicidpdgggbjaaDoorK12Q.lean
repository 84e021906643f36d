/-
  The walk of Append.
  Conditions: logs of at most 1000 entries and 100000 sectors; entries of at most 1000 pages and numbers.
-/
import Derived.Test.YthicidpdgggbjaaDoorK11Q
namespace Go.Proofs.YthicidpdgggbjaaDoor
open Go.RowKit
set_option maxRecDepth 8000

section
variable {X : Nat → Prop} {B : Nat} {w z z1 z2 : World} {g gd base size : Nat} {rs : List Er} {fo : Nat} {ws ss : List Sect} {vE vW vE' vW' : Value}
theorem At.uniq {t : TypeId} {c1 c2 : Array Value} (h1 : At z g t c1) (h2 : At z g t c2) : c1 = c2 := by
  rw [At] at h1 h2
  rw [h1] at h2
  injection h2 with h2
  injection h2
/-- The sectors that wait grow. -/
theorem LogAt.rowW (h : LogAt X B z g gd base size rs fo ws vE vW) {n : Nat} (hn : n = ws.length + ss.length) (ho : z1.ownsRow B 68 64 vW' n (flat ws ++ flat ss)) (hg : z.grownBy z1 vW.ownBlock) (hv : vW'.ownBlock = vW.ownBlock ∨ vW'.ownBlock = some z.heap.size)
    (hb : ∀ cs, At z1 g 82 cs → At z2 g 82 (cs.setIfInBounds 5 vW')) (hg2 : z1.grownBy z2 (some g)) : LogAt X B z2 g gd base size rs fo (ws ++ ss) vE vW' ∧ Mod (XL g vE vW) z z2 ∧ (∀ k, k < z.heap.size → XL g vE vW' k → XL g vE vW k) := by
  have hle : ∀ k, k < z.heap.size → XL g vE vW' k → XL g vE vW k := fun k hk hx => by
    rcases hx with hx | hx | hx
    · exact .inl hx
    · exact .inr (.inl hx)
    · rcases hv with hv | hv
      · exact .inr (.inr (hv ▸ hx))
      · rw [hv] at hx
        injection hx with hx
        omega
  have m1 : Mod (XL g vE vW) z z1 := (Mod.of_grown hg).mono fun k _ hk => .inr (.inr hk)
  have m2 : Mod (XL g vE vW) z z2 := m1.grown hg2 fun k hk => .inl (.inl (by injection hk with hk; exact hk.symm))
  have neE : ∀ k, vE.ownBlock = some k → k < z.heap.size ∧ vW.ownBlock ≠ some k ∧ k ≠ g := fun k hk => by
    obtain ⟨_, cur, hc⟩ := own_cells h.oe hk
    refine ⟨(Array.getElem?_eq_some_iff.1 hc).1, fun e => own_ne h.ow (show At z k 42 cur from hc) (by decide) e.symm, ?_⟩
    rintro rfl
    exact own_ne h.oe h.box (by decide) hk.symm
  have hbox : At z1 g 82 _ := h.box.grown hg (own_ne h.ow h.box (by decide))
  have hneW : ∀ k, vW'.ownBlock = some k → k < z1.heap.size ∧ k ≠ g := fun k hk => by
    obtain ⟨_, cur, hc⟩ := own_cells ho hk
    refine ⟨(Array.getElem?_eq_some_iff.1 hc).1, ?_⟩
    rintro rfl
    exact own_ne ho hbox (by decide) hk.symm
  refine ⟨⟨hb _ hbox, ?_, ?_, fun r hr => (h.els r hr).step (m2.mono fun k _ hk => .inl hk) fun k hk hy => hy.imp (hle k hk) id, h.low⟩, m2, hle⟩
  · exact own_keep h.oe fun k hk => by
      obtain ⟨h1, h2, h3⟩ := neE k hk
      rw [hg2.block k (Nat.lt_of_lt_of_le h1 hg.size) (fun e => h3 (by injection e)), hg.block k h1 (fun e => h2 e.symm)]
  · rw [List.length_append, ← hn, flat_append]
    exact own_keep ho fun k hk => by
      obtain ⟨h1, h3⟩ := hneW k hk
      exact hg2.block k h1 (fun e => h3 (by injection e))
/-- The entries grow. -/
theorem LogAt.rowE (h : LogAt X B z g gd base size rs fo ws vE vW) {r : Er} (hr : ELz (fun k => XL g vE vW k ∨ X k) z r) (ho : z1.ownsRow B 42 13 vE' (rs.length + 1) (flatE rs ++ erL r)) (hg : z.grownBy z1 vE.ownBlock) (hv : vE'.ownBlock = vE.ownBlock ∨ vE'.ownBlock = some z.heap.size)
    (hb : ∀ cs, At z1 g 82 cs → At z2 g 82 (cs.setIfInBounds 3 vE')) (hg2 : z1.grownBy z2 (some g)) : LogAt X B z2 g gd base size (rs ++ [r]) fo ws vE' vW ∧ Mod (XL g vE vW) z z2 ∧ (∀ k, k < z.heap.size → XL g vE' vW k → XL g vE vW k) := by
  have hle : ∀ k, k < z.heap.size → XL g vE' vW k → XL g vE vW k := fun k hk hx => by
    rcases hx with hx | hx | hx
    · exact .inl hx
    · rcases hv with hv | hv
      · exact .inr (.inl (hv ▸ hx))
      · rw [hv] at hx
        injection hx with hx
        omega
    · exact .inr (.inr hx)
  have m1 : Mod (XL g vE vW) z z1 := (Mod.of_grown hg).mono fun k _ hk => .inr (.inl hk)
  have m2 : Mod (XL g vE vW) z z2 := m1.grown hg2 fun k hk => .inl (.inl (by injection hk with hk; exact hk.symm))
  have neW : ∀ k, vW.ownBlock = some k → k < z.heap.size ∧ vE.ownBlock ≠ some k ∧ k ≠ g := fun k hk => by
    obtain ⟨_, cur, hc⟩ := own_cells h.ow hk
    refine ⟨(Array.getElem?_eq_some_iff.1 hc).1, fun e => own_ne h.oe (show At z k 68 cur from hc) (by decide) e.symm, ?_⟩
    rintro rfl
    exact own_ne h.ow h.box (by decide) hk.symm
  have hbox : At z1 g 82 _ := h.box.grown hg (own_ne h.oe h.box (by decide))
  have hneE : ∀ k, vE'.ownBlock = some k → k < z1.heap.size ∧ k ≠ g := fun k hk => by
    obtain ⟨_, cur, hc⟩ := own_cells ho hk
    refine ⟨(Array.getElem?_eq_some_iff.1 hc).1, ?_⟩
    rintro rfl
    exact own_ne ho hbox (by decide) hk.symm
  refine ⟨⟨hb _ hbox, ?_, ?_, fun r' hr' => ?_, h.low⟩, m2, hle⟩
  · rw [List.length_append, flatE_append, flatE_single]
    exact own_keep ho fun k hk => by
      obtain ⟨h1, h3⟩ := hneE k hk
      exact hg2.block k h1 (fun e => h3 (by injection e))
  · exact own_keep h.ow fun k hk => by
      obtain ⟨h1, h2, h3⟩ := neW k hk
      rw [hg2.block k (Nat.lt_of_lt_of_le h1 hg.size) (fun e => h3 (by injection e)), hg.block k h1 (fun e => h2 e.symm)]
  · have key : ∀ r', ELz (fun k => XL g vE vW k ∨ X k) z r' → ELz (fun k => XL g vE' vW k ∨ X k) z2 r' := fun r' h' => h'.step (m2.mono fun k _ hk => .inl hk) fun k hk hy => hy.imp (hle k hk) id
    rcases List.mem_append.1 hr' with hr' | hr'
    · exact key r' (h.els r' hr')
    · rw [List.mem_singleton.1 hr']
      exact key r hr
end

theorem Mod.step {X Y : Nat → Prop} {a b c : World} (h : Mod X a b) (k : Mod Y b c) (hY : ∀ i, i < a.heap.size → Y i → X i) : Mod X a c :=
  ⟨k.os.trans h.os, k.tape.trans h.tape, k.output.trans h.output, Nat.le_trans h.size k.size, fun i hi hx => (k.block i (Nat.lt_of_lt_of_le hi h.size) fun hy => hx (hY i hi hy)).trans (h.block i hi hx)⟩
/-- The entry with its number. -/
def withN (e : Ent) (n : Nat) : Ent := { e with lsn := n }
def erN (r : Er) (n : Nat) : Er := { r with e := withN r.e n }
theorem erN_set (r : Er) (n : Nat) : (erA r).setIfInBounds 0 (.int .u64 (n : Int)) = erA (erN r n) := rfl
theorem ELz.withN {X : Nat → Prop} {w : World} {r : Er} (h : ELz X w r) (n : Nat) : ELz X w (erN r n) := ⟨h.pages, h.act⟩
theorem ELz.old {Y : Nat → Prop} {w : World} {r : Er} (h : ELz Y w r) : ELz (fun k => w.heap.size ≤ k) w r := h.mono fun _ hk hk2 => absurd hk (Nat.not_lt.2 hk2)
theorem ELz.under {B : Nat} {w z : World} {r : Er} (h : ELz (fun k => B ≤ k) w r) (hb : Below B w z) : ELz (fun k => B ≤ k) z r := h.kept ⟨hb.os, hb.tape, hb.output, hb.size, fun k _ hk => hb.block k (by omega)⟩
theorem el_erN {w : World} {B : Nat} {r : Er} (h : EL w B r.e r.PA r.np r.QA r.na) (n : Nat) : EL w B (erN r n).e r.PA r.np r.QA r.na := ⟨h.pages, h.act⟩

section
variable (X : Nat → Prop) (B : Nat) (w : World) (g gd base size : Nat) (rs : List Er) (fo : Nat) (ws : List Sect) (vE vW : Value)
def AppN (w : World) (z : Int) (o : Ending) (w' : World) : Prop := o = .returned (.tuple #[.int .u64 0, .int .i64 z]) ∧ Below w.heap.size w w'
set_option maxHeartbeats 1600000 in
theorem append_bad (h : LogAt X B w g gd base size rs fo ws vE vW) (hf : fo ≤ 10000) (hw : ws.length ≤ 10000) (us : Nat) (hu : us = fo + ws.length) (Y : Nat → Prop) (r : Er) (hr : ELz Y w r) (hnp : r.np ≤ 1000) (hna : r.na ≤ 1000) (hv : r.e.rc.val.length ≤ 1000)
    (c : Int) (hc : chk (withN r.e (us + 1)) = c) (hne : (c != 0) = true) : Calls Tryd.prog 10 #[.pointer (some ⟨g, 0, none⟩), .agg (erA r)] w (AppN w c) := by
  have B3 := Lib.hid (At.new w 42 (erA r))
  have BW := Lib.hid ((Below.refl w.heap.size w).alloc (Nat.le_refl _) (.cells (erA r) 42))
  have NX := Lib.hid (lnext_any X B _ g gd base size rs fo ws vE vW (h.below BW.out) (by omega) (by omega) us hu (us + 1) rfl)
  have HRO := Lib.hid hr.old
  have HC := Lib.hid hc
  have hus : us ≤ 20000 := by omega
  clear h hr hc hu
  go_enter Tryd.func10, Tryd.ntmps10
  go_wp2_with (first
    | (go_at_call 30; refine NX.out.mono ?_; rintro e w1 ⟨rfl, n1, rfl⟩
       have B4 := Lib.hid (B3.out.under (w' := (w.alloc (.cells (erA r) 42)).drewN n1) (B := w.heap.size + 1) ⟨rfl, rfl, rfl, Nat.le_refl _, fun _ _ => rfl⟩ (by omega))
       have BW4 : Hid (Below w.heap.size w ((w.alloc (.cells (erA r) 42)).drewN n1)) := ⟨BW.out.os, BW.out.tape, BW.out.output, BW.out.size, BW.out.block⟩
       generalize (w.alloc (.cells (erA r) 42)).drewN n1 = z1 at *)
    | (refine wpList_store_cell 35 (.tmp 11) (.tmp 10) rfl rfl rfl w.heap.size 0 rfl (.int .u64 ((us + 1 : Nat) : Int)) rfl rfl (by kernel_rfl) (erA r) 42 (by rw [erA_size]; omega) B4.out ?_
       intro w2 h2 g2
       rw [erN_set] at h2
       have B5 := Lib.hid h2
       have BW5 := Lib.hid (BW4.out.grown g2 BW4.out.size (fun k hk => by injection hk with hk; omega))
       clear h2 g2)
    | (refine wpList_load_at 42 13 (.tmp 3) rfl rfl rfl w.heap.size rfl (erA (erN r (us + 1))) 13 strE rfl B5.out ?_)
    | (go_at_call 33; refine (put_bad (erN r (us + 1)).e r.PA r.QA r.np r.pc r.na r.qc _ c (el_erN (HRO.out.under BW5.out).el _) hnp hna hv HC.out hne).mono ?_; rintro e w3 ⟨rfl, hb3⟩; have BW6 := Lib.hid (BW5.out.trans (hb3.mono BW5.out.size)); clear hb3))
  go_ret2
  exact ⟨rfl, BW6.out⟩
theorem own_old {w z : World} {B : Nat} {e : TypeId} {size n : Nat} {v : Value} {xs : List Value} (_ : z.ownsRow B e size v n xs) (h : ∀ k, v.ownBlock = some k → k < w.heap.size) {g : Nat} (hg : w.heap.size ≤ g) : v.ownBlock ≠ some g := fun e => by
  have := h g e
  omega
/-- The state of Append behind the encoding. -/
structure ApS (X : Nat → Prop) (B : Nat) (w : World) (g gd base size : Nat) (rs : List Er) (fo : Nat) (ws : List Sect) (vE vW : Value) (r : Er) (z : World) : Prop where
  b3 : At z w.heap.size 42 (erA r)
  log : LogAt X B z g gd base size rs fo ws vE vW
  low : Below w.heap.size w z
theorem ApS.call {X : Nat → Prop} {B : Nat} {w : World} {g gd base size : Nat} {rs : List Er} {fo : Nat} {ws : List Sect} {vE vW : Value} {r : Er} {z z' : World} (h : ApS X B w g gd base size rs fo ws vE vW r z) (hb : Below z.heap.size z z') : ApS X B w g gd base size rs fo ws vE vW r z' :=
  ⟨h.b3.under hb h.b3.lt, h.log.below hb, h.low.trans (hb.mono h.low.size)⟩
theorem below_drewN (z : World) (n : Nat) : Below z.heap.size z (z.drewN n) := ⟨rfl, rfl, rfl, Nat.le_refl _, fun _ _ => rfl⟩

/-- The state of Append behind the sectors. -/
structure ApZ (X : Nat → Prop) (B : Nat) (w : World) (g gd base size : Nat) (rs : List Er) (fo : Nat) (ws : List Sect) (vE vW v8 : Value) (r : Er) (z : World) : Prop where
  b3 : At z w.heap.size 42 (erA r)
  log : LogAt X B z g gd base size rs fo ws vE v8
  md : Mod (XL g vE vW) w z
  le : ∀ k, k < w.heap.size → XL g vE v8 k → XL g vE vW k
theorem ApZ.call {X : Nat → Prop} {B : Nat} {w : World} {g gd base size : Nat} {rs : List Er} {fo : Nat} {ws : List Sect} {vE vW v8 : Value} {r : Er} {z z' : World} (h : ApZ X B w g gd base size rs fo ws vE vW v8 r z) (hb : Below z.heap.size z z') : ApZ X B w g gd base size rs fo ws vE vW v8 r z' :=
  ⟨h.b3.under hb h.b3.lt, h.log.below hb, h.md.trans (Mod.of_below hb _), h.le⟩
set_option maxHeartbeats 3200000 in
theorem append_full (h : LogAt X B w g gd base size rs fo ws vE vW) (hf : fo ≤ 10000) (hw : ws.length ≤ 10000) (us : Nat) (hu : us = fo + ws.length) (hsz : us ≤ size) (hsz2 : size ≤ 10000) (Y : Nat → Prop) (r : Er) (hr : ELz Y w r)
    (hg : Gd (withN r.e (us + 1))) (hfit : size - us < wid (withN r.e (us + 1))) : Calls Tryd.prog 10 #[.pointer (some ⟨g, 0, none⟩), .agg (erA r)] w (AppN w 6) := by
  have B3 := Lib.hid (At.new w 42 (erA r))
  have BW := Lib.hid ((Below.refl w.heap.size w).alloc (Nat.le_refl _) (.cells (erA r) 42))
  have NX := Lib.hid (lnext_any X B _ g gd base size rs fo ws vE vW (h.below BW.out) (by omega) (by omega) us hu (us + 1) rfl)
  have HRO := Lib.hid hr.old
  have HLG := Lib.hid h
  have HG := Lib.hid hg
  have HU := Lib.hid hu
  have hus : us ≤ 20000 := by omega
  obtain ⟨wd, hwd⟩ : ∃ wd, wd = wid (withN r.e (us + 1)) := ⟨_, rfl⟩
  obtain ⟨le, hle⟩ : ∃ le, le = size - us := ⟨_, rfl⟩
  have hwd2 : 1 ≤ wd ∧ wd ≤ 112 := by rw [hwd]; exact wid_ok hg
  rw [← hwd] at hfit
  have HWD := Lib.hid hwd
  have HLE := Lib.hid hle
  have hfit2 : decide ((le : Int) < (wd : Int)) = true := by simp; omega
  have hfit3 : decide (le < wd) = true := by simp; omega
  clear h hr hu hg hwd hle
  go_enter Tryd.func10, Tryd.ntmps10
  go_wp2_with (first
    | (go_at_call 30; refine NX.out.mono ?_; rintro e w1 ⟨rfl, n1, rfl⟩
       have B4 := Lib.hid (B3.out.under (w' := (w.alloc (.cells (erA r) 42)).drewN n1) (B := w.heap.size + 1) ⟨rfl, rfl, rfl, Nat.le_refl _, fun _ _ => rfl⟩ (by omega))
       have BW4 : Hid (Below w.heap.size w ((w.alloc (.cells (erA r) 42)).drewN n1)) := ⟨BW.out.os, BW.out.tape, BW.out.output, BW.out.size, BW.out.block⟩
       generalize (w.alloc (.cells (erA r) 42)).drewN n1 = z1 at *)
    | (refine wpList_store_cell 35 (.tmp 11) (.tmp 10) rfl rfl rfl w.heap.size 0 rfl (.int .u64 ((us + 1 : Nat) : Int)) rfl rfl (by kernel_rfl) (erA r) 42 (by rw [erA_size]; omega) B4.out ?_
       intro w2 h2 g2
       rw [erN_set] at h2
       have BW5 := BW4.out.grown g2 BW4.out.size (fun k hk => by injection hk with hk; omega)
       have S5 := Lib.hid (ApS.mk h2 (HLG.out.kept (Y := fun k => w.heap.size ≤ k) ⟨BW5.os, BW5.tape, BW5.output, BW5.size, fun k _ hk => BW5.block k (by omega)⟩ (fun k hk => by have := (HLG.out.xlt k hk).1; omega) (fun k hk hk2 => absurd hk (Nat.not_lt.2 hk2))) BW5)
       clear h2 g2 BW5)
    | (refine wpList_load_at 42 13 (.tmp 3) rfl rfl rfl w.heap.size rfl (erA (erN r (us + 1))) 13 strE rfl S5.out.b3 ?_)
    | (go_at_call 33; refine (put_good (erN r (us + 1)).e r.PA r.QA r.np r.pc r.na r.qc _ (el_erN (HRO.out.under S5.out.low).el _) HG.out.ok HG.out.chk).mono ?_
       rintro e w3 ⟨A3, n3, c3, rfl, ho3, hb3⟩
       have S6 := Lib.hid (S5.out.call hb3)
       have L6 := Lib.hid (Lies.of_own ho3)
       have hn3 : (enc (withN r.e (us + 1))).length = n3 := own_n ho3
       have HN3 := Lib.hid hn3
       have hn3b : n3 ≤ 6016 := by rw [← hn3]; exact (enc_len HG.out).2
       have hc3 : n3 ≤ c3 := by
         obtain ⟨_, _, h, h2, _⟩ := own_slice ho3
         injection h with _ _ h
         omega
       clear ho3 hb3 hn3)
    | (go_at_call 29; refine (lused_any X B _ g gd base size rs fo ws vE vW S6.out.log (by omega) (by omega) us HU.out).mono ?_
       rintro e w4 ⟨rfl, n4, rfl⟩
       have S7 := Lib.hid (S6.out.call (below_drewN w3 n4))
       have L7 := Lib.hid (L6.out.under (below_drewN w3 n4))
       have hs4 : (w3.drewN n4).heap.size = w3.heap.size := rfl
       rw [← hs4] at L7
       generalize w3.drewN n4 = z4 at *)
    | (go_at_call 18; refine (cut_any9 n3 c3 us A3 (enc (withN r.e (us + 1))) _ L7.out (by omega) hc3 (by omega)).mono ?_
       rintro e w5 ⟨A5, c5, rfl, ho5, hb5⟩
       have hl5 : (cutS (enc (withN r.e (us + 1))) us).length = wd := by rw [cutS_length, HWD.out]; rfl
       rw [hl5] at ho5 ⊢
       have S8 := Lib.hid (S7.out.call hb5)
       have O8 := Lib.hid ho5
       clear ho5 hb5 hl5)
    | (go_at_call 26; refine (lleft_any X B _ g gd base size rs fo ws vE vW S8.out.log (by omega) (by omega) us HU.out hsz (by omega) le HLE.out).mono ?_
       rintro e w6 ⟨rfl, n6, rfl⟩
       have S9 := Lib.hid (S8.out.call (below_drewN w5 n6))
       have O9 := Lib.hid (own_under O8.out (below_drewN w5 n6) (Nat.le_refl _))
       generalize w5.drewN n6 = z6 at *))
  go_ret2
  exact ⟨rfl, S9.out.low⟩

def AppY (r : Er) (us : Nat) (o : Ending) (w' : World) : Prop :=
  ∃ (r' : Er) (vE' vW' : Value), r'.e = withN r.e (us + 1) ∧ r'.np = r.np ∧ r'.na = r.na ∧ o = .returned (.tuple #[.int .u64 ((us + 1 : Nat) : Int), .int .i64 0]) ∧ LogAt X B w' g gd base size (rs ++ [r']) fo (ws ++ cutS (enc (withN r.e (us + 1))) us) vE' vW' ∧
    Mod (XL g vE vW) w w' ∧ (∀ k, k < w.heap.size → XL g vE' vW' k → XL g vE vW k)
set_option maxHeartbeats 3200000 in
theorem append_ok (h : LogAt X B w g gd base size rs fo ws vE vW) (hf : fo ≤ 10000) (hw : ws.length ≤ 10000) (hrs : rs.length ≤ 900) (us : Nat) (hu : us = fo + ws.length) (hsz : us ≤ size) (hsz2 : size ≤ 10000) (Y : Nat → Prop) (r : Er) (hr : ELz Y w r)
    (hnp : r.np ≤ 1000) (hna : r.na ≤ 1000) (hY : ∀ k, XL g vE vW k → Y k) (hX : ∀ k, X k → k < w.heap.size) (hBw : B ≤ w.heap.size) (hg : Gd (withN r.e (us + 1))) (hfit : wid (withN r.e (us + 1)) ≤ size - us) : Calls Tryd.prog 10 #[.pointer (some ⟨g, 0, none⟩), .agg (erA r)] w (AppY X B w g gd base size rs fo ws vE vW r us) := by
  obtain ⟨AE, cE, AW, cW, rfl, rfl, hcE, hcE2, hcW, hcW2⟩ := h.sl
  obtain ⟨i0, hi0, hz0, hz1, hz2⟩ := info_parts arr_info3
  obtain ⟨i1, hi1, hy0, hy1, hy2⟩ := info_parts ent_info
  obtain ⟨vE, hvE⟩ : ∃ vE, vE = Value.slice AE rs.length cE := ⟨_, rfl⟩
  rw [← hvE] at h hY ⊢
  have hgl : g < w.heap.size := h.box.lt
  have HRX := Lib.hid (hr.mono fun k _ hk => hY k hk)
  have B3 := Lib.hid (At.new w 42 (erA r))
  have BW := Lib.hid ((Below.refl w.heap.size w).alloc (Nat.le_refl _) (.cells (erA r) 42))
  have NX := Lib.hid (lnext_any X B _ g gd base size rs fo ws vE _ (h.below BW.out) (by omega) (by omega) us hu (us + 1) rfl)
  have HRO := Lib.hid hr.old
  have HLG := Lib.hid h
  have HG := Lib.hid hg
  have HU := Lib.hid hu
  have hus : us ≤ 20000 := by omega
  obtain ⟨wd, hwd⟩ : ∃ wd, wd = wid (withN r.e (us + 1)) := ⟨_, rfl⟩
  obtain ⟨le, hle⟩ : ∃ le, le = size - us := ⟨_, rfl⟩
  have hwd2 : 1 ≤ wd ∧ wd ≤ 112 := by rw [hwd]; exact wid_ok hg
  rw [← hwd] at hfit
  have HWD := Lib.hid hwd
  have HLE := Lib.hid hle
  have hfit2 : decide ((le : Int) < (wd : Int)) = false := by simp; omega
  have hfit3 : decide (le < wd) = false := by simp; omega
  clear h hr hu hg hwd hle
  go_enter Tryd.func10, Tryd.ntmps10
  go_upto_region 9 with (first
    | (go_at_call 30; refine NX.out.mono ?_; rintro e w1 ⟨rfl, n1, rfl⟩
       have B4 := Lib.hid (B3.out.under (w' := (w.alloc (.cells (erA r) 42)).drewN n1) (B := w.heap.size + 1) ⟨rfl, rfl, rfl, Nat.le_refl _, fun _ _ => rfl⟩ (by omega))
       have BW4 : Hid (Below w.heap.size w ((w.alloc (.cells (erA r) 42)).drewN n1)) := ⟨BW.out.os, BW.out.tape, BW.out.output, BW.out.size, BW.out.block⟩
       generalize (w.alloc (.cells (erA r) 42)).drewN n1 = z1 at *)
    | (refine wpList_store_cell 35 (.tmp 11) (.tmp 10) rfl rfl rfl w.heap.size 0 rfl (.int .u64 ((us + 1 : Nat) : Int)) rfl rfl (by kernel_rfl) (erA r) 42 (by rw [erA_size]; omega) B4.out ?_
       intro w2 h2 g2
       rw [erN_set] at h2
       have BW5 := BW4.out.grown g2 BW4.out.size (fun k hk => by injection hk with hk; omega)
       have S5 := Lib.hid (ApS.mk h2 (HLG.out.kept (Y := fun k => w.heap.size ≤ k) ⟨BW5.os, BW5.tape, BW5.output, BW5.size, fun k _ hk => BW5.block k (by omega)⟩ (fun k hk => by have := (HLG.out.xlt k hk).1; omega) (fun k hk hk2 => absurd hk (Nat.not_lt.2 hk2))) BW5)
       clear h2 g2 BW5)
    | (refine wpList_load_at 42 13 (.tmp 3) rfl rfl rfl w.heap.size rfl (erA (erN r (us + 1))) 13 strE rfl S5.out.b3 ?_)
    | (go_at_call 33; refine (put_good (erN r (us + 1)).e r.PA r.QA r.np r.pc r.na r.qc _ (el_erN (HRO.out.under S5.out.low).el _) HG.out.ok HG.out.chk).mono ?_
       rintro e w3 ⟨A3, n3, c3, rfl, ho3, hb3⟩
       have S6 := Lib.hid (S5.out.call hb3)
       have L6 := Lib.hid (Lies.of_own ho3)
       have hn3 : (enc (withN r.e (us + 1))).length = n3 := own_n ho3
       have HN3 := Lib.hid hn3
       have hn3b : n3 ≤ 6016 := by rw [← hn3]; exact (enc_len HG.out).2
       have hc3 : n3 ≤ c3 := by
         obtain ⟨_, _, h, h2, _⟩ := own_slice ho3
         injection h with _ _ h
         omega
       clear ho3 hb3 hn3)
    | (go_at_call 29; refine (lused_any X B _ g gd base size rs fo ws vE _ S6.out.log (by omega) (by omega) us HU.out).mono ?_
       rintro e w4 ⟨rfl, n4, rfl⟩
       have S7 := Lib.hid (S6.out.call (below_drewN w3 n4))
       have L7 := Lib.hid (L6.out.under (below_drewN w3 n4))
       have hs4 : (w3.drewN n4).heap.size = w3.heap.size := rfl
       rw [← hs4] at L7
       generalize w3.drewN n4 = z4 at *)
    | (go_at_call 18; refine (cut_any9 n3 c3 us A3 (enc (withN r.e (us + 1))) _ L7.out (by omega) hc3 (by omega)).mono ?_
       rintro e w5 ⟨A5, c5, rfl, ho5, hb5⟩
       have hl5 : (cutS (enc (withN r.e (us + 1))) us).length = wd := by rw [cutS_length, HWD.out]; rfl
       rw [hl5] at ho5 ⊢
       have S8 := Lib.hid (S7.out.call hb5)
       have O8 := Lib.hid ho5
       clear ho5 hb5 hl5)
    | (go_at_call 26; refine (lleft_any X B _ g gd base size rs fo ws vE _ S8.out.log (by omega) (by omega) us HU.out hsz (by omega) le HLE.out).mono ?_
       rintro e w6 ⟨rfl, n6, rfl⟩
       have S9 := Lib.hid (S8.out.call (below_drewN w5 n6))
       have O9 := Lib.hid (own_under O8.out (below_drewN w5 n6) (Nat.le_refl _))
       generalize w5.drewN n6 = z6 at *
       have d5 := S9.out.log.cells.2.2.2.2.2)
    | (at_builtin; refine wpList_app2 _ rfl (.tmp 33) (.tmp 34) _ rfl B 68 i0 _ 64 64 Tryd.underlying62 hi0 hz0 hz1 hz2 (secA_size zsec) (by omega) _ _ _ rfl S9.out.log.ow _ A5 wd c5 _ rfl (Lies.of_own O9.out) (flat_one _) (by omega) (by simp only [maxLen]; omega) (by omega) (by have := S9.out.low.size; omega) ?_
       intro v8 z8 ho8 hg8 hv8
       have HO8 := Lib.hid ho8
       have HG8 := Lib.hid hg8
       have HV8 := Lib.hid hv8
       clear ho8 hg8 hv8)
    | (refine wpList_store_cell 62 (.tmp 37) (.tmp 35) rfl rfl rfl g 5 rfl v8 rfl (by obtain ⟨_, _, h, _⟩ := own_slice HO8.out; rw [h]; rfl) (by kernel_rfl) _ 82 (by simp) (S9.out.log.box.grown HG8.out (own_ne S9.out.log.ow S9.out.log.box (by decide))) ?_
       intro w9 h9 g9
       have T9 := Lib.hid (S9.out.log.rowW (by rw [cutS_length, HWD.out]; rfl) HO8.out HG8.out HV8.out (fun cs hcs => by rw [At.uniq hcs (S9.out.log.box.grown HG8.out (own_ne S9.out.log.ow S9.out.log.box (by decide)))]; exact h9) g9)
       have B9 := Lib.hid (show At w9 w.heap.size 42 (erA (erN r (us + 1))) from (S9.out.b3.grown HG8.out (own_ne S9.out.log.ow S9.out.b3 (by decide))).grown g9 (by intro e; injection e with e; omega))
       clear h9 g9 HO8 HG8 HV8))
  have ZZ := ApZ.mk B9.out T9.out.1 ((Mod.of_below S9.out.low (XL g vE (.slice AW ws.length cW))).trans T9.out.2.1) (fun k hk hx => T9.out.2.2 k (Nat.lt_of_lt_of_le hk S9.out.low.size) hx)
  have hvE0 := Lib.hid (show ∀ k, vE.ownBlock = some k → k < w.heap.size from fun k hk => (HLG.out.xlt k (.inr (.inl hk))).1)
  have HZ0 := Lib.hid (ZZ.call (Below.refl _ w9).drew)
  clear ZZ T9 B9 S9 S8 S7 S6 S5 O8 O9 L6 L7
  dsimp only [Act.put]
  refine wp_region_held_drew (S := fun z => At z w.heap.size 42 (erA (erN r (us + 1)))) (by kernel_rfl) HZ0.out.b3 (fun hS => ?_)
  generalize w9.drew = y0 at *
  refine takeH (i := 0) (d := 38) (v := ?vp0) rfl (by kernel_rfl) (by kernel_rfl) (by kernel_rfl) (fun _ _ _ h => h) rfl (by rfl) ?yp0 hS ?rp0
  case yp0 => (intro wz hz; go_simp <;> with_reducible rfl)
  simp only [List.setIfInBounds_toArray, List.set_cons_zero, List.set_cons_succ]
  refine takeH (i := 1) (d := 39) (v := ?vp1) rfl (by kernel_rfl) (by kernel_rfl) (by kernel_rfl) (fun _ _ _ h => h) rfl (by rfl) ?yp1 hS ?rp1
  case yp1 => (intro wz hz; go_simp <;> with_reducible rfl)
  simp only [List.setIfInBounds_toArray, List.set_cons_zero, List.set_cons_succ]
  refine takeH (i := 2) (d := 40) (v := ?vp2) rfl (by kernel_rfl) (by kernel_rfl) (by kernel_rfl) (fun _ _ _ h => h) rfl (by rfl) ?yp2 hS ?rp2
  case yp2 => (intro wz hz; go_simp <;> with_reducible rfl)
  simp only [List.setIfInBounds_toArray, List.set_cons_zero, List.set_cons_succ]
  refine takeH (i := 3) (d := 41) (v := ?vp3) rfl (by kernel_rfl) (by kernel_rfl) (by kernel_rfl) (fun _ _ _ h => h) rfl (by rfl) ?yp3 hS ?rp3
  case yp3 => (intro wz hz; go_simp <;> with_reducible rfl)
  simp only [List.setIfInBounds_toArray, List.set_cons_zero, List.set_cons_succ]
  refine takeH (i := 5) (d := 43) (v := .agg (erA (erN r (us + 1)))) rfl (by kernel_rfl) (by kernel_rfl) (by kernel_rfl) (fun _ _ _ h => h) rfl (by rfl) ?yp5 hS ?rp5
  case yp5 => (intro wz hz; exact exec_load_at 42 (.tmp 3) rfl w.heap.size rfl _ 13 strE rfl hz)
  simp only [List.setIfInBounds_toArray, List.set_cons_zero, List.set_cons_succ]
  clear hS
  refine wpAnyH_ready (rs := [4, 6]) (by kernel_rfl) (by simp) ?_
  refine AllReadyH.cons rfl (fun K hK => ?_) (AllReadyH.cons rfl (fun K hK => ?_) AllReadyH.nil)
  · have q3 := HZ0.out.log.cells.2.2.2.1
    go_simp
    refine hK.out _ _ HZ0.out.b3 (fun hT => ?_)
    clear hK hT
    clear q3
    refine wpAnyH_ready (rs := [6]) (by kernel_rfl) (by simp) ?_
    refine AllReadyH.cons rfl (fun K hK => ?_) AllReadyH.nil
    go_simp
    refine (twin_any _ (erN r (us + 1)) _ ((HRX.out.kept HZ0.out.md).withN (us + 1)) hnp hna).mono ?_
    rintro e y1 ⟨r2, hre, hnp2, hna2, rfl, hel2, hb2⟩
    have HZ1 := Lib.hid (HZ0.out.call hb2)
    have HRE := Lib.hid hre
    have HNP := Lib.hid hnp2
    have HNA := Lib.hid hna2
    have EL1 := Lib.hid (show ELz (fun k => XL g vE v8 k ∨ X k) y1 r2 from hel2.mono fun k _ hk => by rcases hk with hk | hk <;> first | exact (HZ0.out.log.xlt k hk).1 | exact Nat.lt_of_lt_of_le (hX k hk) HZ0.out.md.size)
    clear hre hnp2 hna2 hel2 hb2
    refine hK.out _ _ HZ1.out.b3 (fun hT => ?_)
    clear hK hT
    refine wpAnyH_ready (rs := [7]) (by kernel_rfl) (by simp) ?_
    refine AllReadyH.cons rfl (fun K hK => ?_) AllReadyH.nil
    rw [if_pos (by rfl)]
    refine wp_lit1 45 (.tmp 44) 32 42 13 _ (erA r2) rfl rfl rfl Tryd.underlying32 ent_info2 (by omega) (by omega) rfl ?_
    have HZ2 := Lib.hid (HZ1.out.call ((Below.refl _ _).alloc (Nat.le_refl _) (.cells (erA r2) 42)))
    have EL2 := Lib.hid (EL1.out.below ((Below.refl _ _).alloc (Nat.le_refl _) (.cells (erA r2) 42)))
    have LN := Lib.hid (lies_newC y1 (erL r2) 42 13 rfl)
    refine hK.out _ _ HZ2.out.b3 (fun hT => ?_)
    clear hK hT
    refine wpAnyH_ready (rs := [8]) (by kernel_rfl) (by simp) ?_
    refine AllReadyH.cons rfl (fun K hK => ?_) AllReadyH.nil
    rw [if_pos (by rfl)]
    obtain ⟨v3, y3, hrun, ho3, hg3, hv3⟩ := run_append_lies2 (P := Tryd.prog) (y1.alloc (.cells (erA r2) 42)) B 32 32 42 i1 _ 13 136 Tryd.underlying32 hi1 hy0 hy1 hy2 rfl (by omega) _ _ _ HZ2.out.log.oe _ _ 1 1 _ LN.out (erL_one _) (by omega) (by simp only [maxLen]; omega) (by omega) (by have := HZ2.out.md.size; omega)
    rw [hvE] at hrun
    refine wp_app 46 (.tmp 42) (.tmp 45) 32 rfl rfl _ _ rfl rfl _ _ hrun ?_
    have HO3 := Lib.hid ho3
    have HG3 := Lib.hid hg3
    have HV3 := Lib.hid hv3
    have B33 := Lib.hid (HZ2.out.b3.grown hg3 (fun e => by have h1 := HZ2.out.md; have h2 := HZ2.out.log.oe; exact own_old h2 hvE0.out (by omega) e.symm))
    clear hrun ho3 hg3 hv3
    refine hK.out _ _ B33.out (fun hT => ?_)
    clear hK
    have hS := hT
    clear hT
    dsimp only [Act.put]
    simp only [List.setIfInBounds_toArray, List.set_cons_zero, List.set_cons_succ]
    refine takeH (i := 9) (d := 47) (v := ?vpt19) rfl (by kernel_rfl) (by kernel_rfl) (by kernel_rfl) (fun _ _ _ h => h) rfl (by rfl) ?ypt19 hS ?rpt19
    case ypt19 => (intro wz hz; go_simp <;> with_reducible rfl)
    simp only [List.setIfInBounds_toArray, List.set_cons_zero, List.set_cons_succ]
    refine takeH (i := 10) (d := 48) (v := ?vpt110) rfl (by kernel_rfl) (by kernel_rfl) (by kernel_rfl) (fun _ _ _ h => h) rfl (by rfl) ?ypt110 hS ?rpt110
    case ypt110 => (intro wz hz; go_simp <;> with_reducible rfl)
    simp only [List.setIfInBounds_toArray, List.set_cons_zero, List.set_cons_succ]
    clear hS
    refine wpAnyH_ready (rs := [11]) (by kernel_rfl) (by simp) ?_
    refine AllReadyH.cons rfl (fun K hK => ?_) AllReadyH.nil
    rw [if_pos (by rfl)]
    refine wp_store_cell 32 (.tmp 48) (.tmp 46) rfl rfl g 3 rfl v3 rfl (by obtain ⟨_, _, h, _⟩ := own_slice HO3.out; rw [h]; rfl) (by kernel_rfl) _ 82 (by simp) (HZ2.out.log.box.grown HG3.out (own_ne HZ2.out.log.oe HZ2.out.log.box (by decide))) ?_
    intro y4 h4 g4
    obtain ⟨L5, M5, X5⟩ := HZ2.out.log.rowE EL2.out HO3.out HG3.out HV3.out (fun cs hcs => by rw [At.uniq hcs (HZ2.out.log.box.grown HG3.out (own_ne HZ2.out.log.oe HZ2.out.log.box (by decide)))]; exact h4) g4
    have B5 := B33.out.grown g4 (by intro e; injection e with e; omega)
    have F5 := Lib.hid (show LogAt X B y4 g gd base size (rs ++ [r2]) fo (ws ++ cutS (enc (withN r.e (us + 1))) us) v3 v8 ∧ Mod (XL g vE (.slice AW ws.length cW)) w y4 ∧ (∀ k, k < w.heap.size → XL g v3 v8 k → XL g vE (.slice AW ws.length cW) k) from ⟨L5, HZ2.out.md.step M5 HZ2.out.le, fun k hk hx => HZ2.out.le k hk (X5 k (Nat.lt_of_lt_of_le hk HZ2.out.md.size) hx)⟩)
    have c50 : y4.cell? ⟨w.heap.size, 0, none⟩ = some (.int .u64 ((us + 1 : Nat) : Int)) := B5.cell 0
    clear h4 g4 L5 M5 X5
    refine hK.out _ _ B5 (fun hT => ?_)
    clear hK hT B5
    refine wpAnyH_done (by kernel_rfl) ?_ _
    go_wp2_with fail
    go_ret2
    exact ⟨r2, v3, v8, HRE.out, HNP.out, HNA.out, rfl, F5.out.1, F5.out.2.1, F5.out.2.2⟩
  · go_simp
    refine (twin_any _ (erN r (us + 1)) _ ((HRX.out.kept HZ0.out.md).withN (us + 1)) hnp hna).mono ?_
    rintro e y1 ⟨r2, hre, hnp2, hna2, rfl, hel2, hb2⟩
    have HZ1 := Lib.hid (HZ0.out.call hb2)
    have HRE := Lib.hid hre
    have HNP := Lib.hid hnp2
    have HNA := Lib.hid hna2
    have EL1 := Lib.hid (show ELz (fun k => XL g vE v8 k ∨ X k) y1 r2 from hel2.mono fun k _ hk => by rcases hk with hk | hk <;> first | exact (HZ0.out.log.xlt k hk).1 | exact Nat.lt_of_lt_of_le (hX k hk) HZ0.out.md.size)
    clear hre hnp2 hna2 hel2 hb2
    refine hK.out _ _ HZ1.out.b3 (fun hT => ?_)
    clear hK hT
    refine wpAnyH_ready (rs := [4, 7]) (by kernel_rfl) (by simp) ?_
    refine AllReadyH.cons rfl (fun K hK => ?_) (AllReadyH.cons rfl (fun K hK => ?_) AllReadyH.nil)
    · have q3 := HZ1.out.log.cells.2.2.2.1
      go_simp
      refine hK.out _ _ HZ1.out.b3 (fun hT => ?_)
      clear hK hT
      clear q3
      refine wpAnyH_ready (rs := [7]) (by kernel_rfl) (by simp) ?_
      refine AllReadyH.cons rfl (fun K hK => ?_) AllReadyH.nil
      rw [if_pos (by rfl)]
      refine wp_lit1 45 (.tmp 44) 32 42 13 _ (erA r2) rfl rfl rfl Tryd.underlying32 ent_info2 (by omega) (by omega) rfl ?_
      have HZ2 := Lib.hid (HZ1.out.call ((Below.refl _ _).alloc (Nat.le_refl _) (.cells (erA r2) 42)))
      have EL2 := Lib.hid (EL1.out.below ((Below.refl _ _).alloc (Nat.le_refl _) (.cells (erA r2) 42)))
      have LN := Lib.hid (lies_newC y1 (erL r2) 42 13 rfl)
      refine hK.out _ _ HZ2.out.b3 (fun hT => ?_)
      clear hK hT
      refine wpAnyH_ready (rs := [8]) (by kernel_rfl) (by simp) ?_
      refine AllReadyH.cons rfl (fun K hK => ?_) AllReadyH.nil
      rw [if_pos (by rfl)]
      obtain ⟨v3, y3, hrun, ho3, hg3, hv3⟩ := run_append_lies2 (P := Tryd.prog) (y1.alloc (.cells (erA r2) 42)) B 32 32 42 i1 _ 13 136 Tryd.underlying32 hi1 hy0 hy1 hy2 rfl (by omega) _ _ _ HZ2.out.log.oe _ _ 1 1 _ LN.out (erL_one _) (by omega) (by simp only [maxLen]; omega) (by omega) (by have := HZ2.out.md.size; omega)
      rw [hvE] at hrun
      refine wp_app 46 (.tmp 42) (.tmp 45) 32 rfl rfl _ _ rfl rfl _ _ hrun ?_
      have HO3 := Lib.hid ho3
      have HG3 := Lib.hid hg3
      have HV3 := Lib.hid hv3
      have B33 := Lib.hid (HZ2.out.b3.grown hg3 (fun e => by have h1 := HZ2.out.md; have h2 := HZ2.out.log.oe; exact own_old h2 hvE0.out (by omega) e.symm))
      clear hrun ho3 hg3 hv3
      refine hK.out _ _ B33.out (fun hT => ?_)
      clear hK
      have hS := hT
      clear hT
      dsimp only [Act.put]
      simp only [List.setIfInBounds_toArray, List.set_cons_zero, List.set_cons_succ]
      refine takeH (i := 9) (d := 47) (v := ?vpt29) rfl (by kernel_rfl) (by kernel_rfl) (by kernel_rfl) (fun _ _ _ h => h) rfl (by rfl) ?ypt29 hS ?rpt29
      case ypt29 => (intro wz hz; go_simp <;> with_reducible rfl)
      simp only [List.setIfInBounds_toArray, List.set_cons_zero, List.set_cons_succ]
      refine takeH (i := 10) (d := 48) (v := ?vpt210) rfl (by kernel_rfl) (by kernel_rfl) (by kernel_rfl) (fun _ _ _ h => h) rfl (by rfl) ?ypt210 hS ?rpt210
      case ypt210 => (intro wz hz; go_simp <;> with_reducible rfl)
      simp only [List.setIfInBounds_toArray, List.set_cons_zero, List.set_cons_succ]
      clear hS
      refine wpAnyH_ready (rs := [11]) (by kernel_rfl) (by simp) ?_
      refine AllReadyH.cons rfl (fun K hK => ?_) AllReadyH.nil
      rw [if_pos (by rfl)]
      refine wp_store_cell 32 (.tmp 48) (.tmp 46) rfl rfl g 3 rfl v3 rfl (by obtain ⟨_, _, h, _⟩ := own_slice HO3.out; rw [h]; rfl) (by kernel_rfl) _ 82 (by simp) (HZ2.out.log.box.grown HG3.out (own_ne HZ2.out.log.oe HZ2.out.log.box (by decide))) ?_
      intro y4 h4 g4
      obtain ⟨L5, M5, X5⟩ := HZ2.out.log.rowE EL2.out HO3.out HG3.out HV3.out (fun cs hcs => by rw [At.uniq hcs (HZ2.out.log.box.grown HG3.out (own_ne HZ2.out.log.oe HZ2.out.log.box (by decide)))]; exact h4) g4
      have B5 := B33.out.grown g4 (by intro e; injection e with e; omega)
      have F5 := Lib.hid (show LogAt X B y4 g gd base size (rs ++ [r2]) fo (ws ++ cutS (enc (withN r.e (us + 1))) us) v3 v8 ∧ Mod (XL g vE (.slice AW ws.length cW)) w y4 ∧ (∀ k, k < w.heap.size → XL g v3 v8 k → XL g vE (.slice AW ws.length cW) k) from ⟨L5, HZ2.out.md.step M5 HZ2.out.le, fun k hk hx => HZ2.out.le k hk (X5 k (Nat.lt_of_lt_of_le hk HZ2.out.md.size) hx)⟩)
      have c50 : y4.cell? ⟨w.heap.size, 0, none⟩ = some (.int .u64 ((us + 1 : Nat) : Int)) := B5.cell 0
      clear h4 g4 L5 M5 X5
      refine hK.out _ _ B5 (fun hT => ?_)
      clear hK hT B5
      refine wpAnyH_done (by kernel_rfl) ?_ _
      go_wp2_with fail
      go_ret2
      exact ⟨r2, v3, v8, HRE.out, HNP.out, HNA.out, rfl, F5.out.1, F5.out.2.1, F5.out.2.2⟩
    · rw [if_pos (by rfl)]
      refine wp_lit1 45 (.tmp 44) 32 42 13 _ (erA r2) rfl rfl rfl Tryd.underlying32 ent_info2 (by omega) (by omega) rfl ?_
      have HZ2 := Lib.hid (HZ1.out.call ((Below.refl _ _).alloc (Nat.le_refl _) (.cells (erA r2) 42)))
      have EL2 := Lib.hid (EL1.out.below ((Below.refl _ _).alloc (Nat.le_refl _) (.cells (erA r2) 42)))
      have LN := Lib.hid (lies_newC y1 (erL r2) 42 13 rfl)
      refine hK.out _ _ HZ2.out.b3 (fun hT => ?_)
      clear hK hT
      refine wpAnyH_ready (rs := [4]) (by kernel_rfl) (by simp) ?_
      refine AllReadyH.cons rfl (fun K hK => ?_) AllReadyH.nil
      have q3 := HZ2.out.log.cells.2.2.2.1
      go_simp
      refine hK.out _ _ HZ2.out.b3 (fun hT => ?_)
      clear hK hT
      clear q3
      refine wpAnyH_ready (rs := [8]) (by kernel_rfl) (by simp) ?_
      refine AllReadyH.cons rfl (fun K hK => ?_) AllReadyH.nil
      rw [if_pos (by rfl)]
      obtain ⟨v3, y3, hrun, ho3, hg3, hv3⟩ := run_append_lies2 (P := Tryd.prog) (y1.alloc (.cells (erA r2) 42)) B 32 32 42 i1 _ 13 136 Tryd.underlying32 hi1 hy0 hy1 hy2 rfl (by omega) _ _ _ HZ2.out.log.oe _ _ 1 1 _ LN.out (erL_one _) (by omega) (by simp only [maxLen]; omega) (by omega) (by have := HZ2.out.md.size; omega)
      rw [hvE] at hrun
      refine wp_app 46 (.tmp 42) (.tmp 45) 32 rfl rfl _ _ rfl rfl _ _ hrun ?_
      have HO3 := Lib.hid ho3
      have HG3 := Lib.hid hg3
      have HV3 := Lib.hid hv3
      have B33 := Lib.hid (HZ2.out.b3.grown hg3 (fun e => by have h1 := HZ2.out.md; have h2 := HZ2.out.log.oe; exact own_old h2 hvE0.out (by omega) e.symm))
      clear hrun ho3 hg3 hv3
      refine hK.out _ _ B33.out (fun hT => ?_)
      clear hK
      have hS := hT
      clear hT
      dsimp only [Act.put]
      simp only [List.setIfInBounds_toArray, List.set_cons_zero, List.set_cons_succ]
      refine takeH (i := 9) (d := 47) (v := ?vpt39) rfl (by kernel_rfl) (by kernel_rfl) (by kernel_rfl) (fun _ _ _ h => h) rfl (by rfl) ?ypt39 hS ?rpt39
      case ypt39 => (intro wz hz; go_simp <;> with_reducible rfl)
      simp only [List.setIfInBounds_toArray, List.set_cons_zero, List.set_cons_succ]
      refine takeH (i := 10) (d := 48) (v := ?vpt310) rfl (by kernel_rfl) (by kernel_rfl) (by kernel_rfl) (fun _ _ _ h => h) rfl (by rfl) ?ypt310 hS ?rpt310
      case ypt310 => (intro wz hz; go_simp <;> with_reducible rfl)
      simp only [List.setIfInBounds_toArray, List.set_cons_zero, List.set_cons_succ]
      clear hS
      refine wpAnyH_ready (rs := [11]) (by kernel_rfl) (by simp) ?_
      refine AllReadyH.cons rfl (fun K hK => ?_) AllReadyH.nil
      rw [if_pos (by rfl)]
      refine wp_store_cell 32 (.tmp 48) (.tmp 46) rfl rfl g 3 rfl v3 rfl (by obtain ⟨_, _, h, _⟩ := own_slice HO3.out; rw [h]; rfl) (by kernel_rfl) _ 82 (by simp) (HZ2.out.log.box.grown HG3.out (own_ne HZ2.out.log.oe HZ2.out.log.box (by decide))) ?_
      intro y4 h4 g4
      obtain ⟨L5, M5, X5⟩ := HZ2.out.log.rowE EL2.out HO3.out HG3.out HV3.out (fun cs hcs => by rw [At.uniq hcs (HZ2.out.log.box.grown HG3.out (own_ne HZ2.out.log.oe HZ2.out.log.box (by decide)))]; exact h4) g4
      have B5 := B33.out.grown g4 (by intro e; injection e with e; omega)
      have F5 := Lib.hid (show LogAt X B y4 g gd base size (rs ++ [r2]) fo (ws ++ cutS (enc (withN r.e (us + 1))) us) v3 v8 ∧ Mod (XL g vE (.slice AW ws.length cW)) w y4 ∧ (∀ k, k < w.heap.size → XL g v3 v8 k → XL g vE (.slice AW ws.length cW) k) from ⟨L5, HZ2.out.md.step M5 HZ2.out.le, fun k hk hx => HZ2.out.le k hk (X5 k (Nat.lt_of_lt_of_le hk HZ2.out.md.size) hx)⟩)
      have c50 : y4.cell? ⟨w.heap.size, 0, none⟩ = some (.int .u64 ((us + 1 : Nat) : Int)) := B5.cell 0
      clear h4 g4 L5 M5 X5
      refine hK.out _ _ B5 (fun hT => ?_)
      clear hK hT B5
      refine wpAnyH_done (by kernel_rfl) ?_ _
      go_wp2_with fail
      go_ret2
      exact ⟨r2, v3, v8, HRE.out, HNP.out, HNA.out, rfl, F5.out.1, F5.out.2.1, F5.out.2.2⟩

end
end Go.Proofs.YthicidpdgggbjaaDoor
