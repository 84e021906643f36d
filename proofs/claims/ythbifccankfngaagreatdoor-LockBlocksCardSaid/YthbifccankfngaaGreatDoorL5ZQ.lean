/-
  The law's do: one act on the table and on the reference's.
  Conditions: at most 200 claims.
-/
import Derived.Test.YthbifccankfngaaGreatDoorL4ZQ
import Derived.Test.YthbifccankfngaaGreatDoorR12ZQ
import Derived.Test.YthbifccankfngaaGreatDoorR14ZQ
import Derived.Test.YthbifccankfngaaGreatDoorK27ZQ
namespace Go.Proofs.YthbifccankfngaaGreatDoor
open Go.RowKit Go.Shelf
attribute [local go_sem] Oper.semAt_some
set_option maxRecDepth 20000

theorem wakes_who : ∀ (l : List Rs) (u : TR) (N : Nat), u.held.length + u.queue.length ≤ N → (wakes l u).2.length ≤ N * l.length
  | [], _, _, _ => Nat.zero_le _
  | r :: l, u, N, h => by
    have h1 := wakeR_tot u r
    have h2 := wakes_who l (wakeR u r).1 N (by omega)
    show ((wakeR u r).2 ++ (wakes l (wakeR u r).1).2).length ≤ _
    rw [List.length_append, List.length_cons, Nat.mul_succ]
    omega
theorem rel_len (u : TR) (t N : Nat) (h : u.held.length + u.queue.length ≤ N) : (releaseR u t).2.length ≤ N * N := by
  have h1 : (withoutR u.held t).length ≤ u.held.length := List.length_filter_le _ _
  have h2 : (withoutR u.queue t).length ≤ u.queue.length := List.length_filter_le _ _
  have h3 := wakes_who (thingsR ⟨byT u.held t, byT u.queue t⟩) ⟨withoutR u.held t, withoutR u.queue t⟩ N (show (withoutR u.held t).length + (withoutR u.queue t).length ≤ N by omega)
  have h4 := fold_len (byT u.held t ++ byT u.queue t) []
  have h5 : (byT u.held t).length ≤ u.held.length := List.length_filter_le _ _
  have h6 : (byT u.queue t).length ≤ u.queue.length := List.length_filter_le _ _
  simp only [List.length_nil, List.length_append] at h4
  have h7 : (thingsR ⟨byT u.held t, byT u.queue t⟩).length ≤ N := by
    show (List.foldl _ [] (byT u.held t ++ byT u.queue t)).length ≤ N
    omega
  exact Nat.le_trans h3 (Nat.mul_le_mul_left N h7)
theorem can_len (u : TR) (t N : Nat) (h : u.held.length + u.queue.length ≤ N) : (cancelR u t).2.length ≤ N * N := by
  unfold cancelR
  cases waitR u.queue t with
  | none => exact Nat.zero_le _
  | some c =>
    have h1 := (wakeR_tot ⟨u.held, withoutR u.queue t⟩ c.1).2
    have h2 : (withoutR u.queue t).length ≤ u.queue.length := List.length_filter_le _ _
    show (wakeR ⟨u.held, withoutR u.queue t⟩ c.1).2.length ≤ _
    have h3 : N ≤ N * N := by
      cases N with
      | zero => omega
      | succ k => exact Nat.le_mul_of_pos_left _ (Nat.succ_pos k)
    have h4 : (wakeR ⟨u.held, withoutR u.queue t⟩ c.1).2.length ≤ (withoutR u.queue t).length := h1
    omega
structure Opx where
  kind : Int
  t : Nat
  r : Rs
  m : Int
def opA (o : Opx) : Array Value := #[.int .i64 o.kind, .int .u64 (o.t : Int), .int .i64 o.r.1, .int .u64 (o.r.2 : Int), .int .i64 o.m]
theorem opA_range {w : World} {b : Nat} {o : Opx} (h : At w b 35 (opA o)) : w.rangeAt b 2 (encR o.r) := fun j v hv => by
  rw [h.cell]
  match j, hv with
  | 0, hv => exact hv
  | 1, hv => exact hv
/-- The two tables, beside each other. -/
structure Two (w : World) (g : Nat) (X : Nat → Prop) (s : TS) (A1 : Option Addr) (n1 : Nat) (A2 : Option Addr) (n2 : Nat) (u : TR) (N : Nat) : Prop where
  tt : Tt w g s X
  rt : RtV X w A1 n1 A2 n2 u
  rel : Rel s u
  ok : OkU u
  sz : tot u ≤ N
  x2 : ∀ k, X k → 2 ≤ k
  tb : Tab w
def DoR (w : World) (g : Nat) (X : Nat → Prop) (N : Nat) (e : Ending) (w' : World) : Prop :=
  ∃ s' u' X' A1 n1 c1 A2 n2 c2, e = .returned (.tuple #[.agg (rtA A1 A2 n1 c1 n2 c2), .bool true]) ∧ Two w' g X' s' A1 n1 A2 n2 u' N ∧ (∀ k, X' k → X k ∨ w.heap.size ≤ k) ∧ Mod X w w'
theorem Tt.beside {w w' : World} {g : Nat} {s : TS} {X : Nat → Prop} (h : Tt w g s X) {row : Option Nat} (hg : w.grownBy w' row) (hr : ∀ k, row = some k → ¬ X k) : Tt w' g s X := by
  obtain ⟨B, b1, b2, b3, V, hv, hB, hx⟩ := h.ex
  exact ⟨⟨B, b1, b2, b3, V, hv.grown hg (fun k hk hk2 => hr k hk (hx k hk2)), Nat.le_trans hB hg.size, hx⟩, fun k hk => Nat.lt_of_lt_of_le (h.lt k hk) hg.size⟩
/-- The end of an act: the box of the result is written. -/
theorem two_fin {X : Nat → Prop} {w0 y y' w9 : World} {g b : Nat} {s' : TS} {A1 A2 : Option Addr} {n1 n2 N : Nat} {u' : TR} (hb : Below w0.heap.size w0 y) (h : Tw y X g s' y') (hr : RtV (fun k => X k ∨ k = b) y A1 n1 A2 n2 u') (hrel : Rel s' u') (ho : OkU u') (hs : tot u' ≤ N)
    (hx : ∀ k, X k → 2 ≤ k ∧ k < w0.heap.size) (hT : Tab w0) (hby : b < y.heap.size) (hbw : w0.heap.size ≤ b) (hg : y'.grownBy w9 (some b)) :
    ∃ X', Two w9 g X' s' A1 n1 A2 n2 u' N ∧ (∀ k, X' k → X k ∨ w0.heap.size ≤ k) ∧ Mod X w0 w9 := by
  obtain ⟨X', h1, h2, h3⟩ := h
  have hts := hT.size
  have hb0 := hb.size
  have hXb : ¬ X' b := fun hk => by
    rcases h2 b hk with h | h
    · have := (hx b h).2; omega
    · omega
  have hr2 : RtV (fun k => X' k ∨ k = b) y' A1 n1 A2 n2 u' := ((hr.wide (Y := fun k => X k ∨ (X' k ∨ k = b)) (fun k hk hkk => by
    rcases hkk with hkk | hkk | hkk
    · exact .inl hkk
    · rcases h2 k hkk with h | h
      · exact .inl h
      · omega
    · exact .inr hkk)).kept (h3.mono fun k _ hk => .inl hk)).wide (fun k _ hk => .inr hk)
  have hm : Mod X w0 w9 := ((Mod.of_below hb X).trans h3).grown hg (fun k hk => by injection hk with hk; exact .inr (by omega))
  refine ⟨X', ⟨h1.beside hg (fun k hk => by injection hk with hk; subst hk; exact hXb), (hr2.kept ((grown_mod hg).mono fun k _ hk => .inr hk)).wide (fun k _ hk => .inl hk), hrel, ho, hs, fun k hk => ?_, tab_mod hT hm (fun k hk => (hx k hk).1)⟩, fun k hk => ?_, hm⟩
  · rcases h2 k hk with h | h
    · exact (hx k h).1
    · omega
  · rcases h2 k hk with h | h
    · exact .inl h
    · exact .inr (by omega)
set_option maxHeartbeats 12800000 in
theorem do_any (g : Nat) (X : Nat → Prop) (s : TS) (A1 A2 : Option Addr) (n1 c1 n2 c2 : Nat) (u : TR) (N : Nat) (o : Opx) (w : World) (h : Two w g X s A1 n1 A2 n2 u N) (hN : N ≤ 200) (ht : U64 o.t) (hr : RsOk o.r) :
    Calls Tryz.prog 8 #[.pointer (some ⟨g, 0, none⟩), .agg (rtA A1 A2 n1 c1 n2 c2), .agg (opA o)] w (DoR w g X (N + 1)) := by
  obtain ⟨ki, t, r, m⟩ := o
  obtain ⟨z, hz⟩ : ∃ z, ((w.alloc (.cells (rtA A1 A2 n1 c1 n2 c2) 28)).alloc (.cells (opA ⟨ki, t, r, m⟩) 35)).alloc (.cells (rtA none none 0 0 0 0) 28) = z := ⟨_, rfl⟩
  obtain ⟨b4, hb4⟩ : ∃ b4, w.heap.size = b4 := ⟨_, rfl⟩
  have hbel : Below w.heap.size w z := hz ▸ (((Below.refl _ w).alloc (Nat.le_refl _) _).alloc (by simp) _).alloc (by simp; omega) _
  have A4Z : Hid (At z b4 28 (rtA A1 A2 n1 c1 n2 c2)) := by
    have := ((At.new w 28 (rtA A1 A2 n1 c1 n2 c2)).alloc (.cells (opA ⟨ki, t, r, m⟩) 35)).alloc (.cells (rtA none none 0 0 0 0) 28)
    rw [hz, hb4] at this
    exact this
  have A5Z : Hid (At z (b4 + 1) 35 (opA ⟨ki, t, r, m⟩)) := by
    have := (At.new (w.alloc (.cells (rtA A1 A2 n1 c1 n2 c2) 28)) 35 (opA ⟨ki, t, r, m⟩)).alloc (.cells (rtA none none 0 0 0 0) 28)
    rw [hz] at this
    simp only [World.size_alloc, hb4] at this
    exact this
  have A6Z : Hid (At z (b4 + 1 + 1) 28 (rtA none none 0 0 0 0)) := by
    have := At.new ((w.alloc (.cells (rtA A1 A2 n1 c1 n2 c2) 28)).alloc (.cells (opA ⟨ki, t, r, m⟩) 35)) 28 (rtA none none 0 0 0 0)
    rw [hz] at this
    simp only [World.size_alloc, hb4] at this
    exact this
  have HB := Lib.hid hbel
  have HZ := Lib.hid hz
  have HTWO := Lib.hid h
  have HT : Hid (U64 t) := ht
  have HR : Hid (RsOk r) := hr
  have HTB := Lib.hid h.tb
  have HXL : Hid (∀ k, X k → 2 ≤ k ∧ k < w.heap.size) := fun k hk => ⟨h.x2 k hk, h.tt.lt k hk⟩
  have HTOT : Hid (u.held.length + u.queue.length ≤ N) := h.sz
  clear h ht hr hbel
  go_enter Tryz.func8, Tryz.ntmps8
  go_upto_region 1 with fail
  have hzz : ((w.alloc (.cells (rtA A1 A2 n1 c1 n2 c2) 28)).alloc (.cells (opA ⟨ki, t, r, m⟩) 35)).alloc (.cells #[.slice none 0 0, .slice none 0 0] 28) = z := HZ.out
  try rw [hzz]
  try rw [hb4]
  clear hz hzz
  obtain ⟨b5, hb5⟩ : ∃ b5, b4 + 1 = b5 := ⟨_, rfl⟩
  obtain ⟨b6, hb6⟩ : ∃ b6, b5 + 1 = b6 := ⟨_, rfl⟩
  rw [hb5] at A5Z A6Z ⊢
  rw [hb6] at A6Z ⊢
  have hb6z : b6 < z.heap.size := A6Z.out.lt
  have hw4 : w.heap.size ≤ b4 := by omega
  have hw5 : w.heap.size ≤ b5 := by omega
  have hw6 : w.heap.size ≤ b6 := by omega
  have hb56 : b5 < b6 := by omega
  have hb45 : b4 < b5 := by omega
  clear hb4 hb5 hb6
  have HX6 : Hid (∀ j, (X j ∨ j = b6) → j < z.heap.size) := fun j hj => by
    rcases hj with hj | hj
    · have := (HXL.out j hj).2; have := HB.out.size; omega
    · omega
  have HRT : Hid (RtV (fun j => X j ∨ j = b6) z A1 n1 A2 n2 u) := (HTWO.out.rt.wide (Y := fun j => X j ∨ j = b6) (fun j hjl hj => by
    rcases hj with hj | hj
    · exact hj
    · omega)).kept (Mod.of_below HB.out _)
  have pk : z.cell? ⟨b5, 0, none⟩ = some (.int .i64 ki) := A5Z.out.cell 0
  by_cases k0 : ki = 0
  · subst k0
    have pt : z.cell? ⟨b5, 1, none⟩ = some (.int .u64 (t : Int)) := A5Z.out.cell 1
    have pm : z.cell? ⟨b5, 4, none⟩ = some (.int .i64 m) := A5Z.out.cell 4
    obtain ⟨pu, hpu⟩ : ∃ pu, lockR u t r m = pu := ⟨_, rfl⟩
    obtain ⟨ps, hps⟩ : ∃ ps, lockI s t r m = ps := ⟨_, rfl⟩
    have hlr := lock_rel HTWO.out.rel t r m
    have hok := okU_lock HTWO.out.ok t r m HT.out HR.out
    have htt := tot_lock u t r m
    have HLK := Lib.hid (rLock_any A1 A2 n1 c1 n2 c2 u t r m z (fun j => X j ∨ j = b6) HX6.out HRT.out N HTOT.out (by omega))
    rw [hpu] at HLK hlr hok htt
    rw [hps] at hlr
    have HREL := Lib.hid hlr.2
    have HOKU := Lib.hid hok
    have HTT : Hid (tot pu.1 ≤ N + 1) := by have := HTWO.out.sz; show _ ≤ _; omega
    obtain ⟨cd, hcd⟩ : ∃ cd, pu.2 = cd := ⟨_, rfl⟩
    have hcs : ps.2 = cd := by rw [hlr.1, hcd]
    have HCD := Lib.hid hcd
    have HCS := Lib.hid hcs
    have HTL : Hid (∀ Wx, Below z.heap.size z Wx → Calls Tryz.prog 18 #[.pointer (some ⟨g, 0, none⟩), .int .u64 (t : Int), .agg (rsA r), .int .i64 m] Wx (LockR Wx X g ps)) := fun Wx hW => by
      rw [← hps]
      exact Lock_any X g s t r m Wx (HTWO.out.tt.below (HB.out.trans (hW.mono HB.out.size))) (tab_mod HTWO.out.tb (Mod.of_below (HB.out.trans (hW.mono HB.out.size)) X) HTWO.out.x2) HR.out HT.out ((HTWO.out.rel.sm HTWO.out.sz).mono (by omega))
    clear hpu hps hlr hok htt hcd hcs
    go_upto_region 5 with fail
    go_upto_region 6 with (first
      | ((with_reducible show wpList _ _ _ (⟨some 21, _, _, _, _, _⟩ :: _) _ _); refine wpList_load_at 28 21 (.tmp 4) rfl rfl rfl b4 rfl (rtA A1 A2 n1 c1 n2 c2) 2 strT rfl A4Z.out ?_)
      | ((with_reducible show wpList _ _ _ (⟨some 25, _, _, _, _, _⟩ :: _) _ _); refine wpList_load_in 33 25 (.tmp 24) rfl rfl rfl b5 2 rfl (encR r) 2 strR rfl (opA_range A5Z.out) ?_))
    refine HLK.out.mono ?_
    rintro e y ⟨B1, m1, d1, B2, m2, d2, rfl, hrt, hby⟩
    rw [HCD.out]
    have RTV := Lib.hid hrt
    have BY := Lib.hid hby
    have A5Y := Lib.hid (A5Z.out.under hby A5Z.out.lt)
    have A6Y := Lib.hid (A6Z.out.under hby A6Z.out.lt)
    clear hrt hby HLK
    go_upto_region 6 with ((with_reducible show wpList _ _ _ (⟨none, _, _, _, _, _⟩ :: _) _ _); refine wpList_store_new 28 (.tmp 8) (.tmp 29) rfl rfl rfl y.heap.size y rfl rfl (rtA B1 B2 m1 d1 m2 d2) (rtA none none 0 0 0 0) 2 rfl strT rfl rfl (rtA_one _ _ _ _ _ _) rfl ?_)
    have A8W : Hid (At (y.alloc (.cells (rtA B1 B2 m1 d1 m2 d2) 28)) y.heap.size 28 (rtA B1 B2 m1 d1 m2 d2)) := At.new y _ _
    have A5W := Lib.hid (A5Y.out.alloc (.cells (rtA B1 B2 m1 d1 m2 d2) 28))
    have A6W := Lib.hid (A6Y.out.alloc (.cells (rtA B1 B2 m1 d1 m2 d2) 28))
    have BW := Lib.hid (BY.out.alloc BY.out.size (.cells (rtA B1 B2 m1 d1 m2 d2) 28))
    have RTW := Lib.hid (RTV.out.kept (Mod.of_below ((Below.refl _ y).alloc (Nat.le_refl _) (.cells (rtA B1 B2 m1 d1 m2 d2) 28)) _))
    have hb8z : z.heap.size ≤ y.heap.size := BY.out.size
    obtain ⟨b8, hb8⟩ : ∃ b8, y.heap.size = b8 := ⟨_, rfl⟩
    rw [hb8] at A8W hb8z ⊢
    generalize y.alloc (.cells (rtA B1 B2 m1 d1 m2 d2) 28) = y8 at A8W A5W A6W BW RTW ⊢
    clear hb8 A5Y A6Y BY RTV pt pm
    have HBS : Hid (z.heap.size ≤ y8.heap.size) := BW.out.size
    refine wp_region_held_drew (S := fun wz => At wz b8 28 (rtA B1 B2 m1 d1 m2 d2) ∧ At wz b5 35 (opA ⟨0, t, r, m⟩)) (by kernel_rfl) ⟨A8W.out, A5W.out⟩ (fun hS => ?_)
    have C0 := Lib.hid ((Below.refl y8.heap.size y8).drew)
    refine tk (v := .agg (rtA B1 B2 m1 d1 m2 d2)) 0 hS ?_ (hy := by intro wz hz; have pt : wz.cell? ⟨b5, 1, none⟩ = some (.int .u64 (t : Int)) := hz.2.cell 1; have pm : wz.cell? ⟨b5, 4, none⟩ = some (.int .i64 m) := hz.2.cell 4; exact exec_load_at 28 (.tmp 8) rfl b8 rfl (rtA B1 B2 m1 d1 m2 d2) 2 strT rfl hz.1)
    refine tk 1 hS ?_
    refine tk 2 hS ?_
    refine tk 3 hS ?_ (hy := by intro wz hz; have pt : wz.cell? ⟨b5, 1, none⟩ = some (.int .u64 (t : Int)) := hz.2.cell 1; have pm : wz.cell? ⟨b5, 4, none⟩ = some (.int .i64 m) := hz.2.cell 4; go_simp <;> with_reducible rfl)
    refine tk 4 hS ?_
    refine tk (v := .agg (rsA r)) 5 hS ?_ (hy := by intro wz hz; have pt : wz.cell? ⟨b5, 1, none⟩ = some (.int .u64 (t : Int)) := hz.2.cell 1; have pm : wz.cell? ⟨b5, 4, none⟩ = some (.int .i64 m) := hz.2.cell 4; exact exec_load_in 33 (.tmp 35) rfl b5 2 rfl (encR r) 2 strR rfl (opA_range hz.2))
    refine tk 6 hS ?_
    refine tk 7 hS ?_ (hy := by intro wz hz; have pt : wz.cell? ⟨b5, 1, none⟩ = some (.int .u64 (t : Int)) := hz.2.cell 1; have pm : wz.cell? ⟨b5, 4, none⟩ = some (.int .i64 m) := hz.2.cell 4; go_simp <;> with_reducible rfl)
    refine tk 9 hS ?_
    refine wpAnyH_ready (rs := [8]) (by kernel_rfl) (by simp) ?_
    refine AllReadyH.cons rfl (fun K hK => ?_) AllReadyH.nil
    go_simp
    refine (HTL.out y8.drew (BW.out.trans (C0.out.mono BW.out.size))).mono ?_
    rintro e y9 ⟨rfl, htw⟩
    rw [HCS.out]
    have HTW := Lib.hid htw
    obtain ⟨_, _, _, hmd⟩ := htw
    have HMD := Lib.hid hmd
    clear hmd
    have KA : At y9 b8 28 (rtA B1 B2 m1 d1 m2 d2) ∧ At y9 b5 35 (opA ⟨0, t, r, m⟩) := ⟨hS.1.mod HMD.out (fun h => by have := (HXL.out _ h).2; omega), hS.2.mod HMD.out (fun h => by have := (HXL.out _ h).2; omega)⟩
    refine hK.out _ _ (KA) (fun hT => ?_)
    clear hK hS
    have hS := hT
    clear hT
    refine tk (v := .bool true) 10 hS ?_ (hy := by intro wz hz; have pt : wz.cell? ⟨b5, 1, none⟩ = some (.int .u64 (t : Int)) := hz.2.cell 1; have pm : wz.cell? ⟨b5, 4, none⟩ = some (.int .i64 m) := hz.2.cell 4; go_simp)
    have A69 : Hid (At y9 b6 28 (rtA none none 0 0 0 0)) := (A6W.out.under C0.out A6W.out.lt).mod HMD.out (fun h => by have := (HXL.out _ h).2; omega)
    refine wpAnyH_ready (rs := [11]) (by kernel_rfl) (by simp) ?_
    refine AllReadyH.cons rfl (fun K hK => ?_) AllReadyH.nil
    rw [if_pos (by rfl)]
    refine wp_store_at 28 (.tmp 6) (.tmp 31) rfl rfl b6 rfl (rtA B1 B2 m1 d1 m2 d2) (rtA none none 0 0 0 0) 2 rfl strT rfl rfl (rtA_one _ _ _ _ _ _) A69.out ?_
    intro w9 ha9 hg9
    have HA9 := Lib.hid ha9
    have HG9 := Lib.hid hg9
    have KB : At w9 b8 28 (rtA B1 B2 m1 d1 m2 d2) ∧ At w9 b5 35 (opA ⟨0, t, r, m⟩) := ⟨hS.1.grown hg9 (fun e => by have := Option.some.inj e; omega), hS.2.grown hg9 (fun e => by have := Option.some.inj e; omega)⟩
    clear ha9 hg9
    refine hK.out _ _ (KB) (fun hT => ?_)
    clear hK hS
    have hS := hT
    clear hT
    dsimp only [Act.put]
    refine tk 12 hS ?_
    refine wpAnyH_done (by kernel_rfl) ?_ _
    clear hS KA KB
    go_wp2_with fail
    refine bodyPost_ret (v := .tuple #[.agg (rtA B1 B2 m1 d1 m2 d2), .bool true]) ?_ rfl ?_
    · exact results_at2 (p := 6) (t := 7) (g := b6) (n := 2) (cs := rtA B1 B2 m1 d1 m2 d2) rfl HA9.out strT rfl rfl rfl
    · obtain ⟨X', h1, h2, h3⟩ := two_fin ((HB.out.trans (BW.out.mono HB.out.size)).drew) HTW.out (RTW.out.kept (Mod.of_below C0.out _)) HREL.out HOKU.out HTT.out HXL.out HTB.out (Nat.lt_of_lt_of_le hb6z HBS.out) hw6 HG9.out
      exact ⟨_, _, X', B1, m1, d1, B2, m2, d2, rfl, h1, h2, h3⟩
  by_cases k1 : ki = 1
  · subst k1
    have pt : z.cell? ⟨b5, 1, none⟩ = some (.int .u64 (t : Int)) := A5Z.out.cell 1
    have pm : z.cell? ⟨b5, 4, none⟩ = some (.int .i64 m) := A5Z.out.cell 4
    obtain ⟨pu, hpu⟩ : ∃ pu, lockR u t r m = pu := ⟨_, rfl⟩
    obtain ⟨ps, hps⟩ : ∃ ps, lockI s t r m = ps := ⟨_, rfl⟩
    have hlr := lock_rel HTWO.out.rel t r m
    have hok := okU_lock HTWO.out.ok t r m HT.out HR.out
    have htt := tot_lock u t r m
    have HLK := Lib.hid (rLock_any A1 A2 n1 c1 n2 c2 u t r m z (fun j => X j ∨ j = b6) HX6.out HRT.out N HTOT.out (by omega))
    rw [hpu] at HLK hlr hok htt
    rw [hps] at hlr
    have HREL := Lib.hid hlr.2
    have HOKU := Lib.hid hok
    have HTT : Hid (tot pu.1 ≤ N + 1) := by have := HTWO.out.sz; show _ ≤ _; omega
    obtain ⟨cd, hcd⟩ : ∃ cd, pu.2 = cd := ⟨_, rfl⟩
    have hcs : ps.2 = cd := by rw [hlr.1, hcd]
    have HCD := Lib.hid hcd
    have HCS := Lib.hid hcs
    have HTL : Hid (∀ Wx, Below z.heap.size z Wx → Calls Tryz.prog 18 #[.pointer (some ⟨g, 0, none⟩), .int .u64 (t : Int), .agg (rsA r), .int .i64 m] Wx (LockR Wx X g ps)) := fun Wx hW => by
      rw [← hps]
      exact Lock_any X g s t r m Wx (HTWO.out.tt.below (HB.out.trans (hW.mono HB.out.size))) (tab_mod HTWO.out.tb (Mod.of_below (HB.out.trans (hW.mono HB.out.size)) X) HTWO.out.x2) HR.out HT.out ((HTWO.out.rel.sm HTWO.out.sz).mono (by omega))
    clear hpu hps hlr hok htt hcd hcs
    go_upto_region 5 with fail
    go_upto_region 6 with (first
      | ((with_reducible show wpList _ _ _ (⟨some 21, _, _, _, _, _⟩ :: _) _ _); refine wpList_load_at 28 21 (.tmp 4) rfl rfl rfl b4 rfl (rtA A1 A2 n1 c1 n2 c2) 2 strT rfl A4Z.out ?_)
      | ((with_reducible show wpList _ _ _ (⟨some 25, _, _, _, _, _⟩ :: _) _ _); refine wpList_load_in 33 25 (.tmp 24) rfl rfl rfl b5 2 rfl (encR r) 2 strR rfl (opA_range A5Z.out) ?_))
    refine HLK.out.mono ?_
    rintro e y ⟨B1, m1, d1, B2, m2, d2, rfl, hrt, hby⟩
    rw [HCD.out]
    have RTV := Lib.hid hrt
    have BY := Lib.hid hby
    have A5Y := Lib.hid (A5Z.out.under hby A5Z.out.lt)
    have A6Y := Lib.hid (A6Z.out.under hby A6Z.out.lt)
    clear hrt hby HLK
    go_upto_region 6 with ((with_reducible show wpList _ _ _ (⟨none, _, _, _, _, _⟩ :: _) _ _); refine wpList_store_new 28 (.tmp 8) (.tmp 29) rfl rfl rfl y.heap.size y rfl rfl (rtA B1 B2 m1 d1 m2 d2) (rtA none none 0 0 0 0) 2 rfl strT rfl rfl (rtA_one _ _ _ _ _ _) rfl ?_)
    have A8W : Hid (At (y.alloc (.cells (rtA B1 B2 m1 d1 m2 d2) 28)) y.heap.size 28 (rtA B1 B2 m1 d1 m2 d2)) := At.new y _ _
    have A5W := Lib.hid (A5Y.out.alloc (.cells (rtA B1 B2 m1 d1 m2 d2) 28))
    have A6W := Lib.hid (A6Y.out.alloc (.cells (rtA B1 B2 m1 d1 m2 d2) 28))
    have BW := Lib.hid (BY.out.alloc BY.out.size (.cells (rtA B1 B2 m1 d1 m2 d2) 28))
    have RTW := Lib.hid (RTV.out.kept (Mod.of_below ((Below.refl _ y).alloc (Nat.le_refl _) (.cells (rtA B1 B2 m1 d1 m2 d2) 28)) _))
    have hb8z : z.heap.size ≤ y.heap.size := BY.out.size
    obtain ⟨b8, hb8⟩ : ∃ b8, y.heap.size = b8 := ⟨_, rfl⟩
    rw [hb8] at A8W hb8z ⊢
    generalize y.alloc (.cells (rtA B1 B2 m1 d1 m2 d2) 28) = y8 at A8W A5W A6W BW RTW ⊢
    clear hb8 A5Y A6Y BY RTV pt pm
    have HBS : Hid (z.heap.size ≤ y8.heap.size) := BW.out.size
    refine wp_region_held_drew (S := fun wz => At wz b8 28 (rtA B1 B2 m1 d1 m2 d2) ∧ At wz b5 35 (opA ⟨1, t, r, m⟩)) (by kernel_rfl) ⟨A8W.out, A5W.out⟩ (fun hS => ?_)
    have C0 := Lib.hid ((Below.refl y8.heap.size y8).drew)
    refine tk (v := .agg (rtA B1 B2 m1 d1 m2 d2)) 0 hS ?_ (hy := by intro wz hz; have pt : wz.cell? ⟨b5, 1, none⟩ = some (.int .u64 (t : Int)) := hz.2.cell 1; have pm : wz.cell? ⟨b5, 4, none⟩ = some (.int .i64 m) := hz.2.cell 4; exact exec_load_at 28 (.tmp 8) rfl b8 rfl (rtA B1 B2 m1 d1 m2 d2) 2 strT rfl hz.1)
    refine tk 1 hS ?_
    refine tk 2 hS ?_
    refine tk 3 hS ?_ (hy := by intro wz hz; have pt : wz.cell? ⟨b5, 1, none⟩ = some (.int .u64 (t : Int)) := hz.2.cell 1; have pm : wz.cell? ⟨b5, 4, none⟩ = some (.int .i64 m) := hz.2.cell 4; go_simp <;> with_reducible rfl)
    refine tk 4 hS ?_
    refine tk (v := .agg (rsA r)) 5 hS ?_ (hy := by intro wz hz; have pt : wz.cell? ⟨b5, 1, none⟩ = some (.int .u64 (t : Int)) := hz.2.cell 1; have pm : wz.cell? ⟨b5, 4, none⟩ = some (.int .i64 m) := hz.2.cell 4; exact exec_load_in 33 (.tmp 35) rfl b5 2 rfl (encR r) 2 strR rfl (opA_range hz.2))
    refine tk 6 hS ?_
    refine tk 7 hS ?_ (hy := by intro wz hz; have pt : wz.cell? ⟨b5, 1, none⟩ = some (.int .u64 (t : Int)) := hz.2.cell 1; have pm : wz.cell? ⟨b5, 4, none⟩ = some (.int .i64 m) := hz.2.cell 4; go_simp <;> with_reducible rfl)
    refine tk 9 hS ?_
    refine wpAnyH_ready (rs := [8]) (by kernel_rfl) (by simp) ?_
    refine AllReadyH.cons rfl (fun K hK => ?_) AllReadyH.nil
    go_simp
    refine (HTL.out y8.drew (BW.out.trans (C0.out.mono BW.out.size))).mono ?_
    rintro e y9 ⟨rfl, htw⟩
    rw [HCS.out]
    have HTW := Lib.hid htw
    obtain ⟨_, _, _, hmd⟩ := htw
    have HMD := Lib.hid hmd
    clear hmd
    have KA : At y9 b8 28 (rtA B1 B2 m1 d1 m2 d2) ∧ At y9 b5 35 (opA ⟨1, t, r, m⟩) := ⟨hS.1.mod HMD.out (fun h => by have := (HXL.out _ h).2; omega), hS.2.mod HMD.out (fun h => by have := (HXL.out _ h).2; omega)⟩
    refine hK.out _ _ (KA) (fun hT => ?_)
    clear hK hS
    have hS := hT
    clear hT
    refine tk (v := .bool true) 10 hS ?_ (hy := by intro wz hz; have pt : wz.cell? ⟨b5, 1, none⟩ = some (.int .u64 (t : Int)) := hz.2.cell 1; have pm : wz.cell? ⟨b5, 4, none⟩ = some (.int .i64 m) := hz.2.cell 4; go_simp)
    have A69 : Hid (At y9 b6 28 (rtA none none 0 0 0 0)) := (A6W.out.under C0.out A6W.out.lt).mod HMD.out (fun h => by have := (HXL.out _ h).2; omega)
    refine wpAnyH_ready (rs := [11]) (by kernel_rfl) (by simp) ?_
    refine AllReadyH.cons rfl (fun K hK => ?_) AllReadyH.nil
    rw [if_pos (by rfl)]
    refine wp_store_at 28 (.tmp 6) (.tmp 31) rfl rfl b6 rfl (rtA B1 B2 m1 d1 m2 d2) (rtA none none 0 0 0 0) 2 rfl strT rfl rfl (rtA_one _ _ _ _ _ _) A69.out ?_
    intro w9 ha9 hg9
    have HA9 := Lib.hid ha9
    have HG9 := Lib.hid hg9
    have KB : At w9 b8 28 (rtA B1 B2 m1 d1 m2 d2) ∧ At w9 b5 35 (opA ⟨1, t, r, m⟩) := ⟨hS.1.grown hg9 (fun e => by have := Option.some.inj e; omega), hS.2.grown hg9 (fun e => by have := Option.some.inj e; omega)⟩
    clear ha9 hg9
    refine hK.out _ _ (KB) (fun hT => ?_)
    clear hK hS
    have hS := hT
    clear hT
    dsimp only [Act.put]
    refine tk 12 hS ?_
    refine wpAnyH_done (by kernel_rfl) ?_ _
    clear hS KA KB
    go_wp2_with fail
    refine bodyPost_ret (v := .tuple #[.agg (rtA B1 B2 m1 d1 m2 d2), .bool true]) ?_ rfl ?_
    · exact results_at2 (p := 6) (t := 7) (g := b6) (n := 2) (cs := rtA B1 B2 m1 d1 m2 d2) rfl HA9.out strT rfl rfl rfl
    · obtain ⟨X', h1, h2, h3⟩ := two_fin ((HB.out.trans (BW.out.mono HB.out.size)).drew) HTW.out (RTW.out.kept (Mod.of_below C0.out _)) HREL.out HOKU.out HTT.out HXL.out HTB.out (Nat.lt_of_lt_of_le hb6z HBS.out) hw6 HG9.out
      exact ⟨_, _, X', B1, m1, d1, B2, m2, d2, rfl, h1, h2, h3⟩
  by_cases k2 : ki = 2
  · subst k2
    have pt : z.cell? ⟨b5, 1, none⟩ = some (.int .u64 (t : Int)) := A5Z.out.cell 1
    have pm : z.cell? ⟨b5, 4, none⟩ = some (.int .i64 m) := A5Z.out.cell 4
    obtain ⟨pu, hpu⟩ : ∃ pu, lockR u t r m = pu := ⟨_, rfl⟩
    obtain ⟨ps, hps⟩ : ∃ ps, lockI s t r m = ps := ⟨_, rfl⟩
    have hlr := lock_rel HTWO.out.rel t r m
    have hok := okU_lock HTWO.out.ok t r m HT.out HR.out
    have htt := tot_lock u t r m
    have HLK := Lib.hid (rLock_any A1 A2 n1 c1 n2 c2 u t r m z (fun j => X j ∨ j = b6) HX6.out HRT.out N HTOT.out (by omega))
    rw [hpu] at HLK hlr hok htt
    rw [hps] at hlr
    have HREL := Lib.hid hlr.2
    have HOKU := Lib.hid hok
    have HTT : Hid (tot pu.1 ≤ N + 1) := by have := HTWO.out.sz; show _ ≤ _; omega
    obtain ⟨cd, hcd⟩ : ∃ cd, pu.2 = cd := ⟨_, rfl⟩
    have hcs : ps.2 = cd := by rw [hlr.1, hcd]
    have HCD := Lib.hid hcd
    have HCS := Lib.hid hcs
    have HTL : Hid (∀ Wx, Below z.heap.size z Wx → Calls Tryz.prog 18 #[.pointer (some ⟨g, 0, none⟩), .int .u64 (t : Int), .agg (rsA r), .int .i64 m] Wx (LockR Wx X g ps)) := fun Wx hW => by
      rw [← hps]
      exact Lock_any X g s t r m Wx (HTWO.out.tt.below (HB.out.trans (hW.mono HB.out.size))) (tab_mod HTWO.out.tb (Mod.of_below (HB.out.trans (hW.mono HB.out.size)) X) HTWO.out.x2) HR.out HT.out ((HTWO.out.rel.sm HTWO.out.sz).mono (by omega))
    clear hpu hps hlr hok htt hcd hcs
    go_upto_region 5 with fail
    go_upto_region 6 with (first
      | ((with_reducible show wpList _ _ _ (⟨some 21, _, _, _, _, _⟩ :: _) _ _); refine wpList_load_at 28 21 (.tmp 4) rfl rfl rfl b4 rfl (rtA A1 A2 n1 c1 n2 c2) 2 strT rfl A4Z.out ?_)
      | ((with_reducible show wpList _ _ _ (⟨some 25, _, _, _, _, _⟩ :: _) _ _); refine wpList_load_in 33 25 (.tmp 24) rfl rfl rfl b5 2 rfl (encR r) 2 strR rfl (opA_range A5Z.out) ?_))
    refine HLK.out.mono ?_
    rintro e y ⟨B1, m1, d1, B2, m2, d2, rfl, hrt, hby⟩
    rw [HCD.out]
    have RTV := Lib.hid hrt
    have BY := Lib.hid hby
    have A5Y := Lib.hid (A5Z.out.under hby A5Z.out.lt)
    have A6Y := Lib.hid (A6Z.out.under hby A6Z.out.lt)
    clear hrt hby HLK
    go_upto_region 6 with ((with_reducible show wpList _ _ _ (⟨none, _, _, _, _, _⟩ :: _) _ _); refine wpList_store_new 28 (.tmp 8) (.tmp 29) rfl rfl rfl y.heap.size y rfl rfl (rtA B1 B2 m1 d1 m2 d2) (rtA none none 0 0 0 0) 2 rfl strT rfl rfl (rtA_one _ _ _ _ _ _) rfl ?_)
    have A8W : Hid (At (y.alloc (.cells (rtA B1 B2 m1 d1 m2 d2) 28)) y.heap.size 28 (rtA B1 B2 m1 d1 m2 d2)) := At.new y _ _
    have A5W := Lib.hid (A5Y.out.alloc (.cells (rtA B1 B2 m1 d1 m2 d2) 28))
    have A6W := Lib.hid (A6Y.out.alloc (.cells (rtA B1 B2 m1 d1 m2 d2) 28))
    have BW := Lib.hid (BY.out.alloc BY.out.size (.cells (rtA B1 B2 m1 d1 m2 d2) 28))
    have RTW := Lib.hid (RTV.out.kept (Mod.of_below ((Below.refl _ y).alloc (Nat.le_refl _) (.cells (rtA B1 B2 m1 d1 m2 d2) 28)) _))
    have hb8z : z.heap.size ≤ y.heap.size := BY.out.size
    obtain ⟨b8, hb8⟩ : ∃ b8, y.heap.size = b8 := ⟨_, rfl⟩
    rw [hb8] at A8W hb8z ⊢
    generalize y.alloc (.cells (rtA B1 B2 m1 d1 m2 d2) 28) = y8 at A8W A5W A6W BW RTW ⊢
    clear hb8 A5Y A6Y BY RTV pt pm
    have HBS : Hid (z.heap.size ≤ y8.heap.size) := BW.out.size
    refine wp_region_held_drew (S := fun wz => At wz b8 28 (rtA B1 B2 m1 d1 m2 d2) ∧ At wz b5 35 (opA ⟨2, t, r, m⟩)) (by kernel_rfl) ⟨A8W.out, A5W.out⟩ (fun hS => ?_)
    have C0 := Lib.hid ((Below.refl y8.heap.size y8).drew)
    refine tk (v := .agg (rtA B1 B2 m1 d1 m2 d2)) 0 hS ?_ (hy := by intro wz hz; have pt : wz.cell? ⟨b5, 1, none⟩ = some (.int .u64 (t : Int)) := hz.2.cell 1; have pm : wz.cell? ⟨b5, 4, none⟩ = some (.int .i64 m) := hz.2.cell 4; exact exec_load_at 28 (.tmp 8) rfl b8 rfl (rtA B1 B2 m1 d1 m2 d2) 2 strT rfl hz.1)
    refine tk 1 hS ?_
    refine tk 2 hS ?_
    refine tk 3 hS ?_ (hy := by intro wz hz; have pt : wz.cell? ⟨b5, 1, none⟩ = some (.int .u64 (t : Int)) := hz.2.cell 1; have pm : wz.cell? ⟨b5, 4, none⟩ = some (.int .i64 m) := hz.2.cell 4; go_simp <;> with_reducible rfl)
    refine tk 4 hS ?_
    refine tk (v := .agg (rsA r)) 5 hS ?_ (hy := by intro wz hz; have pt : wz.cell? ⟨b5, 1, none⟩ = some (.int .u64 (t : Int)) := hz.2.cell 1; have pm : wz.cell? ⟨b5, 4, none⟩ = some (.int .i64 m) := hz.2.cell 4; exact exec_load_in 33 (.tmp 35) rfl b5 2 rfl (encR r) 2 strR rfl (opA_range hz.2))
    refine tk 6 hS ?_
    refine tk 7 hS ?_ (hy := by intro wz hz; have pt : wz.cell? ⟨b5, 1, none⟩ = some (.int .u64 (t : Int)) := hz.2.cell 1; have pm : wz.cell? ⟨b5, 4, none⟩ = some (.int .i64 m) := hz.2.cell 4; go_simp <;> with_reducible rfl)
    refine tk 9 hS ?_
    refine wpAnyH_ready (rs := [8]) (by kernel_rfl) (by simp) ?_
    refine AllReadyH.cons rfl (fun K hK => ?_) AllReadyH.nil
    go_simp
    refine (HTL.out y8.drew (BW.out.trans (C0.out.mono BW.out.size))).mono ?_
    rintro e y9 ⟨rfl, htw⟩
    rw [HCS.out]
    have HTW := Lib.hid htw
    obtain ⟨_, _, _, hmd⟩ := htw
    have HMD := Lib.hid hmd
    clear hmd
    have KA : At y9 b8 28 (rtA B1 B2 m1 d1 m2 d2) ∧ At y9 b5 35 (opA ⟨2, t, r, m⟩) := ⟨hS.1.mod HMD.out (fun h => by have := (HXL.out _ h).2; omega), hS.2.mod HMD.out (fun h => by have := (HXL.out _ h).2; omega)⟩
    refine hK.out _ _ (KA) (fun hT => ?_)
    clear hK hS
    have hS := hT
    clear hT
    refine tk (v := .bool true) 10 hS ?_ (hy := by intro wz hz; have pt : wz.cell? ⟨b5, 1, none⟩ = some (.int .u64 (t : Int)) := hz.2.cell 1; have pm : wz.cell? ⟨b5, 4, none⟩ = some (.int .i64 m) := hz.2.cell 4; go_simp)
    have A69 : Hid (At y9 b6 28 (rtA none none 0 0 0 0)) := (A6W.out.under C0.out A6W.out.lt).mod HMD.out (fun h => by have := (HXL.out _ h).2; omega)
    refine wpAnyH_ready (rs := [11]) (by kernel_rfl) (by simp) ?_
    refine AllReadyH.cons rfl (fun K hK => ?_) AllReadyH.nil
    rw [if_pos (by rfl)]
    refine wp_store_at 28 (.tmp 6) (.tmp 31) rfl rfl b6 rfl (rtA B1 B2 m1 d1 m2 d2) (rtA none none 0 0 0 0) 2 rfl strT rfl rfl (rtA_one _ _ _ _ _ _) A69.out ?_
    intro w9 ha9 hg9
    have HA9 := Lib.hid ha9
    have HG9 := Lib.hid hg9
    have KB : At w9 b8 28 (rtA B1 B2 m1 d1 m2 d2) ∧ At w9 b5 35 (opA ⟨2, t, r, m⟩) := ⟨hS.1.grown hg9 (fun e => by have := Option.some.inj e; omega), hS.2.grown hg9 (fun e => by have := Option.some.inj e; omega)⟩
    clear ha9 hg9
    refine hK.out _ _ (KB) (fun hT => ?_)
    clear hK hS
    have hS := hT
    clear hT
    dsimp only [Act.put]
    refine tk 12 hS ?_
    refine wpAnyH_done (by kernel_rfl) ?_ _
    clear hS KA KB
    go_wp2_with fail
    refine bodyPost_ret (v := .tuple #[.agg (rtA B1 B2 m1 d1 m2 d2), .bool true]) ?_ rfl ?_
    · exact results_at2 (p := 6) (t := 7) (g := b6) (n := 2) (cs := rtA B1 B2 m1 d1 m2 d2) rfl HA9.out strT rfl rfl rfl
    · obtain ⟨X', h1, h2, h3⟩ := two_fin ((HB.out.trans (BW.out.mono HB.out.size)).drew) HTW.out (RTW.out.kept (Mod.of_below C0.out _)) HREL.out HOKU.out HTT.out HXL.out HTB.out (Nat.lt_of_lt_of_le hb6z HBS.out) hw6 HG9.out
      exact ⟨_, _, X', B1, m1, d1, B2, m2, d2, rfl, h1, h2, h3⟩
  by_cases k3 : ki = 3
  · subst k3
    have pt : z.cell? ⟨b5, 1, none⟩ = some (.int .u64 (t : Int)) := A5Z.out.cell 1
    obtain ⟨pu, hpu⟩ : ∃ pu, releaseR u t = pu := ⟨_, rfl⟩
    have hok := okU_release HTWO.out.ok t
    have htt := tot_release u t
    have HLK := Lib.hid (rRelease_any A1 A2 n1 c1 n2 c2 u t z (fun j => X j ∨ j = b6) HX6.out HRT.out N HTOT.out (by omega))
    rw [hpu] at HLK hok htt
    have HPU := Lib.hid hpu
    have HOKU := Lib.hid hok
    have HTT : Hid (tot pu.1 ≤ N + 1) := by have := HTWO.out.sz; show _ ≤ _; omega
    have HNVL : Hid (pu.2.length ≤ 100000) := by have h1 := rel_len u t N HTOT.out; rw [hpu] at h1; have h2 : N * N ≤ 200 * 200 := Nat.mul_le_mul hN hN; show _ ≤ _; omega
    have HTL : Hid (∀ Wx, Below z.heap.size z Wx → Calls Tryz.prog 19 #[.pointer (some ⟨g, 0, none⟩), .int .u64 (t : Int)] Wx (fun e w' => ∃ ps : TS × List Nat, (ps.2 = pu.2 ∧ Rel ps.1 pu.1) ∧ GrantR Wx X g ps e w')) := fun Wx hW => by
      refine (Release_any X g s t Wx (HTWO.out.tt.below (HB.out.trans (hW.mono HB.out.size))) HTWO.out.x2 (tab_mod HTWO.out.tb (Mod.of_below (HB.out.trans (hW.mono HB.out.size)) X) HTWO.out.x2) (HTWO.out.rel.okm HTWO.out.ok t) (fun r hw => HTWO.out.rel.okw HTWO.out.ok hw) HT.out (fun r => HTWO.out.rel.okq HTWO.out.ok r) N (HTWO.out.rel.sm HTWO.out.sz) (by omega)).mono ?_
      rintro e w' ⟨l, hp, hpw, hg⟩
      have hrr := release_rel HTWO.out.rel t hp hpw
      rw [HPU.out] at hrr
      exact ⟨_, hrr, hg⟩
    obtain ⟨nV, hnV⟩ : ∃ nV, pu.2.length = nV := ⟨_, rfl⟩
    have HNV := Lib.hid hnV
    clear hpu hok htt hnV
    go_upto_region 8 with fail
    go_upto_region 9 with ((with_reducible show wpList _ _ _ (⟨some 45, _, _, _, _, _⟩ :: _) _ _); refine wpList_load_at 28 45 (.tmp 4) rfl rfl rfl b4 rfl (rtA A1 A2 n1 c1 n2 c2) 2 strT rfl A4Z.out ?_)
    refine HLK.out.mono ?_
    rintro e y ⟨B1, m1, d1, B2, m2, d2, v, rfl, hrt, hov, hby⟩
    obtain ⟨AV, cV, rfl, _⟩ := own_slice hov
    rw [HNV.out] at hov hrt ⊢
    have RTV := Lib.hid (hrt.wide (Y := fun j => X j ∨ j = b6) (fun j _ hj => .inl hj))
    have OV := Lib.hid hov
    have BY := Lib.hid hby
    have A5Y := Lib.hid (A5Z.out.under hby A5Z.out.lt)
    have A6Y := Lib.hid (A6Z.out.under hby A6Z.out.lt)
    clear hrt hov hby HLK
    go_upto_region 9 with ((with_reducible show wpList _ _ _ (⟨none, _, _, _, _, _⟩ :: _) _ _); refine wpList_store_new 28 (.tmp 10) (.tmp 49) rfl rfl rfl y.heap.size y rfl rfl (rtA B1 B2 m1 d1 m2 d2) (rtA none none 0 0 0 0) 2 rfl strT rfl rfl (rtA_one _ _ _ _ _ _) rfl ?_)
    have A8W : Hid (At (y.alloc (.cells (rtA B1 B2 m1 d1 m2 d2) 28)) y.heap.size 28 (rtA B1 B2 m1 d1 m2 d2)) := At.new y _ _
    have A5W := Lib.hid (A5Y.out.alloc (.cells (rtA B1 B2 m1 d1 m2 d2) 28))
    have A6W := Lib.hid (A6Y.out.alloc (.cells (rtA B1 B2 m1 d1 m2 d2) 28))
    have BW := Lib.hid (BY.out.alloc BY.out.size (.cells (rtA B1 B2 m1 d1 m2 d2) 28))
    have OVW := Lib.hid (own_under OV.out ((Below.refl _ y).alloc (Nat.le_refl _) (.cells (rtA B1 B2 m1 d1 m2 d2) 28)) (Nat.le_refl _))
    have RTW := Lib.hid (RTV.out.kept (Mod.of_below ((Below.refl _ y).alloc (Nat.le_refl _) (.cells (rtA B1 B2 m1 d1 m2 d2) 28)) _))
    have hb8z : z.heap.size ≤ y.heap.size := BY.out.size
    obtain ⟨b8, hb8⟩ : ∃ b8, y.heap.size = b8 := ⟨_, rfl⟩
    rw [hb8] at A8W hb8z ⊢
    generalize y.alloc (.cells (rtA B1 B2 m1 d1 m2 d2) 28) = y8 at A8W A5W A6W BW RTW OVW ⊢
    clear hb8 A5Y A6Y BY RTV OV pt
    have HBS : Hid (z.heap.size ≤ y8.heap.size) := BW.out.size
    have hzw := HB.out.size
    refine wp_region_held_drew (S := fun wz => At wz b8 28 (rtA B1 B2 m1 d1 m2 d2) ∧ At wz b5 35 (opA ⟨3, t, r, m⟩)) (by kernel_rfl) ⟨A8W.out, A5W.out⟩ (fun hS => ?_)
    have C0 := Lib.hid ((Below.refl y8.heap.size y8).drew)
    refine tk (v := .agg (rtA B1 B2 m1 d1 m2 d2)) 0 hS ?_ (hy := by intro wz hz; have pt : wz.cell? ⟨b5, 1, none⟩ = some (.int .u64 (t : Int)) := hz.2.cell 1; exact exec_load_at 28 (.tmp 10) rfl b8 rfl (rtA B1 B2 m1 d1 m2 d2) 2 strT rfl hz.1)
    refine tk 1 hS ?_
    refine tk 2 hS ?_
    refine tk 3 hS ?_ (hy := by intro wz hz; have pt : wz.cell? ⟨b5, 1, none⟩ = some (.int .u64 (t : Int)) := hz.2.cell 1; go_simp <;> with_reducible rfl)
    refine tk 5 hS ?_
    refine wpAnyH_ready (rs := [4]) (by kernel_rfl) (by simp) ?_
    refine AllReadyH.cons rfl (fun K hK => ?_) AllReadyH.nil
    go_simp
    refine (HTL.out y8.drew (BW.out.trans (C0.out.mono BW.out.size))).mono ?_
    rintro e y9 ⟨ps, ⟨hpe, hprel⟩, vv, rfl, hov9, htw⟩
    rw [hpe] at hov9
    obtain ⟨AW, cW, rfl, _⟩ := own_slice hov9
    rw [HNV.out] at hov9 ⊢
    have HTW := Lib.hid htw
    have HREL := Lib.hid hprel
    obtain ⟨_, _, _, hmd⟩ := htw
    have HMD := Lib.hid hmd
    have hvx : ∀ k, (Value.slice AV nV cV).ownBlock = some k → ¬ X k := fun k hk h => by have h1 := (HXL.out k h).2; have h2 := (OVW.out.lt k hk).1; omega
    have HNU : Hid (∀ Wx, Below y9.heap.size y9 Wx → Calls Tryz.prog 26 #[.slice AW nV cW, .slice AV nV cV] Wx (RetB Wx (.bool true))) := fun Wx hW => by
      have h1 : Lz (fun _ => False) y9 1 AW nV (UC pu.2) := Lz.of_own hov9 (fun _ h => h.elim)
      have h2 : Lz (fun _ => False) y9 1 AV nV (UC pu.2) := Lz.of_own (own_mod (own_under OVW.out C0.out (Nat.le_refl _)) HMD.out hvx) (fun _ h => h.elim)
      have h3 := nums_any AW AV nV cW nV cV pu.2 pu.2 Wx (h1.below hW) (h2.below hW) (by have h4 := HNVL.out; rw [HNV.out] at h4; omega)
      rw [beq_self_eq_true] at h3
      exact h3
    have KA : At y9 b8 28 (rtA B1 B2 m1 d1 m2 d2) ∧ At y9 b5 35 (opA ⟨3, t, r, m⟩) := ⟨hS.1.mod HMD.out (fun h => by have := (HXL.out _ h).2; omega), hS.2.mod HMD.out (fun h => by have := (HXL.out _ h).2; omega)⟩
    clear hmd hov9 hprel hvx hpe
    refine hK.out _ _ (KA) (fun hT => ?_)
    clear hK hS
    have hS := hT
    clear hT
    refine wpAnyH_ready (rs := [6]) (by kernel_rfl) (by simp) ?_
    refine AllReadyH.cons rfl (fun K hK => ?_) AllReadyH.nil
    go_simp
    refine (HNU.out y9 (Below.refl _ _)).mono ?_
    rintro e y10 ⟨rfl, hb10⟩
    have B10 := Lib.hid hb10
    clear hb10
    refine hK.out _ _ (⟨hS.1.under B10.out hS.1.lt, hS.2.under B10.out hS.2.lt⟩) (fun hT => ?_)
    clear hK hS
    have hS := hT
    clear hT
    have A69 : Hid (At y10 b6 28 (rtA none none 0 0 0 0)) := ((A6W.out.under C0.out A6W.out.lt).mod HMD.out (fun h => by have := (HXL.out _ h).2; omega)).under B10.out (by have h1 := HMD.out.size; have h2 := HBS.out; have h3 := C0.out.size; omega)
    have HTW2 := Lib.hid (HTW.out.below B10.out)
    refine wpAnyH_ready (rs := [7]) (by kernel_rfl) (by simp) ?_
    refine AllReadyH.cons rfl (fun K hK => ?_) AllReadyH.nil
    rw [if_pos (by rfl)]
    refine wp_store_at 28 (.tmp 6) (.tmp 51) rfl rfl b6 rfl (rtA B1 B2 m1 d1 m2 d2) (rtA none none 0 0 0 0) 2 rfl strT rfl rfl (rtA_one _ _ _ _ _ _) A69.out ?_
    intro w9 ha9 hg9
    have HA9 := Lib.hid ha9
    have HG9 := Lib.hid hg9
    have KB : At w9 b8 28 (rtA B1 B2 m1 d1 m2 d2) ∧ At w9 b5 35 (opA ⟨3, t, r, m⟩) := ⟨hS.1.grown hg9 (fun e => by have := Option.some.inj e; omega), hS.2.grown hg9 (fun e => by have := Option.some.inj e; omega)⟩
    clear ha9 hg9
    refine hK.out _ _ (KB) (fun hT => ?_)
    clear hK hS
    have hS := hT
    clear hT
    dsimp only [Act.put]
    refine tk 8 hS ?_
    refine wpAnyH_done (by kernel_rfl) ?_ _
    clear hS KA KB
    go_wp2_with fail
    refine bodyPost_ret (v := .tuple #[.agg (rtA B1 B2 m1 d1 m2 d2), .bool true]) ?_ rfl ?_
    · exact results_at2 (p := 6) (t := 7) (g := b6) (n := 2) (cs := rtA B1 B2 m1 d1 m2 d2) rfl HA9.out strT rfl rfl rfl
    · obtain ⟨X', h1, h2, h3⟩ := two_fin ((HB.out.trans (BW.out.mono HB.out.size)).drew) HTW2.out (RTW.out.kept (Mod.of_below C0.out _)) HREL.out HOKU.out HTT.out HXL.out HTB.out (Nat.lt_of_lt_of_le hb6z HBS.out) hw6 HG9.out
      exact ⟨_, _, X', B1, m1, d1, B2, m2, d2, rfl, h1, h2, h3⟩
  by_cases k4 : ki = 4
  · subst k4
    have pt : z.cell? ⟨b5, 1, none⟩ = some (.int .u64 (t : Int)) := A5Z.out.cell 1
    obtain ⟨pu, hpu⟩ : ∃ pu, cancelR u t = pu := ⟨_, rfl⟩
    have hok := okU_cancel HTWO.out.ok t
    have htt := tot_cancel u t
    have HLK := Lib.hid (rCancel_any A1 A2 n1 c1 n2 c2 u t z (fun j => X j ∨ j = b6) HX6.out HRT.out N ⟨by have := HTOT.out; omega, by have := HTOT.out; omega⟩ (by omega))
    rw [hpu] at HLK hok htt
    have HPU := Lib.hid hpu
    have HOKU := Lib.hid hok
    have HTT : Hid (tot pu.1 ≤ N + 1) := by have := HTWO.out.sz; show _ ≤ _; omega
    have HNVL : Hid (pu.2.length ≤ 100000) := by have h1 := can_len u t N HTOT.out; rw [hpu] at h1; have h2 : N * N ≤ 200 * 200 := Nat.mul_le_mul hN hN; show _ ≤ _; omega
    have HTL : Hid (∀ Wx, Below z.heap.size z Wx → Calls Tryz.prog 22 #[.pointer (some ⟨g, 0, none⟩), .int .u64 (t : Int)] Wx (fun e w' => ∃ ps : TS × List Nat, (ps.2 = pu.2 ∧ Rel ps.1 pu.1) ∧ GrantR Wx X g ps e w')) := fun Wx hW => by
      refine (Cancel_any X g s t Wx (HTWO.out.tt.below (HB.out.trans (hW.mono HB.out.size))) HTWO.out.x2 (tab_mod HTWO.out.tb (Mod.of_below (HB.out.trans (hW.mono HB.out.size)) X) HTWO.out.x2) (fun r hw => ⟨HTWO.out.rel.okw HTWO.out.ok hw, HTWO.out.rel.okq HTWO.out.ok r⟩) HT.out N (HTWO.out.rel.sm HTWO.out.sz) (by omega)).mono ?_
      rintro e w' hg
      have hrr := cancel_rel HTWO.out.rel t
      rw [HPU.out] at hrr
      exact ⟨_, hrr, hg⟩
    obtain ⟨nV, hnV⟩ : ∃ nV, pu.2.length = nV := ⟨_, rfl⟩
    have HNV := Lib.hid hnV
    clear hpu hok htt hnV
    go_upto_region 11 with fail
    go_upto_region 12 with ((with_reducible show wpList _ _ _ (⟨some 61, _, _, _, _, _⟩ :: _) _ _); refine wpList_load_at 28 61 (.tmp 4) rfl rfl rfl b4 rfl (rtA A1 A2 n1 c1 n2 c2) 2 strT rfl A4Z.out ?_)
    refine HLK.out.mono ?_
    rintro e y ⟨B1, m1, d1, B2, m2, d2, v, rfl, hrt, hov, hby⟩
    obtain ⟨AV, cV, rfl, _⟩ := own_slice hov
    rw [HNV.out] at hov hrt ⊢
    have RTV := Lib.hid (hrt.wide (Y := fun j => X j ∨ j = b6) (fun j _ hj => .inl hj))
    have OV := Lib.hid hov
    have BY := Lib.hid hby
    have A5Y := Lib.hid (A5Z.out.under hby A5Z.out.lt)
    have A6Y := Lib.hid (A6Z.out.under hby A6Z.out.lt)
    clear hrt hov hby HLK
    go_upto_region 12 with ((with_reducible show wpList _ _ _ (⟨none, _, _, _, _, _⟩ :: _) _ _); refine wpList_store_new 28 (.tmp 12) (.tmp 65) rfl rfl rfl y.heap.size y rfl rfl (rtA B1 B2 m1 d1 m2 d2) (rtA none none 0 0 0 0) 2 rfl strT rfl rfl (rtA_one _ _ _ _ _ _) rfl ?_)
    have A8W : Hid (At (y.alloc (.cells (rtA B1 B2 m1 d1 m2 d2) 28)) y.heap.size 28 (rtA B1 B2 m1 d1 m2 d2)) := At.new y _ _
    have A5W := Lib.hid (A5Y.out.alloc (.cells (rtA B1 B2 m1 d1 m2 d2) 28))
    have A6W := Lib.hid (A6Y.out.alloc (.cells (rtA B1 B2 m1 d1 m2 d2) 28))
    have BW := Lib.hid (BY.out.alloc BY.out.size (.cells (rtA B1 B2 m1 d1 m2 d2) 28))
    have OVW := Lib.hid (own_under OV.out ((Below.refl _ y).alloc (Nat.le_refl _) (.cells (rtA B1 B2 m1 d1 m2 d2) 28)) (Nat.le_refl _))
    have RTW := Lib.hid (RTV.out.kept (Mod.of_below ((Below.refl _ y).alloc (Nat.le_refl _) (.cells (rtA B1 B2 m1 d1 m2 d2) 28)) _))
    have hb8z : z.heap.size ≤ y.heap.size := BY.out.size
    obtain ⟨b8, hb8⟩ : ∃ b8, y.heap.size = b8 := ⟨_, rfl⟩
    rw [hb8] at A8W hb8z ⊢
    generalize y.alloc (.cells (rtA B1 B2 m1 d1 m2 d2) 28) = y8 at A8W A5W A6W BW RTW OVW ⊢
    clear hb8 A5Y A6Y BY RTV OV pt
    have HBS : Hid (z.heap.size ≤ y8.heap.size) := BW.out.size
    have hzw := HB.out.size
    refine wp_region_held_drew (S := fun wz => At wz b8 28 (rtA B1 B2 m1 d1 m2 d2) ∧ At wz b5 35 (opA ⟨4, t, r, m⟩)) (by kernel_rfl) ⟨A8W.out, A5W.out⟩ (fun hS => ?_)
    have C0 := Lib.hid ((Below.refl y8.heap.size y8).drew)
    refine tk (v := .agg (rtA B1 B2 m1 d1 m2 d2)) 0 hS ?_ (hy := by intro wz hz; have pt : wz.cell? ⟨b5, 1, none⟩ = some (.int .u64 (t : Int)) := hz.2.cell 1; exact exec_load_at 28 (.tmp 12) rfl b8 rfl (rtA B1 B2 m1 d1 m2 d2) 2 strT rfl hz.1)
    refine tk 1 hS ?_
    refine tk 2 hS ?_
    refine tk 3 hS ?_ (hy := by intro wz hz; have pt : wz.cell? ⟨b5, 1, none⟩ = some (.int .u64 (t : Int)) := hz.2.cell 1; go_simp <;> with_reducible rfl)
    refine tk 5 hS ?_
    refine wpAnyH_ready (rs := [4]) (by kernel_rfl) (by simp) ?_
    refine AllReadyH.cons rfl (fun K hK => ?_) AllReadyH.nil
    go_simp
    refine (HTL.out y8.drew (BW.out.trans (C0.out.mono BW.out.size))).mono ?_
    rintro e y9 ⟨ps, ⟨hpe, hprel⟩, vv, rfl, hov9, htw⟩
    rw [hpe] at hov9
    obtain ⟨AW, cW, rfl, _⟩ := own_slice hov9
    rw [HNV.out] at hov9 ⊢
    have HTW := Lib.hid htw
    have HREL := Lib.hid hprel
    obtain ⟨_, _, _, hmd⟩ := htw
    have HMD := Lib.hid hmd
    have hvx : ∀ k, (Value.slice AV nV cV).ownBlock = some k → ¬ X k := fun k hk h => by have h1 := (HXL.out k h).2; have h2 := (OVW.out.lt k hk).1; omega
    have HNU : Hid (∀ Wx, Below y9.heap.size y9 Wx → Calls Tryz.prog 26 #[.slice AW nV cW, .slice AV nV cV] Wx (RetB Wx (.bool true))) := fun Wx hW => by
      have h1 : Lz (fun _ => False) y9 1 AW nV (UC pu.2) := Lz.of_own hov9 (fun _ h => h.elim)
      have h2 : Lz (fun _ => False) y9 1 AV nV (UC pu.2) := Lz.of_own (own_mod (own_under OVW.out C0.out (Nat.le_refl _)) HMD.out hvx) (fun _ h => h.elim)
      have h3 := nums_any AW AV nV cW nV cV pu.2 pu.2 Wx (h1.below hW) (h2.below hW) (by have h4 := HNVL.out; rw [HNV.out] at h4; omega)
      rw [beq_self_eq_true] at h3
      exact h3
    have KA : At y9 b8 28 (rtA B1 B2 m1 d1 m2 d2) ∧ At y9 b5 35 (opA ⟨4, t, r, m⟩) := ⟨hS.1.mod HMD.out (fun h => by have := (HXL.out _ h).2; omega), hS.2.mod HMD.out (fun h => by have := (HXL.out _ h).2; omega)⟩
    clear hmd hov9 hprel hvx hpe
    refine hK.out _ _ (KA) (fun hT => ?_)
    clear hK hS
    have hS := hT
    clear hT
    refine wpAnyH_ready (rs := [6]) (by kernel_rfl) (by simp) ?_
    refine AllReadyH.cons rfl (fun K hK => ?_) AllReadyH.nil
    go_simp
    refine (HNU.out y9 (Below.refl _ _)).mono ?_
    rintro e y10 ⟨rfl, hb10⟩
    have B10 := Lib.hid hb10
    clear hb10
    refine hK.out _ _ (⟨hS.1.under B10.out hS.1.lt, hS.2.under B10.out hS.2.lt⟩) (fun hT => ?_)
    clear hK hS
    have hS := hT
    clear hT
    have A69 : Hid (At y10 b6 28 (rtA none none 0 0 0 0)) := ((A6W.out.under C0.out A6W.out.lt).mod HMD.out (fun h => by have := (HXL.out _ h).2; omega)).under B10.out (by have h1 := HMD.out.size; have h2 := HBS.out; have h3 := C0.out.size; omega)
    have HTW2 := Lib.hid (HTW.out.below B10.out)
    refine wpAnyH_ready (rs := [7]) (by kernel_rfl) (by simp) ?_
    refine AllReadyH.cons rfl (fun K hK => ?_) AllReadyH.nil
    rw [if_pos (by rfl)]
    refine wp_store_at 28 (.tmp 6) (.tmp 67) rfl rfl b6 rfl (rtA B1 B2 m1 d1 m2 d2) (rtA none none 0 0 0 0) 2 rfl strT rfl rfl (rtA_one _ _ _ _ _ _) A69.out ?_
    intro w9 ha9 hg9
    have HA9 := Lib.hid ha9
    have HG9 := Lib.hid hg9
    have KB : At w9 b8 28 (rtA B1 B2 m1 d1 m2 d2) ∧ At w9 b5 35 (opA ⟨4, t, r, m⟩) := ⟨hS.1.grown hg9 (fun e => by have := Option.some.inj e; omega), hS.2.grown hg9 (fun e => by have := Option.some.inj e; omega)⟩
    clear ha9 hg9
    refine hK.out _ _ (KB) (fun hT => ?_)
    clear hK hS
    have hS := hT
    clear hT
    dsimp only [Act.put]
    refine tk 8 hS ?_
    refine wpAnyH_done (by kernel_rfl) ?_ _
    clear hS KA KB
    go_wp2_with fail
    refine bodyPost_ret (v := .tuple #[.agg (rtA B1 B2 m1 d1 m2 d2), .bool true]) ?_ rfl ?_
    · exact results_at2 (p := 6) (t := 7) (g := b6) (n := 2) (cs := rtA B1 B2 m1 d1 m2 d2) rfl HA9.out strT rfl rfl rfl
    · obtain ⟨X', h1, h2, h3⟩ := two_fin ((HB.out.trans (BW.out.mono HB.out.size)).drew) HTW2.out (RTW.out.kept (Mod.of_below C0.out _)) HREL.out HOKU.out HTT.out HXL.out HTB.out (Nat.lt_of_lt_of_le hb6z HBS.out) hw6 HG9.out
      exact ⟨_, _, X', B1, m1, d1, B2, m2, d2, rfl, h1, h2, h3⟩
  have e0 : (ki == 0) = false := by simp [k0]
  have e1 : (ki == 1) = false := by simp [k1]
  have e2 : (ki == 2) = false := by simp [k2]
  have e3 : (ki == 3) = false := by simp [k3]
  have e4 : (ki == 4) = false := by simp [k4]
  clear k0 k1 k2 k3 k4
  go_upto_region 13 with fail
  go_wp2_with (first
    | ((with_reducible show wpList _ _ _ (⟨some 74, _, _, _, _, _⟩ :: _) _ _); refine wpList_load_at 28 74 (.tmp 4) rfl rfl rfl b4 rfl (rtA A1 A2 n1 c1 n2 c2) 2 strT rfl A4Z.out ?_)
    | ((with_reducible show wpList _ _ _ (⟨none, _, _, _, _, _⟩ :: _) _ _); refine wpList_store_at 28 (.tmp 6) (.tmp 74) rfl rfl rfl b6 rfl (rtA A1 A2 n1 c1 n2 c2) (rtA none none 0 0 0 0) 2 rfl strT rfl rfl (rtA_one _ _ _ _ _ _) A6Z.out ?_; intro w9 ha9 hg9))
  refine bodyPost_ret (v := .tuple #[.agg (rtA A1 A2 n1 c1 n2 c2), .bool true]) ?_ rfl ?_
  · exact results_at2 (p := 6) (t := 7) (g := b6) (n := 2) (cs := rtA A1 A2 n1 c1 n2 c2) rfl ha9 strT rfl rfl rfl
  · obtain ⟨X', h1, h2, h3⟩ := two_fin HB.out (Tw.refl (HTWO.out.tt.below HB.out)) HRT.out HTWO.out.rel HTWO.out.ok (show tot u ≤ N + 1 by have := HTWO.out.sz; omega) HXL.out HTB.out hb6z hw6 hg9
    exact ⟨_, _, X', A1, n1, c1, A2, n2, c2, rfl, h1, h2, h3⟩
end Go.Proofs.YthbifccankfngaaGreatDoor
