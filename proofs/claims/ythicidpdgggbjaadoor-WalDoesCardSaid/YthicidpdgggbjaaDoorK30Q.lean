/-
  The walk of the law's own same: a log in memory against the reference's.
  Conditions: logs of at most 400 sectors.
-/
import Derived.Test.YthicidpdgggbjaaDoorK29Q
import Derived.Test.YthicidpdgggbjaaDoorK28Q
import Derived.Test.YthicidpdgggbjaaDoorK11Q
import Derived.Test.YthicidpdgggbjaaDoorK15Q
namespace Go.Proofs.YthicidpdgggbjaaDoor
open Go.RowKit
set_option maxRecDepth 20000

theorem ris_of_numd {rs : List Er} (h : Numd (rs.map (·.e)) 0) : Ris rs := by
  intro a b hab hb
  have h1 := numd_get h (m := a) (by simp; omega)
  have h2 := numd_get h (m := b) (by simpa using hb)
  have h3 := pos_take_succ (es := rs.map (·.e)) (m := a) (by simp; omega)
  have h4 := pos_take_mono (rs.map (·.e)) (m := a + 1) (k := b) (by omega)
  have h5 := (wid_ok h1.2).1
  simp only [List.getElem_map] at h1 h2 h3 h5
  omega
theorem no_next {rs : List Er} (h : Ris rs) {k l0 : Nat} (hk : k < rs.length) (hl : rs[k].e.lsn = l0) (hn : ∀ h1 : k + 1 < rs.length, rs[k + 1].e.lsn ≠ l0 + 1) : ∀ (j : Nat) (hj : j < rs.length), rs[j].e.lsn ≠ l0 + 1 := by
  intro j hj
  by_cases h1 : j = k
  · subst h1; omega
  by_cases h2 : j < k
  · have := h j k h2 hk; omega
  by_cases h3 : j = k + 1
  · subst h3; exact hn hj
  · have a1 := h (k + 1) j (by omega) hj
    have a2 := h k (k + 1) (by omega) (by omega)
    omega
theorem e_of_map {rs ts : List Er} (h : ts.map (·.e) = rs.map (·.e)) {k : Nat} (hk : k < ts.length) (hk2 : k < rs.length) : ts[k].e = rs[k].e := by
  have h1 : (ts.map (·.e))[k]? = (rs.map (·.e))[k]? := by rw [h]
  rw [List.getElem?_map, List.getElem?_map, List.getElem?_eq_getElem hk, List.getElem?_eq_getElem hk2] at h1
  simpa using h1
theorem gd_of_map {rs ts : List Er} (h : ts.map (·.e) = rs.map (·.e)) (hg : ∀ r ∈ rs, Gd r.e) : ∀ r ∈ ts, Gd r.e := fun r hr => by
  have h1 : r.e ∈ ts.map (·.e) := List.mem_map_of_mem hr
  rw [h] at h1
  obtain ⟨r2, h2, h3⟩ := List.mem_map.1 h1
  rw [← h3]
  exact hg r2 h2
def SmL (z : World) (n : Nat) (i : Value) (W : World) : Prop := ∃ k : Nat, k ≤ n ∧ i = .int .i64 (k : Int) ∧ Hid (Below z.heap.size z W)

set_option maxHeartbeats 12800000 in
theorem lsame_ok (X Y : Nat → Prop) (B : Nat) (z : World) (g gd base size : Nat) (rs : List Er) (fo : Nat) (ws : List Sect) (vE vW : Value) (h : LogAt X B z g gd base size rs fo ws vE vW) (ts : List Er) (A : Option Addr) (n c us : Nat) (ht : LEz Y z A n ts) (hte : ts.map (·.e) = rs.map (·.e))
    (hu : us = fo + ws.length) (hsz : us ≤ size) (hs : size ≤ 400) (hrs : rs.length ≤ 500) (hg : ∀ r ∈ rs, Gd r.e) (hnum : Numd (rs.map (·.e)) 0) (hpos : pos (rs.map (·.e)) ≤ 400) :
    Calls Tryd.prog 16 #[.pointer (some ⟨g, 0, none⟩), .agg (rlA size A n c us fo)] z (RetQ z true) := by
  have hn : rs.length = n := by have := ht.len; have h2 := congrArg List.length hte; simp at h2; omega
  have hpn : ∀ r ∈ rs, r.np ≤ 1000 ∧ r.na ≤ 1000 := fun r hr => by have := gd_small (hg r hr) (h.els r hr); exact ⟨this.1, this.2.1⟩
  have LG := Lib.hid (h.below ((Below.refl _ z).alloc (Nat.le_refl _) (.cells (rlA size A n c us fo) 34)))
  have TS := Lib.hid (ht.below ((Below.refl _ z).alloc (Nat.le_refl _) (.cells (rlA size A n c us fo) 34)))
  have BX := Lib.hid (At.new z 34 (rlA size A n c us fo))
  have ZB := Lib.hid ((Below.refl z.heap.size z).alloc (Nat.le_refl _) (.cells (rlA size A n c us fo) 34))
  have HG := Lib.hid hg
  have HTE := Lib.hid hte
  have HU := Lib.hid hu
  have HN := Lib.hid hn
  have RIS := Lib.hid (ris_of_numd hnum)
  have HPN := Lib.hid hpn
  have hwl : fo ≤ us ∧ ws.length ≤ us := by omega
  obtain ⟨le, hle⟩ : ∃ le, le = size - us := ⟨_, rfl⟩
  obtain ⟨nx, hnx⟩ : ∃ nx, nx = us + 1 := ⟨_, rfl⟩
  obtain ⟨f1, hf1⟩ : ∃ f1, f1 = fo + 1 := ⟨_, rfl⟩
  have e1 : (size : Int) - (us : Int) = (le : Int) := by omega
  have e7 : IntKind.i64.wrap (le : Int) = (le : Int) := by rw [IntKind.wrap_i64]; omega
  have e8 : IntKind.i64.wrap (nx : Int) = (nx : Int) := by rw [IntKind.wrap_i64]; omega
  have e2 : (us : Int) + 1 = (nx : Int) := by omega
  have e3 : IntKind.u64.wrap (nx : Int) = (nx : Int) := by rw [IntKind.wrap_u64]; omega
  have e4 : IntKind.u64.wrap (fo : Int) = (fo : Int) := by rw [IntKind.wrap_u64]; omega
  have e5 : (fo : Int) + 1 = (f1 : Int) := by omega
  have e6 : IntKind.u64.wrap (f1 : Int) = (f1 : Int) := by rw [IntKind.wrap_u64]; omega
  have HNUM := Lib.hid hnum
  have HPOS := Lib.hid hpos
  have HLE := Lib.hid hle
  have HNX := Lib.hid hnx
  have HF1 := Lib.hid hf1
  clear h ht hg hte hnum hpn hu hle hnx hf1 hpos
  have hz1 : ∃ z1, z.alloc (.cells (rlA size A n c us fo) 34) = z1 := ⟨_, rfl⟩
  obtain ⟨b3, hb3⟩ : ∃ b3, z.heap.size = b3 := ⟨_, rfl⟩
  go_enter Tryd.func16, Tryd.ntmps16
  go_upto_region 1 with fail
  clear hz1
  generalize z.alloc (.cells (rlA size A n c us fo) 34) = z1 at LG TS BX ZB ⊢
  rw [hb3] at BX
  clear hb3
  have AL : Hid (∀ W, Below z1.heap.size z1 W → Calls Tryd.prog 31 #[.pointer (some ⟨g, 0, none⟩)] W (AllR W rs)) := fun W hW => all_any X B W g gd base size rs fo ws vE vW (LG.out.below hW) (by omega) HPN.out
  have US : Hid (∀ W, Below z1.heap.size z1 W → Calls Tryd.prog 29 #[.pointer (some ⟨g, 0, none⟩)] W (RetD W (.int .i64 (us : Int)))) := fun W hW => lused_any X B W g gd base size rs fo ws vE vW (LG.out.below hW) (by omega) (by omega) us HU.out
  have LF : Hid (∀ W, Below z1.heap.size z1 W → Calls Tryd.prog 26 #[.pointer (some ⟨g, 0, none⟩)] W (RetD W (.int .i64 (le : Int)))) := fun W hW => lleft_any X B W g gd base size rs fo ws vE vW (LG.out.below hW) (by omega) (by omega) us HU.out (by omega) (by omega) le HLE.out
  have NX : Hid (∀ W, Below z1.heap.size z1 W → Calls Tryd.prog 30 #[.pointer (some ⟨g, 0, none⟩)] W (RetD W (.int .u64 (nx : Int)))) := fun W hW => lnext_any X B W g gd base size rs fo ws vE vW (LG.out.below hW) (by omega) (by omega) us HU.out nx HNX.out
  have F1 : Hid (∀ W, Below z1.heap.size z1 W → Calls Tryd.prog 27 #[.pointer (some ⟨g, 0, none⟩), .int .u64 (fo : Int)] W fun e w' => e = .returned (.bool true) ∧ W = w') := fun W hW => by
    have := lforced_any X B W g gd base size rs fo ws vE vW (LG.out.below hW) (by omega) fo
    rwa [show decide (fo ≤ fo) = true by simp] at this
  have F2 : Hid (∀ W, Below z1.heap.size z1 W → Calls Tryd.prog 27 #[.pointer (some ⟨g, 0, none⟩), .int .u64 (f1 : Int)] W fun e w' => e = .returned (.bool false) ∧ W = w') := fun W hW => by
    have := lforced_any X B W g gd base size rs fo ws vE vW (LG.out.below hW) (by omega) f1
    rwa [show decide (f1 ≤ fo) = false by have := HF1.out; simp; omega] at this
  go_cut [57] from 10 to 127 (fun s57 wx => s57 = .bool false ∧ Hid (Below z1.heap.size z1 wx))
  case first =>
    refine wp_region_held_drew (S := Below z1.heap.size z1) (by kernel_rfl) ((Below.refl _ z1).drew) (fun hS => ?_)
    refine takeH (i := 0) (d := 10) (v := ?vsa0) rfl (by kernel_rfl) (by kernel_rfl) (by kernel_rfl) (fun _ _ _ h => h) rfl (by rfl) ?ysa0 hS ?rsa0
    case ysa0 => (intro wz hz; have p0 : wz.cell? ⟨b3, 0, none⟩ = some (.int .i64 (size : Int)) := (BX.out.under hz BX.out.lt).cell 0; have p1 : wz.cell? ⟨b3, 1, none⟩ = some (.slice A n c) := (BX.out.under hz BX.out.lt).cell 1; have p2 : wz.cell? ⟨b3, 2, none⟩ = some (.int .i64 (us : Int)) := (BX.out.under hz BX.out.lt).cell 2; have p3 : wz.cell? ⟨b3, 3, none⟩ = some (.int .i64 (fo : Int)) := (BX.out.under hz BX.out.lt).cell 3; go_simp <;> with_reducible rfl)
    simp only [List.setIfInBounds_toArray, List.set_cons_zero, List.set_cons_succ]
    refine takeH (i := 2) (d := 12) (v := ?vsa2) rfl (by kernel_rfl) (by kernel_rfl) (by kernel_rfl) (fun _ _ _ h => h) rfl (by rfl) ?ysa2 hS ?rsa2
    case ysa2 => (intro wz hz; have p0 : wz.cell? ⟨b3, 0, none⟩ = some (.int .i64 (size : Int)) := (BX.out.under hz BX.out.lt).cell 0; have p1 : wz.cell? ⟨b3, 1, none⟩ = some (.slice A n c) := (BX.out.under hz BX.out.lt).cell 1; have p2 : wz.cell? ⟨b3, 2, none⟩ = some (.int .i64 (us : Int)) := (BX.out.under hz BX.out.lt).cell 2; have p3 : wz.cell? ⟨b3, 3, none⟩ = some (.int .i64 (fo : Int)) := (BX.out.under hz BX.out.lt).cell 3; go_simp <;> with_reducible rfl)
    simp only [List.setIfInBounds_toArray, List.set_cons_zero, List.set_cons_succ]
    refine takeH (i := 3) (d := 13) (v := ?vsa3) rfl (by kernel_rfl) (by kernel_rfl) (by kernel_rfl) (fun _ _ _ h => h) rfl (by rfl) ?ysa3 hS ?rsa3
    case ysa3 => (intro wz hz; have p0 : wz.cell? ⟨b3, 0, none⟩ = some (.int .i64 (size : Int)) := (BX.out.under hz BX.out.lt).cell 0; have p1 : wz.cell? ⟨b3, 1, none⟩ = some (.slice A n c) := (BX.out.under hz BX.out.lt).cell 1; have p2 : wz.cell? ⟨b3, 2, none⟩ = some (.int .i64 (us : Int)) := (BX.out.under hz BX.out.lt).cell 2; have p3 : wz.cell? ⟨b3, 3, none⟩ = some (.int .i64 (fo : Int)) := (BX.out.under hz BX.out.lt).cell 3; go_simp <;> with_reducible rfl)
    simp only [List.setIfInBounds_toArray, List.set_cons_zero, List.set_cons_succ]
    refine wpAnyH_ready (rs := [1]) (by kernel_rfl) (by simp) ?_
    refine AllReadyH.cons rfl (fun K hK => ?_) AllReadyH.nil
    go_simp
    refine (AL.out _ hS).mono ?_
    rintro e y1 ⟨AA, cA, rs1, hrs1, rfl, hoa⟩
    rw [hn] at hoa ⊢
    have OA := Lib.hid hoa
    have HR1 := Lib.hid hrs1
    have hb : True := trivial
    have B1 := Lib.hid (hS.trans (hoa.low.mono hS.size))
    clear hoa hrs1
    refine hK.out _ _ (B1.out) (fun hT => ?_)
    clear hK hb hS
    have hS := hT
    clear hT
    refine wpAnyH_ready (rs := [4]) (by kernel_rfl) (by simp) ?_
    refine AllReadyH.cons rfl (fun K hK => ?_) AllReadyH.nil
    go_simp
    refine (rsame_any _ _ AA A n cA n c rs1 ts _ (OA.out.lez (fun _ h => h)) (TS.out.below hS) (by omega) (by omega) (fun r hr => by have := gd_small (gd_of_map HR1.out HG.out r hr) (OA.out.els r hr); exact ⟨this.1, this.2.1⟩) (fun r hr => by have := gd_small (gd_of_map HTE.out HG.out r hr) (TS.out.els r hr); exact ⟨this.1, this.2.1⟩)).mono ?_
    rintro e y2 ⟨bq, rfl, hbq, hb2⟩
    obtain rfl : bq = true := hbq.2 (HR1.out.trans HTE.out.symm)
    have B2 := Lib.hid (hS.trans (hb2.mono hS.size))
    have hb : True := trivial
    clear hb2 hbq
    refine hK.out _ _ (B2.out) (fun hT => ?_)
    clear hK hb hS
    have hS := hT
    clear hT
    refine takeH (i := 5) (d := 15) (v := ?vsa5) rfl (by kernel_rfl) (by kernel_rfl) (by kernel_rfl) (fun _ _ _ h => h) rfl (by rfl) ?ysa5 hS ?rsa5
    case ysa5 => (intro wz hz; have p0 : wz.cell? ⟨b3, 0, none⟩ = some (.int .i64 (size : Int)) := (BX.out.under hz BX.out.lt).cell 0; have p1 : wz.cell? ⟨b3, 1, none⟩ = some (.slice A n c) := (BX.out.under hz BX.out.lt).cell 1; have p2 : wz.cell? ⟨b3, 2, none⟩ = some (.int .i64 (us : Int)) := (BX.out.under hz BX.out.lt).cell 2; have p3 : wz.cell? ⟨b3, 3, none⟩ = some (.int .i64 (fo : Int)) := (BX.out.under hz BX.out.lt).cell 3; go_simp <;> with_reducible rfl)
    simp only [List.setIfInBounds_toArray, List.set_cons_zero, List.set_cons_succ]
    refine takeH (i := 6) (d := 16) (v := ?vsa6) rfl (by kernel_rfl) (by kernel_rfl) (by kernel_rfl) (fun _ _ _ h => h) rfl (by rfl) ?ysa6 hS ?rsa6
    case ysa6 => (intro wz hz; have p0 : wz.cell? ⟨b3, 0, none⟩ = some (.int .i64 (size : Int)) := (BX.out.under hz BX.out.lt).cell 0; have p1 : wz.cell? ⟨b3, 1, none⟩ = some (.slice A n c) := (BX.out.under hz BX.out.lt).cell 1; have p2 : wz.cell? ⟨b3, 2, none⟩ = some (.int .i64 (us : Int)) := (BX.out.under hz BX.out.lt).cell 2; have p3 : wz.cell? ⟨b3, 3, none⟩ = some (.int .i64 (fo : Int)) := (BX.out.under hz BX.out.lt).cell 3; go_simp <;> with_reducible rfl)
    simp only [List.setIfInBounds_toArray, List.set_cons_zero, List.set_cons_succ]
    refine takeH (i := 7) (d := 17) (v := ?vsa7) rfl (by kernel_rfl) (by kernel_rfl) (by kernel_rfl) (fun _ _ _ h => h) rfl (by rfl) ?ysa7 hS ?rsa7
    case ysa7 => (intro wz hz; have p0 : wz.cell? ⟨b3, 0, none⟩ = some (.int .i64 (size : Int)) := (BX.out.under hz BX.out.lt).cell 0; have p1 : wz.cell? ⟨b3, 1, none⟩ = some (.slice A n c) := (BX.out.under hz BX.out.lt).cell 1; have p2 : wz.cell? ⟨b3, 2, none⟩ = some (.int .i64 (us : Int)) := (BX.out.under hz BX.out.lt).cell 2; have p3 : wz.cell? ⟨b3, 3, none⟩ = some (.int .i64 (fo : Int)) := (BX.out.under hz BX.out.lt).cell 3; go_simp <;> with_reducible rfl)
    simp only [List.setIfInBounds_toArray, List.set_cons_zero, List.set_cons_succ]
    refine takeH (i := 9) (d := 19) (v := ?vsa9) rfl (by kernel_rfl) (by kernel_rfl) (by kernel_rfl) (fun _ _ _ h => h) rfl (by rfl) ?ysa9 hS ?rsa9
    case ysa9 => (intro wz hz; have p0 : wz.cell? ⟨b3, 0, none⟩ = some (.int .i64 (size : Int)) := (BX.out.under hz BX.out.lt).cell 0; have p1 : wz.cell? ⟨b3, 1, none⟩ = some (.slice A n c) := (BX.out.under hz BX.out.lt).cell 1; have p2 : wz.cell? ⟨b3, 2, none⟩ = some (.int .i64 (us : Int)) := (BX.out.under hz BX.out.lt).cell 2; have p3 : wz.cell? ⟨b3, 3, none⟩ = some (.int .i64 (fo : Int)) := (BX.out.under hz BX.out.lt).cell 3; go_simp <;> with_reducible rfl)
    simp only [List.setIfInBounds_toArray, List.set_cons_zero, List.set_cons_succ]
    refine takeH (i := 10) (d := 20) (v := ?vsa10) rfl (by kernel_rfl) (by kernel_rfl) (by kernel_rfl) (fun _ _ _ h => h) rfl (by rfl) ?ysa10 hS ?rsa10
    case ysa10 => (intro wz hz; have p0 : wz.cell? ⟨b3, 0, none⟩ = some (.int .i64 (size : Int)) := (BX.out.under hz BX.out.lt).cell 0; have p1 : wz.cell? ⟨b3, 1, none⟩ = some (.slice A n c) := (BX.out.under hz BX.out.lt).cell 1; have p2 : wz.cell? ⟨b3, 2, none⟩ = some (.int .i64 (us : Int)) := (BX.out.under hz BX.out.lt).cell 2; have p3 : wz.cell? ⟨b3, 3, none⟩ = some (.int .i64 (fo : Int)) := (BX.out.under hz BX.out.lt).cell 3; go_simp <;> with_reducible rfl)
    simp only [List.setIfInBounds_toArray, List.set_cons_zero, List.set_cons_succ]
    refine wpAnyH_ready (rs := [8]) (by kernel_rfl) (by simp) ?_
    refine AllReadyH.cons rfl (fun K hK => ?_) AllReadyH.nil
    go_simp
    refine (US.out _ hS).mono ?_
    rintro e y3 ⟨rfl, n3, hy3⟩
    have hSy3 : Below z1.heap.size z1 y3 := by rw [hy3]; exact hS.trans ((below_drewN _ n3).mono hS.size)
    clear hy3
    have hb : True := trivial
    refine hK.out _ _ (hSy3) (fun hT => ?_)
    clear hK hb hS
    have hS := hT
    clear hT
    refine takeH (i := 11) (d := 21) (v := ?vsa11) rfl (by kernel_rfl) (by kernel_rfl) (by kernel_rfl) (fun _ _ _ h => h) rfl (by rfl) ?ysa11 hS ?rsa11
    case ysa11 => (intro wz hz; have p0 : wz.cell? ⟨b3, 0, none⟩ = some (.int .i64 (size : Int)) := (BX.out.under hz BX.out.lt).cell 0; have p1 : wz.cell? ⟨b3, 1, none⟩ = some (.slice A n c) := (BX.out.under hz BX.out.lt).cell 1; have p2 : wz.cell? ⟨b3, 2, none⟩ = some (.int .i64 (us : Int)) := (BX.out.under hz BX.out.lt).cell 2; have p3 : wz.cell? ⟨b3, 3, none⟩ = some (.int .i64 (fo : Int)) := (BX.out.under hz BX.out.lt).cell 3; go_simp <;> with_reducible rfl)
    simp only [List.setIfInBounds_toArray, List.set_cons_zero, List.set_cons_succ]
    refine takeH (i := 12) (d := 22) (v := ?vsa12) rfl (by kernel_rfl) (by kernel_rfl) (by kernel_rfl) (fun _ _ _ h => h) rfl (by rfl) ?ysa12 hS ?rsa12
    case ysa12 => (intro wz hz; have p0 : wz.cell? ⟨b3, 0, none⟩ = some (.int .i64 (size : Int)) := (BX.out.under hz BX.out.lt).cell 0; have p1 : wz.cell? ⟨b3, 1, none⟩ = some (.slice A n c) := (BX.out.under hz BX.out.lt).cell 1; have p2 : wz.cell? ⟨b3, 2, none⟩ = some (.int .i64 (us : Int)) := (BX.out.under hz BX.out.lt).cell 2; have p3 : wz.cell? ⟨b3, 3, none⟩ = some (.int .i64 (fo : Int)) := (BX.out.under hz BX.out.lt).cell 3; go_simp <;> with_reducible rfl)
    simp only [List.setIfInBounds_toArray, List.set_cons_zero, List.set_cons_succ]
    refine takeH (i := 13) (d := 23) (v := ?vsa13) rfl (by kernel_rfl) (by kernel_rfl) (by kernel_rfl) (fun _ _ _ h => h) rfl (by rfl) ?ysa13 hS ?rsa13
    case ysa13 => (intro wz hz; have p0 : wz.cell? ⟨b3, 0, none⟩ = some (.int .i64 (size : Int)) := (BX.out.under hz BX.out.lt).cell 0; have p1 : wz.cell? ⟨b3, 1, none⟩ = some (.slice A n c) := (BX.out.under hz BX.out.lt).cell 1; have p2 : wz.cell? ⟨b3, 2, none⟩ = some (.int .i64 (us : Int)) := (BX.out.under hz BX.out.lt).cell 2; have p3 : wz.cell? ⟨b3, 3, none⟩ = some (.int .i64 (fo : Int)) := (BX.out.under hz BX.out.lt).cell 3; go_simp <;> with_reducible rfl)
    simp only [List.setIfInBounds_toArray, List.set_cons_zero, List.set_cons_succ]
    refine takeH (i := 14) (d := 24) (v := ?vsa14) rfl (by kernel_rfl) (by kernel_rfl) (by kernel_rfl) (fun _ _ _ h => h) rfl (by rfl) ?ysa14 hS ?rsa14
    case ysa14 => (intro wz hz; have p0 : wz.cell? ⟨b3, 0, none⟩ = some (.int .i64 (size : Int)) := (BX.out.under hz BX.out.lt).cell 0; have p1 : wz.cell? ⟨b3, 1, none⟩ = some (.slice A n c) := (BX.out.under hz BX.out.lt).cell 1; have p2 : wz.cell? ⟨b3, 2, none⟩ = some (.int .i64 (us : Int)) := (BX.out.under hz BX.out.lt).cell 2; have p3 : wz.cell? ⟨b3, 3, none⟩ = some (.int .i64 (fo : Int)) := (BX.out.under hz BX.out.lt).cell 3; go_simp <;> with_reducible rfl)
    simp only [List.setIfInBounds_toArray, List.set_cons_zero, List.set_cons_succ]
    refine takeH (i := 16) (d := 26) (v := ?vsa16) rfl (by kernel_rfl) (by kernel_rfl) (by kernel_rfl) (fun _ _ _ h => h) rfl (by rfl) ?ysa16 hS ?rsa16
    case ysa16 => (intro wz hz; have p0 : wz.cell? ⟨b3, 0, none⟩ = some (.int .i64 (size : Int)) := (BX.out.under hz BX.out.lt).cell 0; have p1 : wz.cell? ⟨b3, 1, none⟩ = some (.slice A n c) := (BX.out.under hz BX.out.lt).cell 1; have p2 : wz.cell? ⟨b3, 2, none⟩ = some (.int .i64 (us : Int)) := (BX.out.under hz BX.out.lt).cell 2; have p3 : wz.cell? ⟨b3, 3, none⟩ = some (.int .i64 (fo : Int)) := (BX.out.under hz BX.out.lt).cell 3; go_simp <;> with_reducible rfl)
    simp only [List.setIfInBounds_toArray, List.set_cons_zero, List.set_cons_succ]
    refine takeH (i := 17) (d := 27) (v := ?vsa17) rfl (by kernel_rfl) (by kernel_rfl) (by kernel_rfl) (fun _ _ _ h => h) rfl (by rfl) ?ysa17 hS ?rsa17
    case ysa17 => (intro wz hz; have p0 : wz.cell? ⟨b3, 0, none⟩ = some (.int .i64 (size : Int)) := (BX.out.under hz BX.out.lt).cell 0; have p1 : wz.cell? ⟨b3, 1, none⟩ = some (.slice A n c) := (BX.out.under hz BX.out.lt).cell 1; have p2 : wz.cell? ⟨b3, 2, none⟩ = some (.int .i64 (us : Int)) := (BX.out.under hz BX.out.lt).cell 2; have p3 : wz.cell? ⟨b3, 3, none⟩ = some (.int .i64 (fo : Int)) := (BX.out.under hz BX.out.lt).cell 3; go_simp <;> with_reducible rfl)
    simp only [List.setIfInBounds_toArray, List.set_cons_zero, List.set_cons_succ]
    refine takeH (i := 18) (d := 28) (v := ?vsa18) rfl (by kernel_rfl) (by kernel_rfl) (by kernel_rfl) (fun _ _ _ h => h) rfl (by rfl) ?ysa18 hS ?rsa18
    case ysa18 => (intro wz hz; have p0 : wz.cell? ⟨b3, 0, none⟩ = some (.int .i64 (size : Int)) := (BX.out.under hz BX.out.lt).cell 0; have p1 : wz.cell? ⟨b3, 1, none⟩ = some (.slice A n c) := (BX.out.under hz BX.out.lt).cell 1; have p2 : wz.cell? ⟨b3, 2, none⟩ = some (.int .i64 (us : Int)) := (BX.out.under hz BX.out.lt).cell 2; have p3 : wz.cell? ⟨b3, 3, none⟩ = some (.int .i64 (fo : Int)) := (BX.out.under hz BX.out.lt).cell 3; go_simp <;> with_reducible rfl)
    simp only [List.setIfInBounds_toArray, List.set_cons_zero, List.set_cons_succ]
    refine takeH (i := 19) (d := 29) (v := ?vsa19) rfl (by kernel_rfl) (by kernel_rfl) (by kernel_rfl) (fun _ _ _ h => h) rfl (by rfl) ?ysa19 hS ?rsa19
    case ysa19 => (intro wz hz; have p0 : wz.cell? ⟨b3, 0, none⟩ = some (.int .i64 (size : Int)) := (BX.out.under hz BX.out.lt).cell 0; have p1 : wz.cell? ⟨b3, 1, none⟩ = some (.slice A n c) := (BX.out.under hz BX.out.lt).cell 1; have p2 : wz.cell? ⟨b3, 2, none⟩ = some (.int .i64 (us : Int)) := (BX.out.under hz BX.out.lt).cell 2; have p3 : wz.cell? ⟨b3, 3, none⟩ = some (.int .i64 (fo : Int)) := (BX.out.under hz BX.out.lt).cell 3; go_simp <;> with_reducible rfl)
    simp only [List.setIfInBounds_toArray, List.set_cons_zero, List.set_cons_succ]
    refine takeH (i := 20) (d := 30) (v := ?vsa20) rfl (by kernel_rfl) (by kernel_rfl) (by kernel_rfl) (fun _ _ _ h => h) rfl (by rfl) ?ysa20 hS ?rsa20
    case ysa20 => (intro wz hz; have p0 : wz.cell? ⟨b3, 0, none⟩ = some (.int .i64 (size : Int)) := (BX.out.under hz BX.out.lt).cell 0; have p1 : wz.cell? ⟨b3, 1, none⟩ = some (.slice A n c) := (BX.out.under hz BX.out.lt).cell 1; have p2 : wz.cell? ⟨b3, 2, none⟩ = some (.int .i64 (us : Int)) := (BX.out.under hz BX.out.lt).cell 2; have p3 : wz.cell? ⟨b3, 3, none⟩ = some (.int .i64 (fo : Int)) := (BX.out.under hz BX.out.lt).cell 3; go_simp <;> with_reducible rfl)
    simp only [List.setIfInBounds_toArray, List.set_cons_zero, List.set_cons_succ]
    refine wpAnyH_ready (rs := [15]) (by kernel_rfl) (by simp) ?_
    refine AllReadyH.cons rfl (fun K hK => ?_) AllReadyH.nil
    go_simp
    refine (LF.out _ hS).mono ?_
    rintro e y4 ⟨rfl, n4, hy4⟩
    have hSy4 : Below z1.heap.size z1 y4 := by rw [hy4]; exact hS.trans ((below_drewN _ n4).mono hS.size)
    clear hy4
    have hb : True := trivial
    refine hK.out _ _ (hSy4) (fun hT => ?_)
    clear hK hb hS
    have hS := hT
    clear hT
    refine takeH (i := 21) (d := 31) (v := ?vsa21) rfl (by kernel_rfl) (by kernel_rfl) (by kernel_rfl) (fun _ _ _ h => h) rfl (by rfl) ?ysa21 hS ?rsa21
    case ysa21 => (intro wz hz; have p0 : wz.cell? ⟨b3, 0, none⟩ = some (.int .i64 (size : Int)) := (BX.out.under hz BX.out.lt).cell 0; have p1 : wz.cell? ⟨b3, 1, none⟩ = some (.slice A n c) := (BX.out.under hz BX.out.lt).cell 1; have p2 : wz.cell? ⟨b3, 2, none⟩ = some (.int .i64 (us : Int)) := (BX.out.under hz BX.out.lt).cell 2; have p3 : wz.cell? ⟨b3, 3, none⟩ = some (.int .i64 (fo : Int)) := (BX.out.under hz BX.out.lt).cell 3; go_simp <;> with_reducible rfl)
    simp only [List.setIfInBounds_toArray, List.set_cons_zero, List.set_cons_succ]
    refine takeH (i := 22) (d := 32) (v := ?vsa22) rfl (by kernel_rfl) (by kernel_rfl) (by kernel_rfl) (fun _ _ _ h => h) rfl (by rfl) ?ysa22 hS ?rsa22
    case ysa22 => (intro wz hz; have p0 : wz.cell? ⟨b3, 0, none⟩ = some (.int .i64 (size : Int)) := (BX.out.under hz BX.out.lt).cell 0; have p1 : wz.cell? ⟨b3, 1, none⟩ = some (.slice A n c) := (BX.out.under hz BX.out.lt).cell 1; have p2 : wz.cell? ⟨b3, 2, none⟩ = some (.int .i64 (us : Int)) := (BX.out.under hz BX.out.lt).cell 2; have p3 : wz.cell? ⟨b3, 3, none⟩ = some (.int .i64 (fo : Int)) := (BX.out.under hz BX.out.lt).cell 3; go_simp <;> with_reducible rfl)
    simp only [List.setIfInBounds_toArray, List.set_cons_zero, List.set_cons_succ]
    refine takeH (i := 23) (d := 33) (v := ?vsa23) rfl (by kernel_rfl) (by kernel_rfl) (by kernel_rfl) (fun _ _ _ h => h) rfl (by rfl) ?ysa23 hS ?rsa23
    case ysa23 => (intro wz hz; have p0 : wz.cell? ⟨b3, 0, none⟩ = some (.int .i64 (size : Int)) := (BX.out.under hz BX.out.lt).cell 0; have p1 : wz.cell? ⟨b3, 1, none⟩ = some (.slice A n c) := (BX.out.under hz BX.out.lt).cell 1; have p2 : wz.cell? ⟨b3, 2, none⟩ = some (.int .i64 (us : Int)) := (BX.out.under hz BX.out.lt).cell 2; have p3 : wz.cell? ⟨b3, 3, none⟩ = some (.int .i64 (fo : Int)) := (BX.out.under hz BX.out.lt).cell 3; go_simp <;> with_reducible rfl)
    simp only [List.setIfInBounds_toArray, List.set_cons_zero, List.set_cons_succ]
    refine takeH (i := 24) (d := 34) (v := ?vsa24) rfl (by kernel_rfl) (by kernel_rfl) (by kernel_rfl) (fun _ _ _ h => h) rfl (by rfl) ?ysa24 hS ?rsa24
    case ysa24 => (intro wz hz; have p0 : wz.cell? ⟨b3, 0, none⟩ = some (.int .i64 (size : Int)) := (BX.out.under hz BX.out.lt).cell 0; have p1 : wz.cell? ⟨b3, 1, none⟩ = some (.slice A n c) := (BX.out.under hz BX.out.lt).cell 1; have p2 : wz.cell? ⟨b3, 2, none⟩ = some (.int .i64 (us : Int)) := (BX.out.under hz BX.out.lt).cell 2; have p3 : wz.cell? ⟨b3, 3, none⟩ = some (.int .i64 (fo : Int)) := (BX.out.under hz BX.out.lt).cell 3; go_simp <;> with_reducible rfl)
    simp only [List.setIfInBounds_toArray, List.set_cons_zero, List.set_cons_succ]
    refine takeH (i := 26) (d := 36) (v := ?vsa26) rfl (by kernel_rfl) (by kernel_rfl) (by kernel_rfl) (fun _ _ _ h => h) rfl (by rfl) ?ysa26 hS ?rsa26
    case ysa26 => (intro wz hz; have p0 : wz.cell? ⟨b3, 0, none⟩ = some (.int .i64 (size : Int)) := (BX.out.under hz BX.out.lt).cell 0; have p1 : wz.cell? ⟨b3, 1, none⟩ = some (.slice A n c) := (BX.out.under hz BX.out.lt).cell 1; have p2 : wz.cell? ⟨b3, 2, none⟩ = some (.int .i64 (us : Int)) := (BX.out.under hz BX.out.lt).cell 2; have p3 : wz.cell? ⟨b3, 3, none⟩ = some (.int .i64 (fo : Int)) := (BX.out.under hz BX.out.lt).cell 3; go_simp <;> with_reducible rfl)
    simp only [List.setIfInBounds_toArray, List.set_cons_zero, List.set_cons_succ]
    refine takeH (i := 27) (d := 37) (v := ?vsa27) rfl (by kernel_rfl) (by kernel_rfl) (by kernel_rfl) (fun _ _ _ h => h) rfl (by rfl) ?ysa27 hS ?rsa27
    case ysa27 => (intro wz hz; have p0 : wz.cell? ⟨b3, 0, none⟩ = some (.int .i64 (size : Int)) := (BX.out.under hz BX.out.lt).cell 0; have p1 : wz.cell? ⟨b3, 1, none⟩ = some (.slice A n c) := (BX.out.under hz BX.out.lt).cell 1; have p2 : wz.cell? ⟨b3, 2, none⟩ = some (.int .i64 (us : Int)) := (BX.out.under hz BX.out.lt).cell 2; have p3 : wz.cell? ⟨b3, 3, none⟩ = some (.int .i64 (fo : Int)) := (BX.out.under hz BX.out.lt).cell 3; go_simp <;> with_reducible rfl)
    simp only [List.setIfInBounds_toArray, List.set_cons_zero, List.set_cons_succ]
    refine takeH (i := 28) (d := 38) (v := ?vsa28) rfl (by kernel_rfl) (by kernel_rfl) (by kernel_rfl) (fun _ _ _ h => h) rfl (by rfl) ?ysa28 hS ?rsa28
    case ysa28 => (intro wz hz; have p0 : wz.cell? ⟨b3, 0, none⟩ = some (.int .i64 (size : Int)) := (BX.out.under hz BX.out.lt).cell 0; have p1 : wz.cell? ⟨b3, 1, none⟩ = some (.slice A n c) := (BX.out.under hz BX.out.lt).cell 1; have p2 : wz.cell? ⟨b3, 2, none⟩ = some (.int .i64 (us : Int)) := (BX.out.under hz BX.out.lt).cell 2; have p3 : wz.cell? ⟨b3, 3, none⟩ = some (.int .i64 (fo : Int)) := (BX.out.under hz BX.out.lt).cell 3; go_simp <;> with_reducible rfl)
    simp only [List.setIfInBounds_toArray, List.set_cons_zero, List.set_cons_succ]
    refine takeH (i := 29) (d := 39) (v := ?vsa29) rfl (by kernel_rfl) (by kernel_rfl) (by kernel_rfl) (fun _ _ _ h => h) rfl (by rfl) ?ysa29 hS ?rsa29
    case ysa29 => (intro wz hz; have p0 : wz.cell? ⟨b3, 0, none⟩ = some (.int .i64 (size : Int)) := (BX.out.under hz BX.out.lt).cell 0; have p1 : wz.cell? ⟨b3, 1, none⟩ = some (.slice A n c) := (BX.out.under hz BX.out.lt).cell 1; have p2 : wz.cell? ⟨b3, 2, none⟩ = some (.int .i64 (us : Int)) := (BX.out.under hz BX.out.lt).cell 2; have p3 : wz.cell? ⟨b3, 3, none⟩ = some (.int .i64 (fo : Int)) := (BX.out.under hz BX.out.lt).cell 3; go_simp <;> with_reducible rfl)
    simp only [List.setIfInBounds_toArray, List.set_cons_zero, List.set_cons_succ]
    refine wpAnyH_ready (rs := [25]) (by kernel_rfl) (by simp) ?_
    refine AllReadyH.cons rfl (fun K hK => ?_) AllReadyH.nil
    go_simp
    refine (NX.out _ hS).mono ?_
    rintro e y5 ⟨rfl, n5, hy5⟩
    have hSy5 : Below z1.heap.size z1 y5 := by rw [hy5]; exact hS.trans ((below_drewN _ n5).mono hS.size)
    clear hy5
    have hb : True := trivial
    refine hK.out _ _ (hSy5) (fun hT => ?_)
    clear hK hb hS
    have hS := hT
    clear hT
    refine takeH (i := 30) (d := 40) (v := ?vsa30) rfl (by kernel_rfl) (by kernel_rfl) (by kernel_rfl) (fun _ _ _ h => h) rfl (by rfl) ?ysa30 hS ?rsa30
    case ysa30 => (intro wz hz; have p0 : wz.cell? ⟨b3, 0, none⟩ = some (.int .i64 (size : Int)) := (BX.out.under hz BX.out.lt).cell 0; have p1 : wz.cell? ⟨b3, 1, none⟩ = some (.slice A n c) := (BX.out.under hz BX.out.lt).cell 1; have p2 : wz.cell? ⟨b3, 2, none⟩ = some (.int .i64 (us : Int)) := (BX.out.under hz BX.out.lt).cell 2; have p3 : wz.cell? ⟨b3, 3, none⟩ = some (.int .i64 (fo : Int)) := (BX.out.under hz BX.out.lt).cell 3; go_simp <;> with_reducible rfl)
    simp only [List.setIfInBounds_toArray, List.set_cons_zero, List.set_cons_succ]
    refine takeH (i := 31) (d := 41) (v := ?vsa31) rfl (by kernel_rfl) (by kernel_rfl) (by kernel_rfl) (fun _ _ _ h => h) rfl (by rfl) ?ysa31 hS ?rsa31
    case ysa31 => (intro wz hz; have p0 : wz.cell? ⟨b3, 0, none⟩ = some (.int .i64 (size : Int)) := (BX.out.under hz BX.out.lt).cell 0; have p1 : wz.cell? ⟨b3, 1, none⟩ = some (.slice A n c) := (BX.out.under hz BX.out.lt).cell 1; have p2 : wz.cell? ⟨b3, 2, none⟩ = some (.int .i64 (us : Int)) := (BX.out.under hz BX.out.lt).cell 2; have p3 : wz.cell? ⟨b3, 3, none⟩ = some (.int .i64 (fo : Int)) := (BX.out.under hz BX.out.lt).cell 3; go_simp <;> with_reducible rfl)
    simp only [List.setIfInBounds_toArray, List.set_cons_zero, List.set_cons_succ]
    refine takeH (i := 32) (d := 42) (v := ?vsa32) rfl (by kernel_rfl) (by kernel_rfl) (by kernel_rfl) (fun _ _ _ h => h) rfl (by rfl) ?ysa32 hS ?rsa32
    case ysa32 => (intro wz hz; have p0 : wz.cell? ⟨b3, 0, none⟩ = some (.int .i64 (size : Int)) := (BX.out.under hz BX.out.lt).cell 0; have p1 : wz.cell? ⟨b3, 1, none⟩ = some (.slice A n c) := (BX.out.under hz BX.out.lt).cell 1; have p2 : wz.cell? ⟨b3, 2, none⟩ = some (.int .i64 (us : Int)) := (BX.out.under hz BX.out.lt).cell 2; have p3 : wz.cell? ⟨b3, 3, none⟩ = some (.int .i64 (fo : Int)) := (BX.out.under hz BX.out.lt).cell 3; go_simp <;> with_reducible rfl)
    simp only [List.setIfInBounds_toArray, List.set_cons_zero, List.set_cons_succ]
    refine takeH (i := 33) (d := 43) (v := ?vsa33) rfl (by kernel_rfl) (by kernel_rfl) (by kernel_rfl) (fun _ _ _ h => h) rfl (by rfl) ?ysa33 hS ?rsa33
    case ysa33 => (intro wz hz; have p0 : wz.cell? ⟨b3, 0, none⟩ = some (.int .i64 (size : Int)) := (BX.out.under hz BX.out.lt).cell 0; have p1 : wz.cell? ⟨b3, 1, none⟩ = some (.slice A n c) := (BX.out.under hz BX.out.lt).cell 1; have p2 : wz.cell? ⟨b3, 2, none⟩ = some (.int .i64 (us : Int)) := (BX.out.under hz BX.out.lt).cell 2; have p3 : wz.cell? ⟨b3, 3, none⟩ = some (.int .i64 (fo : Int)) := (BX.out.under hz BX.out.lt).cell 3; go_simp <;> with_reducible rfl)
    simp only [List.setIfInBounds_toArray, List.set_cons_zero, List.set_cons_succ]
    refine takeH (i := 34) (d := 44) (v := ?vsa34) rfl (by kernel_rfl) (by kernel_rfl) (by kernel_rfl) (fun _ _ _ h => h) rfl (by rfl) ?ysa34 hS ?rsa34
    case ysa34 => (intro wz hz; have p0 : wz.cell? ⟨b3, 0, none⟩ = some (.int .i64 (size : Int)) := (BX.out.under hz BX.out.lt).cell 0; have p1 : wz.cell? ⟨b3, 1, none⟩ = some (.slice A n c) := (BX.out.under hz BX.out.lt).cell 1; have p2 : wz.cell? ⟨b3, 2, none⟩ = some (.int .i64 (us : Int)) := (BX.out.under hz BX.out.lt).cell 2; have p3 : wz.cell? ⟨b3, 3, none⟩ = some (.int .i64 (fo : Int)) := (BX.out.under hz BX.out.lt).cell 3; go_simp <;> with_reducible rfl)
    simp only [List.setIfInBounds_toArray, List.set_cons_zero, List.set_cons_succ]
    refine takeH (i := 35) (d := 45) (v := ?vsa35) rfl (by kernel_rfl) (by kernel_rfl) (by kernel_rfl) (fun _ _ _ h => h) rfl (by rfl) ?ysa35 hS ?rsa35
    case ysa35 => (intro wz hz; have p0 : wz.cell? ⟨b3, 0, none⟩ = some (.int .i64 (size : Int)) := (BX.out.under hz BX.out.lt).cell 0; have p1 : wz.cell? ⟨b3, 1, none⟩ = some (.slice A n c) := (BX.out.under hz BX.out.lt).cell 1; have p2 : wz.cell? ⟨b3, 2, none⟩ = some (.int .i64 (us : Int)) := (BX.out.under hz BX.out.lt).cell 2; have p3 : wz.cell? ⟨b3, 3, none⟩ = some (.int .i64 (fo : Int)) := (BX.out.under hz BX.out.lt).cell 3; go_simp <;> with_reducible rfl)
    simp only [List.setIfInBounds_toArray, List.set_cons_zero, List.set_cons_succ]
    refine takeH (i := 36) (d := 46) (v := ?vsa36) rfl (by kernel_rfl) (by kernel_rfl) (by kernel_rfl) (fun _ _ _ h => h) rfl (by rfl) ?ysa36 hS ?rsa36
    case ysa36 => (intro wz hz; have p0 : wz.cell? ⟨b3, 0, none⟩ = some (.int .i64 (size : Int)) := (BX.out.under hz BX.out.lt).cell 0; have p1 : wz.cell? ⟨b3, 1, none⟩ = some (.slice A n c) := (BX.out.under hz BX.out.lt).cell 1; have p2 : wz.cell? ⟨b3, 2, none⟩ = some (.int .i64 (us : Int)) := (BX.out.under hz BX.out.lt).cell 2; have p3 : wz.cell? ⟨b3, 3, none⟩ = some (.int .i64 (fo : Int)) := (BX.out.under hz BX.out.lt).cell 3; go_simp <;> with_reducible rfl)
    simp only [List.setIfInBounds_toArray, List.set_cons_zero, List.set_cons_succ]
    refine wpAnyH_ready (rs := [37]) (by kernel_rfl) (by simp) ?_
    refine AllReadyH.cons rfl (fun K hK => ?_) AllReadyH.nil
    go_simp
    refine (F1.out _ hS).mono ?_
    rintro e y6 ⟨rfl, rfl⟩
    have hb : True := trivial
    refine hK.out _ _ (hS) (fun hT => ?_)
    clear hK hb hS
    have hS := hT
    clear hT
    refine takeH (i := 38) (d := 48) (v := ?vsa38) rfl (by kernel_rfl) (by kernel_rfl) (by kernel_rfl) (fun _ _ _ h => h) rfl (by rfl) ?ysa38 hS ?rsa38
    case ysa38 => (intro wz hz; have p0 : wz.cell? ⟨b3, 0, none⟩ = some (.int .i64 (size : Int)) := (BX.out.under hz BX.out.lt).cell 0; have p1 : wz.cell? ⟨b3, 1, none⟩ = some (.slice A n c) := (BX.out.under hz BX.out.lt).cell 1; have p2 : wz.cell? ⟨b3, 2, none⟩ = some (.int .i64 (us : Int)) := (BX.out.under hz BX.out.lt).cell 2; have p3 : wz.cell? ⟨b3, 3, none⟩ = some (.int .i64 (fo : Int)) := (BX.out.under hz BX.out.lt).cell 3; go_simp <;> with_reducible rfl)
    simp only [List.setIfInBounds_toArray, List.set_cons_zero, List.set_cons_succ]
    refine takeH (i := 39) (d := 49) (v := ?vsa39) rfl (by kernel_rfl) (by kernel_rfl) (by kernel_rfl) (fun _ _ _ h => h) rfl (by rfl) ?ysa39 hS ?rsa39
    case ysa39 => (intro wz hz; have p0 : wz.cell? ⟨b3, 0, none⟩ = some (.int .i64 (size : Int)) := (BX.out.under hz BX.out.lt).cell 0; have p1 : wz.cell? ⟨b3, 1, none⟩ = some (.slice A n c) := (BX.out.under hz BX.out.lt).cell 1; have p2 : wz.cell? ⟨b3, 2, none⟩ = some (.int .i64 (us : Int)) := (BX.out.under hz BX.out.lt).cell 2; have p3 : wz.cell? ⟨b3, 3, none⟩ = some (.int .i64 (fo : Int)) := (BX.out.under hz BX.out.lt).cell 3; go_simp <;> with_reducible rfl)
    simp only [List.setIfInBounds_toArray, List.set_cons_zero, List.set_cons_succ]
    refine takeH (i := 40) (d := 50) (v := ?vsa40) rfl (by kernel_rfl) (by kernel_rfl) (by kernel_rfl) (fun _ _ _ h => h) rfl (by rfl) ?ysa40 hS ?rsa40
    case ysa40 => (intro wz hz; have p0 : wz.cell? ⟨b3, 0, none⟩ = some (.int .i64 (size : Int)) := (BX.out.under hz BX.out.lt).cell 0; have p1 : wz.cell? ⟨b3, 1, none⟩ = some (.slice A n c) := (BX.out.under hz BX.out.lt).cell 1; have p2 : wz.cell? ⟨b3, 2, none⟩ = some (.int .i64 (us : Int)) := (BX.out.under hz BX.out.lt).cell 2; have p3 : wz.cell? ⟨b3, 3, none⟩ = some (.int .i64 (fo : Int)) := (BX.out.under hz BX.out.lt).cell 3; go_simp <;> with_reducible rfl)
    simp only [List.setIfInBounds_toArray, List.set_cons_zero, List.set_cons_succ]
    refine takeH (i := 41) (d := 51) (v := ?vsa41) rfl (by kernel_rfl) (by kernel_rfl) (by kernel_rfl) (fun _ _ _ h => h) rfl (by rfl) ?ysa41 hS ?rsa41
    case ysa41 => (intro wz hz; have p0 : wz.cell? ⟨b3, 0, none⟩ = some (.int .i64 (size : Int)) := (BX.out.under hz BX.out.lt).cell 0; have p1 : wz.cell? ⟨b3, 1, none⟩ = some (.slice A n c) := (BX.out.under hz BX.out.lt).cell 1; have p2 : wz.cell? ⟨b3, 2, none⟩ = some (.int .i64 (us : Int)) := (BX.out.under hz BX.out.lt).cell 2; have p3 : wz.cell? ⟨b3, 3, none⟩ = some (.int .i64 (fo : Int)) := (BX.out.under hz BX.out.lt).cell 3; go_simp <;> with_reducible rfl)
    simp only [List.setIfInBounds_toArray, List.set_cons_zero, List.set_cons_succ]
    refine takeH (i := 42) (d := 52) (v := ?vsa42) rfl (by kernel_rfl) (by kernel_rfl) (by kernel_rfl) (fun _ _ _ h => h) rfl (by rfl) ?ysa42 hS ?rsa42
    case ysa42 => (intro wz hz; have p0 : wz.cell? ⟨b3, 0, none⟩ = some (.int .i64 (size : Int)) := (BX.out.under hz BX.out.lt).cell 0; have p1 : wz.cell? ⟨b3, 1, none⟩ = some (.slice A n c) := (BX.out.under hz BX.out.lt).cell 1; have p2 : wz.cell? ⟨b3, 2, none⟩ = some (.int .i64 (us : Int)) := (BX.out.under hz BX.out.lt).cell 2; have p3 : wz.cell? ⟨b3, 3, none⟩ = some (.int .i64 (fo : Int)) := (BX.out.under hz BX.out.lt).cell 3; go_simp <;> with_reducible rfl)
    simp only [List.setIfInBounds_toArray, List.set_cons_zero, List.set_cons_succ]
    refine takeH (i := 43) (d := 53) (v := ?vsa43) rfl (by kernel_rfl) (by kernel_rfl) (by kernel_rfl) (fun _ _ _ h => h) rfl (by rfl) ?ysa43 hS ?rsa43
    case ysa43 => (intro wz hz; have p0 : wz.cell? ⟨b3, 0, none⟩ = some (.int .i64 (size : Int)) := (BX.out.under hz BX.out.lt).cell 0; have p1 : wz.cell? ⟨b3, 1, none⟩ = some (.slice A n c) := (BX.out.under hz BX.out.lt).cell 1; have p2 : wz.cell? ⟨b3, 2, none⟩ = some (.int .i64 (us : Int)) := (BX.out.under hz BX.out.lt).cell 2; have p3 : wz.cell? ⟨b3, 3, none⟩ = some (.int .i64 (fo : Int)) := (BX.out.under hz BX.out.lt).cell 3; go_simp <;> with_reducible rfl)
    simp only [List.setIfInBounds_toArray, List.set_cons_zero, List.set_cons_succ]
    refine takeH (i := 44) (d := 54) (v := ?vsa44) rfl (by kernel_rfl) (by kernel_rfl) (by kernel_rfl) (fun _ _ _ h => h) rfl (by rfl) ?ysa44 hS ?rsa44
    case ysa44 => (intro wz hz; have p0 : wz.cell? ⟨b3, 0, none⟩ = some (.int .i64 (size : Int)) := (BX.out.under hz BX.out.lt).cell 0; have p1 : wz.cell? ⟨b3, 1, none⟩ = some (.slice A n c) := (BX.out.under hz BX.out.lt).cell 1; have p2 : wz.cell? ⟨b3, 2, none⟩ = some (.int .i64 (us : Int)) := (BX.out.under hz BX.out.lt).cell 2; have p3 : wz.cell? ⟨b3, 3, none⟩ = some (.int .i64 (fo : Int)) := (BX.out.under hz BX.out.lt).cell 3; go_simp <;> with_reducible rfl)
    simp only [List.setIfInBounds_toArray, List.set_cons_zero, List.set_cons_succ]
    refine takeH (i := 45) (d := 55) (v := ?vsa45) rfl (by kernel_rfl) (by kernel_rfl) (by kernel_rfl) (fun _ _ _ h => h) rfl (by rfl) ?ysa45 hS ?rsa45
    case ysa45 => (intro wz hz; have p0 : wz.cell? ⟨b3, 0, none⟩ = some (.int .i64 (size : Int)) := (BX.out.under hz BX.out.lt).cell 0; have p1 : wz.cell? ⟨b3, 1, none⟩ = some (.slice A n c) := (BX.out.under hz BX.out.lt).cell 1; have p2 : wz.cell? ⟨b3, 2, none⟩ = some (.int .i64 (us : Int)) := (BX.out.under hz BX.out.lt).cell 2; have p3 : wz.cell? ⟨b3, 3, none⟩ = some (.int .i64 (fo : Int)) := (BX.out.under hz BX.out.lt).cell 3; go_simp <;> with_reducible rfl)
    simp only [List.setIfInBounds_toArray, List.set_cons_zero, List.set_cons_succ]
    refine wpAnyH_ready (rs := [46]) (by kernel_rfl) (by simp) ?_
    refine AllReadyH.cons rfl (fun K hK => ?_) AllReadyH.nil
    go_simp
    refine (F2.out _ hS).mono ?_
    rintro e y7 ⟨rfl, rfl⟩
    have hb : True := trivial
    refine hK.out _ _ (hS) (fun hT => ?_)
    clear hK hb hS
    have hS := hT
    clear hT
    refine takeH (i := 47) (d := 57) (v := ?vsa47) rfl (by kernel_rfl) (by kernel_rfl) (by kernel_rfl) (fun _ _ _ h => h) rfl (by rfl) ?ysa47 hS ?rsa47
    case ysa47 => (intro wz hz; have p0 : wz.cell? ⟨b3, 0, none⟩ = some (.int .i64 (size : Int)) := (BX.out.under hz BX.out.lt).cell 0; have p1 : wz.cell? ⟨b3, 1, none⟩ = some (.slice A n c) := (BX.out.under hz BX.out.lt).cell 1; have p2 : wz.cell? ⟨b3, 2, none⟩ = some (.int .i64 (us : Int)) := (BX.out.under hz BX.out.lt).cell 2; have p3 : wz.cell? ⟨b3, 3, none⟩ = some (.int .i64 (fo : Int)) := (BX.out.under hz BX.out.lt).cell 3; go_simp <;> with_reducible rfl)
    simp only [List.setIfInBounds_toArray, List.set_cons_zero, List.set_cons_succ]
    refine wpAnyH_done (by kernel_rfl) ?_ _
    go_wp2_with fail
    go_meet
    exact ⟨rfl, hS⟩
  case rest =>
    obtain ⟨rfl, HS⟩ := hcut
    generalize hwq : wc = y0 at *
    clear hwq
    go_wp2_with fail
    go_loopw [5] (fun i W => SmL z1 n i W) (fun i _ => n - (intOf i).toNat)
    case atStart => exact ⟨0, Nat.zero_le _, rfl, HS⟩
    case round =>
      clear HS
      obtain ⟨k, hk, rfl, HB⟩ := hrel
      have p1 : wr.cell? ⟨b3, 1, none⟩ = some (.slice A n c) := (BX.out.under HB.out BX.out.lt).cell 1
      by_cases hlt : k < n
      · obtain ⟨bL, oL, hl, rfl, _, hbl1, hR1, _⟩ := TS.out.at hlt
        have hkr : k < rs.length := by omega
        obtain ⟨t, ht⟩ : ∃ t, ts[k] = t := ⟨_, rfl⟩
        have hte : t.e = rs[k].e := by rw [← ht]; exact e_of_map HTE.out hl hkr
        rw [ht] at hR1
        have HT := Lib.hid ht
        have R1 := Lib.hid hR1
        have Z0 := Lib.hid (hR1 0 _ rfl)
        have NG := Lib.hid (numd_get HNUM.out (m := k) (by simpa using hkr))
        have hlsn : t.e.lsn ≤ 401 := by
          have h1 := NG.out.1
          have h2 := pos_take_le (rs.map (·.e)) k
          have h3 := HPOS.out
          simp only [List.getElem_map] at h1
          rw [hte, h1]
          omega
        have GT := gd_small (X := Y) (z := z1) (r := t) (by have := NG.out.2; simp only [List.getElem_map] at this; rw [hte]; exact this) (TS.out.els t (by rw [← ht]; exact List.getElem_mem hl))
        obtain ⟨l0, hl0⟩ : ∃ l0, t.e.lsn = l0 := ⟨_, rfl⟩
        have HL0 := Lib.hid (show rs[k].e.lsn = l0 by rw [← hte, hl0])
        obtain ⟨l1, hl1⟩ : ∃ l1, l0 + 1 = l1 := ⟨_, rfl⟩
        have HL1 := Lib.hid hl1
        rw [hl0] at hlsn
        have u1 : (l0 : Int) + 1 = (l1 : Int) := by omega
        have u2 : IntKind.u64.wrap (l1 : Int) = (l1 : Int) := by rw [IntKind.wrap_u64]; omega
        have q0 : wr.cell? ⟨bL, oL + k * 13, none⟩ = some (.int .u64 (l0 : Int)) := by
          have := (HB.out.cell (p := ⟨bL, oL + k * 13, none⟩) hbl1).trans Z0.out
          rw [this]
          show some (Value.int .u64 (t.e.lsn : Nat)) = _
          rw [hl0]
        have Z0' : Hid (z1.cell? ⟨bL, oL + k * 13, none⟩ = some (.int .u64 (l0 : Int))) := by
          show _ = _
          rw [← hl0]
          exact Z0.out
        clear Z0
        have Z0 := Z0'
        have HTE2 := Lib.hid hte
        clear Z0' ht hR1 hte hl0 hl1
        go_wp2_with fail
        refine (find_yes X B wr g gd base size rs fo ws vE vW (LG.out.below HB.out) (by omega) HPN.out RIS.out k hkr l0 HL0.out).mono ?_
        rintro e w6 ⟨r6, hr6, hnp6, hna6, rfl, hel6, hb6⟩
        have HR6 := Lib.hid (hr6.trans HTE2.out.symm)
        have hsm6 : r6.np ≤ 1000 ∧ r6.na ≤ 1000 := by
          have g6 := NG.out.2
          simp only [List.getElem_map] at g6
          have g7 := chk_zero g6.chk
          have := g7.pages
          have := g7.act
          omega
        have HB7 := Lib.hid (HB.out.trans ((hb6.mono HB.out.size).alloc (Nat.le_trans HB.out.size hb6.size) (.cells (erA r6) 42)))
        have A6 := Lib.hid (At.new w6 42 (erA r6))
        have EL6 := Lib.hid ((hel6.mono fun _ _ h => h.elim : ELz (fun _ => False) w6 r6).below ((Below.refl _ w6).alloc (Nat.le_refl _) (.cells (erA r6) 42)))
        clear hr6 hnp6 hna6 hel6 hb6 p1 q0
        go_upto_region 7 with (refine wpList_store_new 42 (.tmp 6) (.tmp 74) rfl rfl rfl _ w6 rfl rfl (erA r6) zE 13 rfl strE rfl rfl (erA_one _) rfl ?_)
        generalize w6.alloc (.cells (erA r6) 42) = y7 at HB7 A6 EL6 ⊢
        generalize w6.heap.size = b6 at A6 ⊢
        have p1 : y7.cell? ⟨b3, 1, none⟩ = some (.slice (some ⟨bL, oL, none⟩) n c) := (BX.out.under HB7.out BX.out.lt).cell 1
        have q0 : y7.cell? ⟨bL, oL + k * 13, none⟩ = some (.int .u64 (l0 : Int)) := (HB7.out.cell (p := ⟨bL, oL + k * 13, none⟩) hbl1).trans Z0.out
        by_cases h1 : k + 1 < n
        · obtain ⟨kx, e9⟩ : ∃ kx : Nat, (k : Int) + 1 = (kx : Int) := ⟨k + 1, by omega⟩
          have e10 : IntKind.i64.wrap (kx : Int) = (kx : Int) := by rw [IntKind.wrap_i64]; omega
          have dk : decide ((kx : Int) < (n : Int)) = true := by simp; omega
          have dk3 : decide (kx < n) = true := by simp; omega
          have hkn : kx < n := by omega
          have h1r : k + 1 < rs.length := by omega
          obtain ⟨b', o', hl1, hA', _, _, hR2, _⟩ := TS.out.at h1
          injection hA' with hA'
          injection hA' with hA1 hA2
          subst hA1 hA2
          obtain ⟨l2, hl2⟩ : ∃ l2, (ts[k + 1]).e.lsn = l2 := ⟨_, rfl⟩
          have HL2 := Lib.hid (show rs[k + 1].e.lsn = l2 by rw [← e_of_map HTE.out hl1 h1r, hl2])
          have Z1 : Hid (z1.cell? ⟨bL, oL + kx * 13, none⟩ = some (.int .u64 (l2 : Int))) := by
            have := hR2 0 _ rfl
            rw [hl2, show k + 1 = kx by omega] at this
            exact this
          clear hR2 hl2
          cases hq : ((l2 : Int) == (l1 : Int))
          · have LN : Hid (∀ (j : Nat) (hj : j < rs.length), rs[j].e.lsn ≠ l1) := by
              show ∀ (j : Nat) (hj : j < rs.length), rs[j].e.lsn ≠ l1
              rw [← HL1.out]
              refine no_next RIS.out hkr HL0.out (fun h => ?_)
              rw [HL2.out, HL1.out]
              intro e
              rw [e] at hq
              simp at hq
            go_wp2_with fail
            refine (find_no X B y7 g gd base size rs fo ws vE vW (LG.out.below HB7.out) (by omega) RIS.out l1 LN.out).mono ?_
            rintro e w8 ⟨rfl, hb8⟩
            have HB8 := Lib.hid (HB7.out.trans ((hb8.mono HB7.out.size).alloc (Nat.le_trans HB7.out.size hb8.size) (.cells (zE) 42)))
            have A6 := Lib.hid ((A6.out.under hb8 A6.out.lt).alloc (.cells (zE) 42))
            have EL6 := Lib.hid ((EL6.out.below hb8).below ((Below.refl _ w8).alloc (Nat.le_refl _) (.cells (zE) 42)))
            go_upto_region 8 with (refine wpList_store_new 42 (.tmp 8) (.tmp 86) rfl rfl rfl _ w8 rfl rfl (zE) zE 13 rfl strE rfl rfl zE_one9 rfl ?_)
            clear hb8
            generalize w8.alloc (.cells (zE) 42) = y8 at HB8 A6 EL6 ⊢
            generalize w8.heap.size = b8
            have A3 := Lib.hid (BX.out.under HB8.out BX.out.lt)
            have TS8 := TS.out.below HB8.out
            have EL8 := Lib.hid (TS8.els t (by rw [← HT.out]; exact List.getElem_mem _))
            have R8 := Lib.hid (range_below R1.out HB8.out hbl1)
            have C0 := Lib.hid ((HB8.out.cell (p := ⟨bL, oL + k * 13, none⟩) hbl1).trans Z0.out)
            have hbl8 : bL < y8.heap.size := Nat.lt_of_lt_of_le hbl1 HB8.out.size
            have SS : Hid (∀ W, Below y8.heap.size y8 W → Calls Tryd.prog 40 #[.agg (erA r6), .agg (erA t)] W (RetQ W true)) := fun W hW => by
              have := refSame_any r6.e t.e r6.PA r6.QA t.PA t.QA r6.np r6.pc r6.na r6.qc t.np t.pc t.na t.qc W (EL6.out.below hW).el (EL8.out.below hW).el (by omega) (by omega) (by omega) (by omega)
              rw [show sameE r6.e t.e = true by rw [HR6.out]; exact sameE_refl _] at this
              exact this
            clear TS8
            have C1 := Lib.hid ((HB8.out.cell (p := ⟨bL, oL + kx * 13, none⟩) hbl1).trans Z1.out)
            refine wp_region_held_drew (S := Below y8.heap.size y8) (by kernel_rfl) ((Below.refl _ y8).drew) (fun hS => ?_)
            refine takeH (i := 0) (d := 88) (v := ?vsc0) rfl (by kernel_rfl) (by kernel_rfl) (by kernel_rfl) (fun _ _ _ h => h) rfl (by rfl) ?ysc0 hS ?rsc0
            case ysc0 => (intro wz hz; have p1 : wz.cell? ⟨b3, 1, none⟩ = some (.slice (some ⟨bL, oL, none⟩) n c) := (A3.out.under hz A3.out.lt).cell 1; have q0 := (hz.cell (p := ⟨bL, oL + k * 13, none⟩) hbl8).trans C0.out; have q1 := (hz.cell (p := ⟨bL, oL + kx * 13, none⟩) hbl8).trans C1.out; go_simp <;> with_reducible rfl)
            simp only [List.setIfInBounds_toArray, List.set_cons_zero, List.set_cons_succ]
            refine takeH (i := 1) (d := 89) (v := ?vsc1) rfl (by kernel_rfl) (by kernel_rfl) (by kernel_rfl) (fun _ _ _ h => h) rfl (by rfl) ?ysc1 hS ?rsc1
            case ysc1 => (intro wz hz; have p1 : wz.cell? ⟨b3, 1, none⟩ = some (.slice (some ⟨bL, oL, none⟩) n c) := (A3.out.under hz A3.out.lt).cell 1; have q0 := (hz.cell (p := ⟨bL, oL + k * 13, none⟩) hbl8).trans C0.out; have q1 := (hz.cell (p := ⟨bL, oL + kx * 13, none⟩) hbl8).trans C1.out; go_simp <;> with_reducible rfl)
            simp only [List.setIfInBounds_toArray, List.set_cons_zero, List.set_cons_succ]
            refine takeH (i := 2) (d := 90) (v := ?vsc2) rfl (by kernel_rfl) (by kernel_rfl) (by kernel_rfl) (fun _ _ _ h => h) rfl (by rfl) ?ysc2 hS ?rsc2
            case ysc2 => (intro wz hz; have p1 : wz.cell? ⟨b3, 1, none⟩ = some (.slice (some ⟨bL, oL, none⟩) n c) := (A3.out.under hz A3.out.lt).cell 1; have q0 := (hz.cell (p := ⟨bL, oL + k * 13, none⟩) hbl8).trans C0.out; have q1 := (hz.cell (p := ⟨bL, oL + kx * 13, none⟩) hbl8).trans C1.out; go_simp <;> with_reducible rfl)
            simp only [List.setIfInBounds_toArray, List.set_cons_zero, List.set_cons_succ]
            refine takeH (i := 3) (d := 91) (v := .agg (erA r6)) rfl (by kernel_rfl) (by kernel_rfl) (by kernel_rfl) (fun _ _ _ h => h) rfl (by rfl) ?ysc3 hS ?rsc3
            case ysc3 => (intro wz hz; have p1 : wz.cell? ⟨b3, 1, none⟩ = some (.slice (some ⟨bL, oL, none⟩) n c) := (A3.out.under hz A3.out.lt).cell 1; have q0 := (hz.cell (p := ⟨bL, oL + k * 13, none⟩) hbl8).trans C0.out; have q1 := (hz.cell (p := ⟨bL, oL + kx * 13, none⟩) hbl8).trans C1.out; exact exec_load_at 42 (.tmp 6) rfl b6 rfl _ 13 strE rfl (A6.out.under hz A6.out.lt))
            simp only [List.setIfInBounds_toArray, List.set_cons_zero, List.set_cons_succ]
            refine takeH (i := 4) (d := 92) (v := ?vsc4) rfl (by kernel_rfl) (by kernel_rfl) (by kernel_rfl) (fun _ _ _ h => h) rfl (by rfl) ?ysc4 hS ?rsc4
            case ysc4 => (intro wz hz; have p1 : wz.cell? ⟨b3, 1, none⟩ = some (.slice (some ⟨bL, oL, none⟩) n c) := (A3.out.under hz A3.out.lt).cell 1; have q0 := (hz.cell (p := ⟨bL, oL + k * 13, none⟩) hbl8).trans C0.out; have q1 := (hz.cell (p := ⟨bL, oL + kx * 13, none⟩) hbl8).trans C1.out; go_simp <;> with_reducible rfl)
            simp only [List.setIfInBounds_toArray, List.set_cons_zero, List.set_cons_succ]
            refine takeH (i := 5) (d := 93) (v := ?vsc5) rfl (by kernel_rfl) (by kernel_rfl) (by kernel_rfl) (fun _ _ _ h => h) rfl (by rfl) ?ysc5 hS ?rsc5
            case ysc5 => (intro wz hz; have p1 : wz.cell? ⟨b3, 1, none⟩ = some (.slice (some ⟨bL, oL, none⟩) n c) := (A3.out.under hz A3.out.lt).cell 1; have q0 := (hz.cell (p := ⟨bL, oL + k * 13, none⟩) hbl8).trans C0.out; have q1 := (hz.cell (p := ⟨bL, oL + kx * 13, none⟩) hbl8).trans C1.out; go_simp <;> with_reducible rfl)
            simp only [List.setIfInBounds_toArray, List.set_cons_zero, List.set_cons_succ]
            refine takeH (i := 6) (d := 94) (v := ?vsc6) rfl (by kernel_rfl) (by kernel_rfl) (by kernel_rfl) (fun _ _ _ h => h) rfl (by rfl) ?ysc6 hS ?rsc6
            case ysc6 => (intro wz hz; have p1 : wz.cell? ⟨b3, 1, none⟩ = some (.slice (some ⟨bL, oL, none⟩) n c) := (A3.out.under hz A3.out.lt).cell 1; have q0 := (hz.cell (p := ⟨bL, oL + k * 13, none⟩) hbl8).trans C0.out; have q1 := (hz.cell (p := ⟨bL, oL + kx * 13, none⟩) hbl8).trans C1.out; go_simp <;> with_reducible rfl)
            simp only [List.setIfInBounds_toArray, List.set_cons_zero, List.set_cons_succ]
            refine takeH (i := 7) (d := 95) (v := ?vsc7) rfl (by kernel_rfl) (by kernel_rfl) (by kernel_rfl) (fun _ _ _ h => h) rfl (by rfl) ?ysc7 hS ?rsc7
            case ysc7 => (intro wz hz; have p1 : wz.cell? ⟨b3, 1, none⟩ = some (.slice (some ⟨bL, oL, none⟩) n c) := (A3.out.under hz A3.out.lt).cell 1; have q0 := (hz.cell (p := ⟨bL, oL + k * 13, none⟩) hbl8).trans C0.out; have q1 := (hz.cell (p := ⟨bL, oL + kx * 13, none⟩) hbl8).trans C1.out; go_simp <;> with_reducible rfl)
            simp only [List.setIfInBounds_toArray, List.set_cons_zero, List.set_cons_succ]
            refine takeH (i := 8) (d := 96) (v := .agg (erA t)) rfl (by kernel_rfl) (by kernel_rfl) (by kernel_rfl) (fun _ _ _ h => h) rfl (by rfl) ?ysc8 hS ?rsc8
            case ysc8 => (intro wz hz; have p1 : wz.cell? ⟨b3, 1, none⟩ = some (.slice (some ⟨bL, oL, none⟩) n c) := (A3.out.under hz A3.out.lt).cell 1; have q0 := (hz.cell (p := ⟨bL, oL + k * 13, none⟩) hbl8).trans C0.out; have q1 := (hz.cell (p := ⟨bL, oL + kx * 13, none⟩) hbl8).trans C1.out; exact exec_load_er (.tmp 95) rfl bL (oL + k * 13) rfl t (range_below R8.out hz hbl8))
            simp only [List.setIfInBounds_toArray, List.set_cons_zero, List.set_cons_succ]
            refine wpAnyH_ready (rs := [9]) (by kernel_rfl) (by simp) ?_
            refine AllReadyH.cons rfl (fun K hK => ?_) AllReadyH.nil
            go_simp
            refine (SS.out _ hS).mono ?_
            rintro e y9 ⟨rfl, hb9⟩
            have hb : True := trivial
            have B9 := Lib.hid (hS.trans (hb9.mono hS.size))
            clear hb9
            refine hK.out _ _ (B9.out) (fun hT => ?_)
            clear hK hb hS
            have hS := hT
            clear hT
            refine takeH (i := 10) (d := 98) (v := ?vsc10) rfl (by kernel_rfl) (by kernel_rfl) (by kernel_rfl) (fun _ _ _ h => h) rfl (by rfl) ?ysc10 hS ?rsc10
            case ysc10 => (intro wz hz; have p1 : wz.cell? ⟨b3, 1, none⟩ = some (.slice (some ⟨bL, oL, none⟩) n c) := (A3.out.under hz A3.out.lt).cell 1; have q0 := (hz.cell (p := ⟨bL, oL + k * 13, none⟩) hbl8).trans C0.out; have q1 := (hz.cell (p := ⟨bL, oL + kx * 13, none⟩) hbl8).trans C1.out; go_simp <;> with_reducible rfl)
            simp only [List.setIfInBounds_toArray, List.set_cons_zero, List.set_cons_succ]
            refine takeH (i := 11) (d := 99) (v := ?vsc11) rfl (by kernel_rfl) (by kernel_rfl) (by kernel_rfl) (fun _ _ _ h => h) rfl (by rfl) ?ysc11 hS ?rsc11
            case ysc11 => (intro wz hz; have p1 : wz.cell? ⟨b3, 1, none⟩ = some (.slice (some ⟨bL, oL, none⟩) n c) := (A3.out.under hz A3.out.lt).cell 1; have q0 := (hz.cell (p := ⟨bL, oL + k * 13, none⟩) hbl8).trans C0.out; have q1 := (hz.cell (p := ⟨bL, oL + kx * 13, none⟩) hbl8).trans C1.out; go_simp <;> with_reducible rfl)
            simp only [List.setIfInBounds_toArray, List.set_cons_zero, List.set_cons_succ]
            refine takeH (i := 12) (d := 100) (v := ?vsc12) rfl (by kernel_rfl) (by kernel_rfl) (by kernel_rfl) (fun _ _ _ h => h) rfl (by rfl) ?ysc12 hS ?rsc12
            case ysc12 => (intro wz hz; have p1 : wz.cell? ⟨b3, 1, none⟩ = some (.slice (some ⟨bL, oL, none⟩) n c) := (A3.out.under hz A3.out.lt).cell 1; have q0 := (hz.cell (p := ⟨bL, oL + k * 13, none⟩) hbl8).trans C0.out; have q1 := (hz.cell (p := ⟨bL, oL + kx * 13, none⟩) hbl8).trans C1.out; go_simp <;> with_reducible rfl)
            simp only [List.setIfInBounds_toArray, List.set_cons_zero, List.set_cons_succ]
            refine takeH (i := 13) (d := 101) (v := ?vsc13) rfl (by kernel_rfl) (by kernel_rfl) (by kernel_rfl) (fun _ _ _ h => h) rfl (by rfl) ?ysc13 hS ?rsc13
            case ysc13 => (intro wz hz; have p1 : wz.cell? ⟨b3, 1, none⟩ = some (.slice (some ⟨bL, oL, none⟩) n c) := (A3.out.under hz A3.out.lt).cell 1; have q0 := (hz.cell (p := ⟨bL, oL + k * 13, none⟩) hbl8).trans C0.out; have q1 := (hz.cell (p := ⟨bL, oL + kx * 13, none⟩) hbl8).trans C1.out; go_simp <;> with_reducible rfl)
            simp only [List.setIfInBounds_toArray, List.set_cons_zero, List.set_cons_succ]
            refine takeH (i := 14) (d := 102) (v := ?vsc14) rfl (by kernel_rfl) (by kernel_rfl) (by kernel_rfl) (fun _ _ _ h => h) rfl (by rfl) ?ysc14 hS ?rsc14
            case ysc14 => (intro wz hz; have p1 : wz.cell? ⟨b3, 1, none⟩ = some (.slice (some ⟨bL, oL, none⟩) n c) := (A3.out.under hz A3.out.lt).cell 1; have q0 := (hz.cell (p := ⟨bL, oL + k * 13, none⟩) hbl8).trans C0.out; have q1 := (hz.cell (p := ⟨bL, oL + kx * 13, none⟩) hbl8).trans C1.out; go_simp <;> with_reducible rfl)
            simp only [List.setIfInBounds_toArray, List.set_cons_zero, List.set_cons_succ]
            refine takeH (i := 15) (d := 103) (v := ?vsc15) rfl (by kernel_rfl) (by kernel_rfl) (by kernel_rfl) (fun _ _ _ h => h) rfl (by rfl) ?ysc15 hS ?rsc15
            case ysc15 => (intro wz hz; have p1 : wz.cell? ⟨b3, 1, none⟩ = some (.slice (some ⟨bL, oL, none⟩) n c) := (A3.out.under hz A3.out.lt).cell 1; have q0 := (hz.cell (p := ⟨bL, oL + k * 13, none⟩) hbl8).trans C0.out; have q1 := (hz.cell (p := ⟨bL, oL + kx * 13, none⟩) hbl8).trans C1.out; go_simp <;> with_reducible rfl)
            simp only [List.setIfInBounds_toArray, List.set_cons_zero, List.set_cons_succ]
            refine takeH (i := 16) (d := 104) (v := ?vsc16) rfl (by kernel_rfl) (by kernel_rfl) (by kernel_rfl) (fun _ _ _ h => h) rfl (by rfl) ?ysc16 hS ?rsc16
            case ysc16 => (intro wz hz; have p1 : wz.cell? ⟨b3, 1, none⟩ = some (.slice (some ⟨bL, oL, none⟩) n c) := (A3.out.under hz A3.out.lt).cell 1; have q0 := (hz.cell (p := ⟨bL, oL + k * 13, none⟩) hbl8).trans C0.out; have q1 := (hz.cell (p := ⟨bL, oL + kx * 13, none⟩) hbl8).trans C1.out; go_simp <;> with_reducible rfl)
            simp only [List.setIfInBounds_toArray, List.set_cons_zero, List.set_cons_succ]
            refine takeH (i := 17) (d := 105) (v := ?vsc17) rfl (by kernel_rfl) (by kernel_rfl) (by kernel_rfl) (fun _ _ _ h => h) rfl (by rfl) ?ysc17 hS ?rsc17
            case ysc17 => (intro wz hz; have p1 : wz.cell? ⟨b3, 1, none⟩ = some (.slice (some ⟨bL, oL, none⟩) n c) := (A3.out.under hz A3.out.lt).cell 1; have q0 := (hz.cell (p := ⟨bL, oL + k * 13, none⟩) hbl8).trans C0.out; have q1 := (hz.cell (p := ⟨bL, oL + kx * 13, none⟩) hbl8).trans C1.out; go_simp <;> with_reducible rfl)
            simp only [List.setIfInBounds_toArray, List.set_cons_zero, List.set_cons_succ]
            refine takeH (i := 18) (d := 106) (v := ?vsc18) rfl (by kernel_rfl) (by kernel_rfl) (by kernel_rfl) (fun _ _ _ h => h) rfl (by rfl) ?ysc18 hS ?rsc18
            case ysc18 => (intro wz hz; have p1 : wz.cell? ⟨b3, 1, none⟩ = some (.slice (some ⟨bL, oL, none⟩) n c) := (A3.out.under hz A3.out.lt).cell 1; have q0 := (hz.cell (p := ⟨bL, oL + k * 13, none⟩) hbl8).trans C0.out; have q1 := (hz.cell (p := ⟨bL, oL + kx * 13, none⟩) hbl8).trans C1.out; go_simp <;> with_reducible rfl)
            simp only [List.setIfInBounds_toArray, List.set_cons_zero, List.set_cons_succ]
            refine takeH (i := 19) (d := 107) (v := ?vsc19) rfl (by kernel_rfl) (by kernel_rfl) (by kernel_rfl) (fun _ _ _ h => h) rfl (by rfl) ?ysc19 hS ?rsc19
            case ysc19 => (intro wz hz; have p1 : wz.cell? ⟨b3, 1, none⟩ = some (.slice (some ⟨bL, oL, none⟩) n c) := (A3.out.under hz A3.out.lt).cell 1; have q0 := (hz.cell (p := ⟨bL, oL + k * 13, none⟩) hbl8).trans C0.out; have q1 := (hz.cell (p := ⟨bL, oL + kx * 13, none⟩) hbl8).trans C1.out; go_simp <;> with_reducible rfl)
            simp only [List.setIfInBounds_toArray, List.set_cons_zero, List.set_cons_succ]
            refine takeH (i := 20) (d := 108) (v := ?vsc20) rfl (by kernel_rfl) (by kernel_rfl) (by kernel_rfl) (fun _ _ _ h => h) rfl (by rfl) ?ysc20 hS ?rsc20
            case ysc20 => (intro wz hz; have p1 : wz.cell? ⟨b3, 1, none⟩ = some (.slice (some ⟨bL, oL, none⟩) n c) := (A3.out.under hz A3.out.lt).cell 1; have q0 := (hz.cell (p := ⟨bL, oL + k * 13, none⟩) hbl8).trans C0.out; have q1 := (hz.cell (p := ⟨bL, oL + kx * 13, none⟩) hbl8).trans C1.out; go_simp <;> with_reducible rfl)
            simp only [List.setIfInBounds_toArray, List.set_cons_zero, List.set_cons_succ]
            refine takeH (i := 21) (d := 109) (v := ?vsc21) rfl (by kernel_rfl) (by kernel_rfl) (by kernel_rfl) (fun _ _ _ h => h) rfl (by rfl) ?ysc21 hS ?rsc21
            case ysc21 => (intro wz hz; have p1 : wz.cell? ⟨b3, 1, none⟩ = some (.slice (some ⟨bL, oL, none⟩) n c) := (A3.out.under hz A3.out.lt).cell 1; have q0 := (hz.cell (p := ⟨bL, oL + k * 13, none⟩) hbl8).trans C0.out; have q1 := (hz.cell (p := ⟨bL, oL + kx * 13, none⟩) hbl8).trans C1.out; go_simp <;> with_reducible rfl)
            simp only [List.setIfInBounds_toArray, List.set_cons_zero, List.set_cons_succ]
            refine takeH (i := 22) (d := 110) (v := ?vsc22) rfl (by kernel_rfl) (by kernel_rfl) (by kernel_rfl) (fun _ _ _ h => h) rfl (by rfl) ?ysc22 hS ?rsc22
            case ysc22 => (intro wz hz; have p1 : wz.cell? ⟨b3, 1, none⟩ = some (.slice (some ⟨bL, oL, none⟩) n c) := (A3.out.under hz A3.out.lt).cell 1; have q0 := (hz.cell (p := ⟨bL, oL + k * 13, none⟩) hbl8).trans C0.out; have q1 := (hz.cell (p := ⟨bL, oL + kx * 13, none⟩) hbl8).trans C1.out; go_simp <;> with_reducible rfl)
            simp only [List.setIfInBounds_toArray, List.set_cons_zero, List.set_cons_succ]
            refine takeH (i := 23) (d := 111) (v := ?vsc23) rfl (by kernel_rfl) (by kernel_rfl) (by kernel_rfl) (fun _ _ _ h => h) rfl (by rfl) ?ysc23 hS ?rsc23
            case ysc23 => (intro wz hz; have p1 : wz.cell? ⟨b3, 1, none⟩ = some (.slice (some ⟨bL, oL, none⟩) n c) := (A3.out.under hz A3.out.lt).cell 1; have q0 := (hz.cell (p := ⟨bL, oL + k * 13, none⟩) hbl8).trans C0.out; have q1 := (hz.cell (p := ⟨bL, oL + kx * 13, none⟩) hbl8).trans C1.out; go_simp <;> with_reducible rfl)
            simp only [List.setIfInBounds_toArray, List.set_cons_zero, List.set_cons_succ]
            refine takeH (i := 24) (d := 112) (v := ?vsc24) rfl (by kernel_rfl) (by kernel_rfl) (by kernel_rfl) (fun _ _ _ h => h) rfl (by rfl) ?ysc24 hS ?rsc24
            case ysc24 => (intro wz hz; have p1 : wz.cell? ⟨b3, 1, none⟩ = some (.slice (some ⟨bL, oL, none⟩) n c) := (A3.out.under hz A3.out.lt).cell 1; have q0 := (hz.cell (p := ⟨bL, oL + k * 13, none⟩) hbl8).trans C0.out; have q1 := (hz.cell (p := ⟨bL, oL + kx * 13, none⟩) hbl8).trans C1.out; go_simp <;> with_reducible rfl)
            simp only [List.setIfInBounds_toArray, List.set_cons_zero, List.set_cons_succ]
            refine takeH (i := 25) (d := 113) (v := ?vsc25) rfl (by kernel_rfl) (by kernel_rfl) (by kernel_rfl) (fun _ _ _ h => h) rfl (by rfl) ?ysc25 hS ?rsc25
            case ysc25 => (intro wz hz; have p1 : wz.cell? ⟨b3, 1, none⟩ = some (.slice (some ⟨bL, oL, none⟩) n c) := (A3.out.under hz A3.out.lt).cell 1; have q0 := (hz.cell (p := ⟨bL, oL + k * 13, none⟩) hbl8).trans C0.out; have q1 := (hz.cell (p := ⟨bL, oL + kx * 13, none⟩) hbl8).trans C1.out; go_simp <;> with_reducible rfl)
            simp only [List.setIfInBounds_toArray, List.set_cons_zero, List.set_cons_succ]
            refine takeH (i := 26) (d := 114) (v := ?vsc26) rfl (by kernel_rfl) (by kernel_rfl) (by kernel_rfl) (fun _ _ _ h => h) rfl (by rfl) ?ysc26 hS ?rsc26
            case ysc26 => (intro wz hz; have p1 : wz.cell? ⟨b3, 1, none⟩ = some (.slice (some ⟨bL, oL, none⟩) n c) := (A3.out.under hz A3.out.lt).cell 1; have q0 := (hz.cell (p := ⟨bL, oL + k * 13, none⟩) hbl8).trans C0.out; have q1 := (hz.cell (p := ⟨bL, oL + kx * 13, none⟩) hbl8).trans C1.out; go_simp <;> with_reducible rfl)
            simp only [List.setIfInBounds_toArray, List.set_cons_zero, List.set_cons_succ]
            refine takeH (i := 27) (d := 115) (v := ?vsc27) rfl (by kernel_rfl) (by kernel_rfl) (by kernel_rfl) (fun _ _ _ h => h) rfl (by rfl) ?ysc27 hS ?rsc27
            case ysc27 => (intro wz hz; have p1 : wz.cell? ⟨b3, 1, none⟩ = some (.slice (some ⟨bL, oL, none⟩) n c) := (A3.out.under hz A3.out.lt).cell 1; have q0 := (hz.cell (p := ⟨bL, oL + k * 13, none⟩) hbl8).trans C0.out; have q1 := (hz.cell (p := ⟨bL, oL + kx * 13, none⟩) hbl8).trans C1.out; go_simp <;> with_reducible rfl)
            simp only [List.setIfInBounds_toArray, List.set_cons_zero, List.set_cons_succ]
            refine takeH (i := 28) (d := 116) (v := ?vsc28) rfl (by kernel_rfl) (by kernel_rfl) (by kernel_rfl) (fun _ _ _ h => h) rfl (by rfl) ?ysc28 hS ?rsc28
            case ysc28 => (intro wz hz; have p1 : wz.cell? ⟨b3, 1, none⟩ = some (.slice (some ⟨bL, oL, none⟩) n c) := (A3.out.under hz A3.out.lt).cell 1; have q0 := (hz.cell (p := ⟨bL, oL + k * 13, none⟩) hbl8).trans C0.out; have q1 := (hz.cell (p := ⟨bL, oL + kx * 13, none⟩) hbl8).trans C1.out; go_simp <;> with_reducible rfl)
            simp only [List.setIfInBounds_toArray, List.set_cons_zero, List.set_cons_succ]
            refine takeH (i := 29) (d := 117) (v := ?vsc29) rfl (by kernel_rfl) (by kernel_rfl) (by kernel_rfl) (fun _ _ _ h => h) rfl (by rfl) ?ysc29 hS ?rsc29
            case ysc29 => (intro wz hz; have p1 : wz.cell? ⟨b3, 1, none⟩ = some (.slice (some ⟨bL, oL, none⟩) n c) := (A3.out.under hz A3.out.lt).cell 1; have q0 := (hz.cell (p := ⟨bL, oL + k * 13, none⟩) hbl8).trans C0.out; have q1 := (hz.cell (p := ⟨bL, oL + kx * 13, none⟩) hbl8).trans C1.out; go_simp <;> with_reducible rfl)
            simp only [List.setIfInBounds_toArray, List.set_cons_zero, List.set_cons_succ]
            refine takeH (i := 30) (d := 118) (v := ?vsc30) rfl (by kernel_rfl) (by kernel_rfl) (by kernel_rfl) (fun _ _ _ h => h) rfl (by rfl) ?ysc30 hS ?rsc30
            case ysc30 => (intro wz hz; have p1 : wz.cell? ⟨b3, 1, none⟩ = some (.slice (some ⟨bL, oL, none⟩) n c) := (A3.out.under hz A3.out.lt).cell 1; have q0 := (hz.cell (p := ⟨bL, oL + k * 13, none⟩) hbl8).trans C0.out; have q1 := (hz.cell (p := ⟨bL, oL + kx * 13, none⟩) hbl8).trans C1.out; go_simp <;> with_reducible rfl)
            simp only [List.setIfInBounds_toArray, List.set_cons_zero, List.set_cons_succ]
            refine takeH (i := 31) (d := 119) (v := ?vsc31) rfl (by kernel_rfl) (by kernel_rfl) (by kernel_rfl) (fun _ _ _ h => h) rfl (by rfl) ?ysc31 hS ?rsc31
            case ysc31 => (intro wz hz; have p1 : wz.cell? ⟨b3, 1, none⟩ = some (.slice (some ⟨bL, oL, none⟩) n c) := (A3.out.under hz A3.out.lt).cell 1; have q0 := (hz.cell (p := ⟨bL, oL + k * 13, none⟩) hbl8).trans C0.out; have q1 := (hz.cell (p := ⟨bL, oL + kx * 13, none⟩) hbl8).trans C1.out; go_simp <;> with_reducible rfl)
            simp only [List.setIfInBounds_toArray, List.set_cons_zero, List.set_cons_succ]
            refine takeH (i := 32) (d := 120) (v := ?vsc32) rfl (by kernel_rfl) (by kernel_rfl) (by kernel_rfl) (fun _ _ _ h => h) rfl (by rfl) ?ysc32 hS ?rsc32
            case ysc32 => (intro wz hz; have p1 : wz.cell? ⟨b3, 1, none⟩ = some (.slice (some ⟨bL, oL, none⟩) n c) := (A3.out.under hz A3.out.lt).cell 1; have q0 := (hz.cell (p := ⟨bL, oL + k * 13, none⟩) hbl8).trans C0.out; have q1 := (hz.cell (p := ⟨bL, oL + kx * 13, none⟩) hbl8).trans C1.out; go_simp <;> with_reducible rfl)
            simp only [List.setIfInBounds_toArray, List.set_cons_zero, List.set_cons_succ]
            refine takeH (i := 33) (d := 121) (v := ?vsc33) rfl (by kernel_rfl) (by kernel_rfl) (by kernel_rfl) (fun _ _ _ h => h) rfl (by rfl) ?ysc33 hS ?rsc33
            case ysc33 => (intro wz hz; have p1 : wz.cell? ⟨b3, 1, none⟩ = some (.slice (some ⟨bL, oL, none⟩) n c) := (A3.out.under hz A3.out.lt).cell 1; have q0 := (hz.cell (p := ⟨bL, oL + k * 13, none⟩) hbl8).trans C0.out; have q1 := (hz.cell (p := ⟨bL, oL + kx * 13, none⟩) hbl8).trans C1.out; go_simp <;> with_reducible rfl)
            simp only [List.setIfInBounds_toArray, List.set_cons_zero, List.set_cons_succ]
            refine takeH (i := 34) (d := 122) (v := ?vsc34) rfl (by kernel_rfl) (by kernel_rfl) (by kernel_rfl) (fun _ _ _ h => h) rfl (by rfl) ?ysc34 hS ?rsc34
            case ysc34 => (intro wz hz; have p1 : wz.cell? ⟨b3, 1, none⟩ = some (.slice (some ⟨bL, oL, none⟩) n c) := (A3.out.under hz A3.out.lt).cell 1; have q0 := (hz.cell (p := ⟨bL, oL + k * 13, none⟩) hbl8).trans C0.out; have q1 := (hz.cell (p := ⟨bL, oL + kx * 13, none⟩) hbl8).trans C1.out; go_simp <;> with_reducible rfl)
            simp only [List.setIfInBounds_toArray, List.set_cons_zero, List.set_cons_succ]
            refine takeH (i := 35) (d := 123) (v := ?vsc35) rfl (by kernel_rfl) (by kernel_rfl) (by kernel_rfl) (fun _ _ _ h => h) rfl (by rfl) ?ysc35 hS ?rsc35
            case ysc35 => (intro wz hz; have p1 : wz.cell? ⟨b3, 1, none⟩ = some (.slice (some ⟨bL, oL, none⟩) n c) := (A3.out.under hz A3.out.lt).cell 1; have q0 := (hz.cell (p := ⟨bL, oL + k * 13, none⟩) hbl8).trans C0.out; have q1 := (hz.cell (p := ⟨bL, oL + kx * 13, none⟩) hbl8).trans C1.out; go_simp <;> with_reducible rfl)
            simp only [List.setIfInBounds_toArray, List.set_cons_zero, List.set_cons_succ]
            refine takeH (i := 36) (d := 124) (v := ?vsc36) rfl (by kernel_rfl) (by kernel_rfl) (by kernel_rfl) (fun _ _ _ h => h) rfl (by rfl) ?ysc36 hS ?rsc36
            case ysc36 => (intro wz hz; have p1 : wz.cell? ⟨b3, 1, none⟩ = some (.slice (some ⟨bL, oL, none⟩) n c) := (A3.out.under hz A3.out.lt).cell 1; have q0 := (hz.cell (p := ⟨bL, oL + k * 13, none⟩) hbl8).trans C0.out; have q1 := (hz.cell (p := ⟨bL, oL + kx * 13, none⟩) hbl8).trans C1.out; go_simp <;> with_reducible rfl)
            simp only [List.setIfInBounds_toArray, List.set_cons_zero, List.set_cons_succ]
            refine takeH (i := 37) (d := 125) (v := ?vsc37) rfl (by kernel_rfl) (by kernel_rfl) (by kernel_rfl) (fun _ _ _ h => h) rfl (by rfl) ?ysc37 hS ?rsc37
            case ysc37 => (intro wz hz; have p1 : wz.cell? ⟨b3, 1, none⟩ = some (.slice (some ⟨bL, oL, none⟩) n c) := (A3.out.under hz A3.out.lt).cell 1; have q0 := (hz.cell (p := ⟨bL, oL + k * 13, none⟩) hbl8).trans C0.out; have q1 := (hz.cell (p := ⟨bL, oL + kx * 13, none⟩) hbl8).trans C1.out; go_simp <;> with_reducible rfl)
            simp only [List.setIfInBounds_toArray, List.set_cons_zero, List.set_cons_succ]
            refine takeH (i := 38) (d := 126) (v := ?vsc38) rfl (by kernel_rfl) (by kernel_rfl) (by kernel_rfl) (fun _ _ _ h => h) rfl (by rfl) ?ysc38 hS ?rsc38
            case ysc38 => (intro wz hz; have p1 : wz.cell? ⟨b3, 1, none⟩ = some (.slice (some ⟨bL, oL, none⟩) n c) := (A3.out.under hz A3.out.lt).cell 1; have q0 := (hz.cell (p := ⟨bL, oL + k * 13, none⟩) hbl8).trans C0.out; have q1 := (hz.cell (p := ⟨bL, oL + kx * 13, none⟩) hbl8).trans C1.out; go_simp <;> with_reducible rfl)
            simp only [List.setIfInBounds_toArray, List.set_cons_zero, List.set_cons_succ]
            refine wpAnyH_done (by kernel_rfl) ?_ _
            go_wp2_with fail
            have HF := Lib.hid (HB8.out.trans (hS.mono HB8.out.size))
            exact ⟨⟨kx, by omega, rfl, HF⟩, by simp [intOf]; omega⟩
          · have LY : Hid (rs[k + 1].e.lsn = l1) := by
              show rs[k + 1].e.lsn = l1
              rw [HL2.out]
              have := of_decide_eq_true hq
              omega
            go_wp2_with fail
            refine (find_yes X B y7 g gd base size rs fo ws vE vW (LG.out.below HB7.out) (by omega) HPN.out RIS.out (k + 1) (by omega) l1 LY.out).mono ?_
            rintro e w8 ⟨r8, _, _, _, rfl, _, hb8⟩
            have HB8 := Lib.hid (HB7.out.trans ((hb8.mono HB7.out.size).alloc (Nat.le_trans HB7.out.size hb8.size) (.cells (erA r8) 42)))
            have A6 := Lib.hid ((A6.out.under hb8 A6.out.lt).alloc (.cells (erA r8) 42))
            have EL6 := Lib.hid ((EL6.out.below hb8).below ((Below.refl _ w8).alloc (Nat.le_refl _) (.cells (erA r8) 42)))
            go_upto_region 8 with (refine wpList_store_new 42 (.tmp 8) (.tmp 86) rfl rfl rfl _ w8 rfl rfl (erA r8) zE 13 rfl strE rfl rfl (erA_one _) rfl ?_)
            clear hb8
            generalize w8.alloc (.cells (erA r8) 42) = y8 at HB8 A6 EL6 ⊢
            generalize w8.heap.size = b8
            have A3 := Lib.hid (BX.out.under HB8.out BX.out.lt)
            have TS8 := TS.out.below HB8.out
            have EL8 := Lib.hid (TS8.els t (by rw [← HT.out]; exact List.getElem_mem _))
            have R8 := Lib.hid (range_below R1.out HB8.out hbl1)
            have C0 := Lib.hid ((HB8.out.cell (p := ⟨bL, oL + k * 13, none⟩) hbl1).trans Z0.out)
            have hbl8 : bL < y8.heap.size := Nat.lt_of_lt_of_le hbl1 HB8.out.size
            have SS : Hid (∀ W, Below y8.heap.size y8 W → Calls Tryd.prog 40 #[.agg (erA r6), .agg (erA t)] W (RetQ W true)) := fun W hW => by
              have := refSame_any r6.e t.e r6.PA r6.QA t.PA t.QA r6.np r6.pc r6.na r6.qc t.np t.pc t.na t.qc W (EL6.out.below hW).el (EL8.out.below hW).el (by omega) (by omega) (by omega) (by omega)
              rw [show sameE r6.e t.e = true by rw [HR6.out]; exact sameE_refl _] at this
              exact this
            clear TS8
            have C1 := Lib.hid ((HB8.out.cell (p := ⟨bL, oL + kx * 13, none⟩) hbl1).trans Z1.out)
            refine wp_region_held_drew (S := Below y8.heap.size y8) (by kernel_rfl) ((Below.refl _ y8).drew) (fun hS => ?_)
            refine takeH (i := 0) (d := 88) (v := ?vsd0) rfl (by kernel_rfl) (by kernel_rfl) (by kernel_rfl) (fun _ _ _ h => h) rfl (by rfl) ?ysd0 hS ?rsd0
            case ysd0 => (intro wz hz; have p1 : wz.cell? ⟨b3, 1, none⟩ = some (.slice (some ⟨bL, oL, none⟩) n c) := (A3.out.under hz A3.out.lt).cell 1; have q0 := (hz.cell (p := ⟨bL, oL + k * 13, none⟩) hbl8).trans C0.out; have q1 := (hz.cell (p := ⟨bL, oL + kx * 13, none⟩) hbl8).trans C1.out; go_simp <;> with_reducible rfl)
            simp only [List.setIfInBounds_toArray, List.set_cons_zero, List.set_cons_succ]
            refine takeH (i := 1) (d := 89) (v := ?vsd1) rfl (by kernel_rfl) (by kernel_rfl) (by kernel_rfl) (fun _ _ _ h => h) rfl (by rfl) ?ysd1 hS ?rsd1
            case ysd1 => (intro wz hz; have p1 : wz.cell? ⟨b3, 1, none⟩ = some (.slice (some ⟨bL, oL, none⟩) n c) := (A3.out.under hz A3.out.lt).cell 1; have q0 := (hz.cell (p := ⟨bL, oL + k * 13, none⟩) hbl8).trans C0.out; have q1 := (hz.cell (p := ⟨bL, oL + kx * 13, none⟩) hbl8).trans C1.out; go_simp <;> with_reducible rfl)
            simp only [List.setIfInBounds_toArray, List.set_cons_zero, List.set_cons_succ]
            refine takeH (i := 2) (d := 90) (v := ?vsd2) rfl (by kernel_rfl) (by kernel_rfl) (by kernel_rfl) (fun _ _ _ h => h) rfl (by rfl) ?ysd2 hS ?rsd2
            case ysd2 => (intro wz hz; have p1 : wz.cell? ⟨b3, 1, none⟩ = some (.slice (some ⟨bL, oL, none⟩) n c) := (A3.out.under hz A3.out.lt).cell 1; have q0 := (hz.cell (p := ⟨bL, oL + k * 13, none⟩) hbl8).trans C0.out; have q1 := (hz.cell (p := ⟨bL, oL + kx * 13, none⟩) hbl8).trans C1.out; go_simp <;> with_reducible rfl)
            simp only [List.setIfInBounds_toArray, List.set_cons_zero, List.set_cons_succ]
            refine takeH (i := 3) (d := 91) (v := .agg (erA r6)) rfl (by kernel_rfl) (by kernel_rfl) (by kernel_rfl) (fun _ _ _ h => h) rfl (by rfl) ?ysd3 hS ?rsd3
            case ysd3 => (intro wz hz; have p1 : wz.cell? ⟨b3, 1, none⟩ = some (.slice (some ⟨bL, oL, none⟩) n c) := (A3.out.under hz A3.out.lt).cell 1; have q0 := (hz.cell (p := ⟨bL, oL + k * 13, none⟩) hbl8).trans C0.out; have q1 := (hz.cell (p := ⟨bL, oL + kx * 13, none⟩) hbl8).trans C1.out; exact exec_load_at 42 (.tmp 6) rfl b6 rfl _ 13 strE rfl (A6.out.under hz A6.out.lt))
            simp only [List.setIfInBounds_toArray, List.set_cons_zero, List.set_cons_succ]
            refine takeH (i := 4) (d := 92) (v := ?vsd4) rfl (by kernel_rfl) (by kernel_rfl) (by kernel_rfl) (fun _ _ _ h => h) rfl (by rfl) ?ysd4 hS ?rsd4
            case ysd4 => (intro wz hz; have p1 : wz.cell? ⟨b3, 1, none⟩ = some (.slice (some ⟨bL, oL, none⟩) n c) := (A3.out.under hz A3.out.lt).cell 1; have q0 := (hz.cell (p := ⟨bL, oL + k * 13, none⟩) hbl8).trans C0.out; have q1 := (hz.cell (p := ⟨bL, oL + kx * 13, none⟩) hbl8).trans C1.out; go_simp <;> with_reducible rfl)
            simp only [List.setIfInBounds_toArray, List.set_cons_zero, List.set_cons_succ]
            refine takeH (i := 5) (d := 93) (v := ?vsd5) rfl (by kernel_rfl) (by kernel_rfl) (by kernel_rfl) (fun _ _ _ h => h) rfl (by rfl) ?ysd5 hS ?rsd5
            case ysd5 => (intro wz hz; have p1 : wz.cell? ⟨b3, 1, none⟩ = some (.slice (some ⟨bL, oL, none⟩) n c) := (A3.out.under hz A3.out.lt).cell 1; have q0 := (hz.cell (p := ⟨bL, oL + k * 13, none⟩) hbl8).trans C0.out; have q1 := (hz.cell (p := ⟨bL, oL + kx * 13, none⟩) hbl8).trans C1.out; go_simp <;> with_reducible rfl)
            simp only [List.setIfInBounds_toArray, List.set_cons_zero, List.set_cons_succ]
            refine takeH (i := 6) (d := 94) (v := ?vsd6) rfl (by kernel_rfl) (by kernel_rfl) (by kernel_rfl) (fun _ _ _ h => h) rfl (by rfl) ?ysd6 hS ?rsd6
            case ysd6 => (intro wz hz; have p1 : wz.cell? ⟨b3, 1, none⟩ = some (.slice (some ⟨bL, oL, none⟩) n c) := (A3.out.under hz A3.out.lt).cell 1; have q0 := (hz.cell (p := ⟨bL, oL + k * 13, none⟩) hbl8).trans C0.out; have q1 := (hz.cell (p := ⟨bL, oL + kx * 13, none⟩) hbl8).trans C1.out; go_simp <;> with_reducible rfl)
            simp only [List.setIfInBounds_toArray, List.set_cons_zero, List.set_cons_succ]
            refine takeH (i := 7) (d := 95) (v := ?vsd7) rfl (by kernel_rfl) (by kernel_rfl) (by kernel_rfl) (fun _ _ _ h => h) rfl (by rfl) ?ysd7 hS ?rsd7
            case ysd7 => (intro wz hz; have p1 : wz.cell? ⟨b3, 1, none⟩ = some (.slice (some ⟨bL, oL, none⟩) n c) := (A3.out.under hz A3.out.lt).cell 1; have q0 := (hz.cell (p := ⟨bL, oL + k * 13, none⟩) hbl8).trans C0.out; have q1 := (hz.cell (p := ⟨bL, oL + kx * 13, none⟩) hbl8).trans C1.out; go_simp <;> with_reducible rfl)
            simp only [List.setIfInBounds_toArray, List.set_cons_zero, List.set_cons_succ]
            refine takeH (i := 8) (d := 96) (v := .agg (erA t)) rfl (by kernel_rfl) (by kernel_rfl) (by kernel_rfl) (fun _ _ _ h => h) rfl (by rfl) ?ysd8 hS ?rsd8
            case ysd8 => (intro wz hz; have p1 : wz.cell? ⟨b3, 1, none⟩ = some (.slice (some ⟨bL, oL, none⟩) n c) := (A3.out.under hz A3.out.lt).cell 1; have q0 := (hz.cell (p := ⟨bL, oL + k * 13, none⟩) hbl8).trans C0.out; have q1 := (hz.cell (p := ⟨bL, oL + kx * 13, none⟩) hbl8).trans C1.out; exact exec_load_er (.tmp 95) rfl bL (oL + k * 13) rfl t (range_below R8.out hz hbl8))
            simp only [List.setIfInBounds_toArray, List.set_cons_zero, List.set_cons_succ]
            refine wpAnyH_ready (rs := [9]) (by kernel_rfl) (by simp) ?_
            refine AllReadyH.cons rfl (fun K hK => ?_) AllReadyH.nil
            go_simp
            refine (SS.out _ hS).mono ?_
            rintro e y9 ⟨rfl, hb9⟩
            have hb : True := trivial
            have B9 := Lib.hid (hS.trans (hb9.mono hS.size))
            clear hb9
            refine hK.out _ _ (B9.out) (fun hT => ?_)
            clear hK hb hS
            have hS := hT
            clear hT
            refine takeH (i := 10) (d := 98) (v := ?vsd10) rfl (by kernel_rfl) (by kernel_rfl) (by kernel_rfl) (fun _ _ _ h => h) rfl (by rfl) ?ysd10 hS ?rsd10
            case ysd10 => (intro wz hz; have p1 : wz.cell? ⟨b3, 1, none⟩ = some (.slice (some ⟨bL, oL, none⟩) n c) := (A3.out.under hz A3.out.lt).cell 1; have q0 := (hz.cell (p := ⟨bL, oL + k * 13, none⟩) hbl8).trans C0.out; have q1 := (hz.cell (p := ⟨bL, oL + kx * 13, none⟩) hbl8).trans C1.out; go_simp <;> with_reducible rfl)
            simp only [List.setIfInBounds_toArray, List.set_cons_zero, List.set_cons_succ]
            refine takeH (i := 11) (d := 99) (v := ?vsd11) rfl (by kernel_rfl) (by kernel_rfl) (by kernel_rfl) (fun _ _ _ h => h) rfl (by rfl) ?ysd11 hS ?rsd11
            case ysd11 => (intro wz hz; have p1 : wz.cell? ⟨b3, 1, none⟩ = some (.slice (some ⟨bL, oL, none⟩) n c) := (A3.out.under hz A3.out.lt).cell 1; have q0 := (hz.cell (p := ⟨bL, oL + k * 13, none⟩) hbl8).trans C0.out; have q1 := (hz.cell (p := ⟨bL, oL + kx * 13, none⟩) hbl8).trans C1.out; go_simp <;> with_reducible rfl)
            simp only [List.setIfInBounds_toArray, List.set_cons_zero, List.set_cons_succ]
            refine takeH (i := 12) (d := 100) (v := ?vsd12) rfl (by kernel_rfl) (by kernel_rfl) (by kernel_rfl) (fun _ _ _ h => h) rfl (by rfl) ?ysd12 hS ?rsd12
            case ysd12 => (intro wz hz; have p1 : wz.cell? ⟨b3, 1, none⟩ = some (.slice (some ⟨bL, oL, none⟩) n c) := (A3.out.under hz A3.out.lt).cell 1; have q0 := (hz.cell (p := ⟨bL, oL + k * 13, none⟩) hbl8).trans C0.out; have q1 := (hz.cell (p := ⟨bL, oL + kx * 13, none⟩) hbl8).trans C1.out; go_simp <;> with_reducible rfl)
            simp only [List.setIfInBounds_toArray, List.set_cons_zero, List.set_cons_succ]
            refine takeH (i := 13) (d := 101) (v := ?vsd13) rfl (by kernel_rfl) (by kernel_rfl) (by kernel_rfl) (fun _ _ _ h => h) rfl (by rfl) ?ysd13 hS ?rsd13
            case ysd13 => (intro wz hz; have p1 : wz.cell? ⟨b3, 1, none⟩ = some (.slice (some ⟨bL, oL, none⟩) n c) := (A3.out.under hz A3.out.lt).cell 1; have q0 := (hz.cell (p := ⟨bL, oL + k * 13, none⟩) hbl8).trans C0.out; have q1 := (hz.cell (p := ⟨bL, oL + kx * 13, none⟩) hbl8).trans C1.out; go_simp <;> with_reducible rfl)
            simp only [List.setIfInBounds_toArray, List.set_cons_zero, List.set_cons_succ]
            refine takeH (i := 14) (d := 102) (v := ?vsd14) rfl (by kernel_rfl) (by kernel_rfl) (by kernel_rfl) (fun _ _ _ h => h) rfl (by rfl) ?ysd14 hS ?rsd14
            case ysd14 => (intro wz hz; have p1 : wz.cell? ⟨b3, 1, none⟩ = some (.slice (some ⟨bL, oL, none⟩) n c) := (A3.out.under hz A3.out.lt).cell 1; have q0 := (hz.cell (p := ⟨bL, oL + k * 13, none⟩) hbl8).trans C0.out; have q1 := (hz.cell (p := ⟨bL, oL + kx * 13, none⟩) hbl8).trans C1.out; go_simp <;> with_reducible rfl)
            simp only [List.setIfInBounds_toArray, List.set_cons_zero, List.set_cons_succ]
            refine takeH (i := 15) (d := 103) (v := ?vsd15) rfl (by kernel_rfl) (by kernel_rfl) (by kernel_rfl) (fun _ _ _ h => h) rfl (by rfl) ?ysd15 hS ?rsd15
            case ysd15 => (intro wz hz; have p1 : wz.cell? ⟨b3, 1, none⟩ = some (.slice (some ⟨bL, oL, none⟩) n c) := (A3.out.under hz A3.out.lt).cell 1; have q0 := (hz.cell (p := ⟨bL, oL + k * 13, none⟩) hbl8).trans C0.out; have q1 := (hz.cell (p := ⟨bL, oL + kx * 13, none⟩) hbl8).trans C1.out; go_simp <;> with_reducible rfl)
            simp only [List.setIfInBounds_toArray, List.set_cons_zero, List.set_cons_succ]
            refine takeH (i := 16) (d := 104) (v := ?vsd16) rfl (by kernel_rfl) (by kernel_rfl) (by kernel_rfl) (fun _ _ _ h => h) rfl (by rfl) ?ysd16 hS ?rsd16
            case ysd16 => (intro wz hz; have p1 : wz.cell? ⟨b3, 1, none⟩ = some (.slice (some ⟨bL, oL, none⟩) n c) := (A3.out.under hz A3.out.lt).cell 1; have q0 := (hz.cell (p := ⟨bL, oL + k * 13, none⟩) hbl8).trans C0.out; have q1 := (hz.cell (p := ⟨bL, oL + kx * 13, none⟩) hbl8).trans C1.out; go_simp <;> with_reducible rfl)
            simp only [List.setIfInBounds_toArray, List.set_cons_zero, List.set_cons_succ]
            refine takeH (i := 17) (d := 105) (v := ?vsd17) rfl (by kernel_rfl) (by kernel_rfl) (by kernel_rfl) (fun _ _ _ h => h) rfl (by rfl) ?ysd17 hS ?rsd17
            case ysd17 => (intro wz hz; have p1 : wz.cell? ⟨b3, 1, none⟩ = some (.slice (some ⟨bL, oL, none⟩) n c) := (A3.out.under hz A3.out.lt).cell 1; have q0 := (hz.cell (p := ⟨bL, oL + k * 13, none⟩) hbl8).trans C0.out; have q1 := (hz.cell (p := ⟨bL, oL + kx * 13, none⟩) hbl8).trans C1.out; go_simp <;> with_reducible rfl)
            simp only [List.setIfInBounds_toArray, List.set_cons_zero, List.set_cons_succ]
            refine takeH (i := 18) (d := 106) (v := ?vsd18) rfl (by kernel_rfl) (by kernel_rfl) (by kernel_rfl) (fun _ _ _ h => h) rfl (by rfl) ?ysd18 hS ?rsd18
            case ysd18 => (intro wz hz; have p1 : wz.cell? ⟨b3, 1, none⟩ = some (.slice (some ⟨bL, oL, none⟩) n c) := (A3.out.under hz A3.out.lt).cell 1; have q0 := (hz.cell (p := ⟨bL, oL + k * 13, none⟩) hbl8).trans C0.out; have q1 := (hz.cell (p := ⟨bL, oL + kx * 13, none⟩) hbl8).trans C1.out; go_simp <;> with_reducible rfl)
            simp only [List.setIfInBounds_toArray, List.set_cons_zero, List.set_cons_succ]
            refine takeH (i := 19) (d := 107) (v := ?vsd19) rfl (by kernel_rfl) (by kernel_rfl) (by kernel_rfl) (fun _ _ _ h => h) rfl (by rfl) ?ysd19 hS ?rsd19
            case ysd19 => (intro wz hz; have p1 : wz.cell? ⟨b3, 1, none⟩ = some (.slice (some ⟨bL, oL, none⟩) n c) := (A3.out.under hz A3.out.lt).cell 1; have q0 := (hz.cell (p := ⟨bL, oL + k * 13, none⟩) hbl8).trans C0.out; have q1 := (hz.cell (p := ⟨bL, oL + kx * 13, none⟩) hbl8).trans C1.out; go_simp <;> with_reducible rfl)
            simp only [List.setIfInBounds_toArray, List.set_cons_zero, List.set_cons_succ]
            refine takeH (i := 20) (d := 108) (v := ?vsd20) rfl (by kernel_rfl) (by kernel_rfl) (by kernel_rfl) (fun _ _ _ h => h) rfl (by rfl) ?ysd20 hS ?rsd20
            case ysd20 => (intro wz hz; have p1 : wz.cell? ⟨b3, 1, none⟩ = some (.slice (some ⟨bL, oL, none⟩) n c) := (A3.out.under hz A3.out.lt).cell 1; have q0 := (hz.cell (p := ⟨bL, oL + k * 13, none⟩) hbl8).trans C0.out; have q1 := (hz.cell (p := ⟨bL, oL + kx * 13, none⟩) hbl8).trans C1.out; go_simp <;> with_reducible rfl)
            simp only [List.setIfInBounds_toArray, List.set_cons_zero, List.set_cons_succ]
            refine takeH (i := 21) (d := 109) (v := ?vsd21) rfl (by kernel_rfl) (by kernel_rfl) (by kernel_rfl) (fun _ _ _ h => h) rfl (by rfl) ?ysd21 hS ?rsd21
            case ysd21 => (intro wz hz; have p1 : wz.cell? ⟨b3, 1, none⟩ = some (.slice (some ⟨bL, oL, none⟩) n c) := (A3.out.under hz A3.out.lt).cell 1; have q0 := (hz.cell (p := ⟨bL, oL + k * 13, none⟩) hbl8).trans C0.out; have q1 := (hz.cell (p := ⟨bL, oL + kx * 13, none⟩) hbl8).trans C1.out; go_simp <;> with_reducible rfl)
            simp only [List.setIfInBounds_toArray, List.set_cons_zero, List.set_cons_succ]
            refine takeH (i := 22) (d := 110) (v := ?vsd22) rfl (by kernel_rfl) (by kernel_rfl) (by kernel_rfl) (fun _ _ _ h => h) rfl (by rfl) ?ysd22 hS ?rsd22
            case ysd22 => (intro wz hz; have p1 : wz.cell? ⟨b3, 1, none⟩ = some (.slice (some ⟨bL, oL, none⟩) n c) := (A3.out.under hz A3.out.lt).cell 1; have q0 := (hz.cell (p := ⟨bL, oL + k * 13, none⟩) hbl8).trans C0.out; have q1 := (hz.cell (p := ⟨bL, oL + kx * 13, none⟩) hbl8).trans C1.out; go_simp <;> with_reducible rfl)
            simp only [List.setIfInBounds_toArray, List.set_cons_zero, List.set_cons_succ]
            refine takeH (i := 23) (d := 111) (v := ?vsd23) rfl (by kernel_rfl) (by kernel_rfl) (by kernel_rfl) (fun _ _ _ h => h) rfl (by rfl) ?ysd23 hS ?rsd23
            case ysd23 => (intro wz hz; have p1 : wz.cell? ⟨b3, 1, none⟩ = some (.slice (some ⟨bL, oL, none⟩) n c) := (A3.out.under hz A3.out.lt).cell 1; have q0 := (hz.cell (p := ⟨bL, oL + k * 13, none⟩) hbl8).trans C0.out; have q1 := (hz.cell (p := ⟨bL, oL + kx * 13, none⟩) hbl8).trans C1.out; go_simp <;> with_reducible rfl)
            simp only [List.setIfInBounds_toArray, List.set_cons_zero, List.set_cons_succ]
            refine takeH (i := 24) (d := 112) (v := ?vsd24) rfl (by kernel_rfl) (by kernel_rfl) (by kernel_rfl) (fun _ _ _ h => h) rfl (by rfl) ?ysd24 hS ?rsd24
            case ysd24 => (intro wz hz; have p1 : wz.cell? ⟨b3, 1, none⟩ = some (.slice (some ⟨bL, oL, none⟩) n c) := (A3.out.under hz A3.out.lt).cell 1; have q0 := (hz.cell (p := ⟨bL, oL + k * 13, none⟩) hbl8).trans C0.out; have q1 := (hz.cell (p := ⟨bL, oL + kx * 13, none⟩) hbl8).trans C1.out; go_simp <;> with_reducible rfl)
            simp only [List.setIfInBounds_toArray, List.set_cons_zero, List.set_cons_succ]
            refine takeH (i := 25) (d := 113) (v := ?vsd25) rfl (by kernel_rfl) (by kernel_rfl) (by kernel_rfl) (fun _ _ _ h => h) rfl (by rfl) ?ysd25 hS ?rsd25
            case ysd25 => (intro wz hz; have p1 : wz.cell? ⟨b3, 1, none⟩ = some (.slice (some ⟨bL, oL, none⟩) n c) := (A3.out.under hz A3.out.lt).cell 1; have q0 := (hz.cell (p := ⟨bL, oL + k * 13, none⟩) hbl8).trans C0.out; have q1 := (hz.cell (p := ⟨bL, oL + kx * 13, none⟩) hbl8).trans C1.out; go_simp <;> with_reducible rfl)
            simp only [List.setIfInBounds_toArray, List.set_cons_zero, List.set_cons_succ]
            refine takeH (i := 26) (d := 114) (v := ?vsd26) rfl (by kernel_rfl) (by kernel_rfl) (by kernel_rfl) (fun _ _ _ h => h) rfl (by rfl) ?ysd26 hS ?rsd26
            case ysd26 => (intro wz hz; have p1 : wz.cell? ⟨b3, 1, none⟩ = some (.slice (some ⟨bL, oL, none⟩) n c) := (A3.out.under hz A3.out.lt).cell 1; have q0 := (hz.cell (p := ⟨bL, oL + k * 13, none⟩) hbl8).trans C0.out; have q1 := (hz.cell (p := ⟨bL, oL + kx * 13, none⟩) hbl8).trans C1.out; go_simp <;> with_reducible rfl)
            simp only [List.setIfInBounds_toArray, List.set_cons_zero, List.set_cons_succ]
            refine takeH (i := 27) (d := 115) (v := ?vsd27) rfl (by kernel_rfl) (by kernel_rfl) (by kernel_rfl) (fun _ _ _ h => h) rfl (by rfl) ?ysd27 hS ?rsd27
            case ysd27 => (intro wz hz; have p1 : wz.cell? ⟨b3, 1, none⟩ = some (.slice (some ⟨bL, oL, none⟩) n c) := (A3.out.under hz A3.out.lt).cell 1; have q0 := (hz.cell (p := ⟨bL, oL + k * 13, none⟩) hbl8).trans C0.out; have q1 := (hz.cell (p := ⟨bL, oL + kx * 13, none⟩) hbl8).trans C1.out; go_simp <;> with_reducible rfl)
            simp only [List.setIfInBounds_toArray, List.set_cons_zero, List.set_cons_succ]
            refine takeH (i := 28) (d := 116) (v := ?vsd28) rfl (by kernel_rfl) (by kernel_rfl) (by kernel_rfl) (fun _ _ _ h => h) rfl (by rfl) ?ysd28 hS ?rsd28
            case ysd28 => (intro wz hz; have p1 : wz.cell? ⟨b3, 1, none⟩ = some (.slice (some ⟨bL, oL, none⟩) n c) := (A3.out.under hz A3.out.lt).cell 1; have q0 := (hz.cell (p := ⟨bL, oL + k * 13, none⟩) hbl8).trans C0.out; have q1 := (hz.cell (p := ⟨bL, oL + kx * 13, none⟩) hbl8).trans C1.out; go_simp <;> with_reducible rfl)
            simp only [List.setIfInBounds_toArray, List.set_cons_zero, List.set_cons_succ]
            refine takeH (i := 29) (d := 117) (v := ?vsd29) rfl (by kernel_rfl) (by kernel_rfl) (by kernel_rfl) (fun _ _ _ h => h) rfl (by rfl) ?ysd29 hS ?rsd29
            case ysd29 => (intro wz hz; have p1 : wz.cell? ⟨b3, 1, none⟩ = some (.slice (some ⟨bL, oL, none⟩) n c) := (A3.out.under hz A3.out.lt).cell 1; have q0 := (hz.cell (p := ⟨bL, oL + k * 13, none⟩) hbl8).trans C0.out; have q1 := (hz.cell (p := ⟨bL, oL + kx * 13, none⟩) hbl8).trans C1.out; go_simp <;> with_reducible rfl)
            simp only [List.setIfInBounds_toArray, List.set_cons_zero, List.set_cons_succ]
            refine takeH (i := 30) (d := 118) (v := ?vsd30) rfl (by kernel_rfl) (by kernel_rfl) (by kernel_rfl) (fun _ _ _ h => h) rfl (by rfl) ?ysd30 hS ?rsd30
            case ysd30 => (intro wz hz; have p1 : wz.cell? ⟨b3, 1, none⟩ = some (.slice (some ⟨bL, oL, none⟩) n c) := (A3.out.under hz A3.out.lt).cell 1; have q0 := (hz.cell (p := ⟨bL, oL + k * 13, none⟩) hbl8).trans C0.out; have q1 := (hz.cell (p := ⟨bL, oL + kx * 13, none⟩) hbl8).trans C1.out; go_simp <;> with_reducible rfl)
            simp only [List.setIfInBounds_toArray, List.set_cons_zero, List.set_cons_succ]
            refine takeH (i := 31) (d := 119) (v := ?vsd31) rfl (by kernel_rfl) (by kernel_rfl) (by kernel_rfl) (fun _ _ _ h => h) rfl (by rfl) ?ysd31 hS ?rsd31
            case ysd31 => (intro wz hz; have p1 : wz.cell? ⟨b3, 1, none⟩ = some (.slice (some ⟨bL, oL, none⟩) n c) := (A3.out.under hz A3.out.lt).cell 1; have q0 := (hz.cell (p := ⟨bL, oL + k * 13, none⟩) hbl8).trans C0.out; have q1 := (hz.cell (p := ⟨bL, oL + kx * 13, none⟩) hbl8).trans C1.out; go_simp <;> with_reducible rfl)
            simp only [List.setIfInBounds_toArray, List.set_cons_zero, List.set_cons_succ]
            refine takeH (i := 32) (d := 120) (v := ?vsd32) rfl (by kernel_rfl) (by kernel_rfl) (by kernel_rfl) (fun _ _ _ h => h) rfl (by rfl) ?ysd32 hS ?rsd32
            case ysd32 => (intro wz hz; have p1 : wz.cell? ⟨b3, 1, none⟩ = some (.slice (some ⟨bL, oL, none⟩) n c) := (A3.out.under hz A3.out.lt).cell 1; have q0 := (hz.cell (p := ⟨bL, oL + k * 13, none⟩) hbl8).trans C0.out; have q1 := (hz.cell (p := ⟨bL, oL + kx * 13, none⟩) hbl8).trans C1.out; go_simp <;> with_reducible rfl)
            simp only [List.setIfInBounds_toArray, List.set_cons_zero, List.set_cons_succ]
            refine takeH (i := 33) (d := 121) (v := ?vsd33) rfl (by kernel_rfl) (by kernel_rfl) (by kernel_rfl) (fun _ _ _ h => h) rfl (by rfl) ?ysd33 hS ?rsd33
            case ysd33 => (intro wz hz; have p1 : wz.cell? ⟨b3, 1, none⟩ = some (.slice (some ⟨bL, oL, none⟩) n c) := (A3.out.under hz A3.out.lt).cell 1; have q0 := (hz.cell (p := ⟨bL, oL + k * 13, none⟩) hbl8).trans C0.out; have q1 := (hz.cell (p := ⟨bL, oL + kx * 13, none⟩) hbl8).trans C1.out; go_simp <;> with_reducible rfl)
            simp only [List.setIfInBounds_toArray, List.set_cons_zero, List.set_cons_succ]
            refine takeH (i := 34) (d := 122) (v := ?vsd34) rfl (by kernel_rfl) (by kernel_rfl) (by kernel_rfl) (fun _ _ _ h => h) rfl (by rfl) ?ysd34 hS ?rsd34
            case ysd34 => (intro wz hz; have p1 : wz.cell? ⟨b3, 1, none⟩ = some (.slice (some ⟨bL, oL, none⟩) n c) := (A3.out.under hz A3.out.lt).cell 1; have q0 := (hz.cell (p := ⟨bL, oL + k * 13, none⟩) hbl8).trans C0.out; have q1 := (hz.cell (p := ⟨bL, oL + kx * 13, none⟩) hbl8).trans C1.out; go_simp <;> with_reducible rfl)
            simp only [List.setIfInBounds_toArray, List.set_cons_zero, List.set_cons_succ]
            refine takeH (i := 35) (d := 123) (v := ?vsd35) rfl (by kernel_rfl) (by kernel_rfl) (by kernel_rfl) (fun _ _ _ h => h) rfl (by rfl) ?ysd35 hS ?rsd35
            case ysd35 => (intro wz hz; have p1 : wz.cell? ⟨b3, 1, none⟩ = some (.slice (some ⟨bL, oL, none⟩) n c) := (A3.out.under hz A3.out.lt).cell 1; have q0 := (hz.cell (p := ⟨bL, oL + k * 13, none⟩) hbl8).trans C0.out; have q1 := (hz.cell (p := ⟨bL, oL + kx * 13, none⟩) hbl8).trans C1.out; go_simp <;> with_reducible rfl)
            simp only [List.setIfInBounds_toArray, List.set_cons_zero, List.set_cons_succ]
            refine takeH (i := 36) (d := 124) (v := ?vsd36) rfl (by kernel_rfl) (by kernel_rfl) (by kernel_rfl) (fun _ _ _ h => h) rfl (by rfl) ?ysd36 hS ?rsd36
            case ysd36 => (intro wz hz; have p1 : wz.cell? ⟨b3, 1, none⟩ = some (.slice (some ⟨bL, oL, none⟩) n c) := (A3.out.under hz A3.out.lt).cell 1; have q0 := (hz.cell (p := ⟨bL, oL + k * 13, none⟩) hbl8).trans C0.out; have q1 := (hz.cell (p := ⟨bL, oL + kx * 13, none⟩) hbl8).trans C1.out; go_simp <;> with_reducible rfl)
            simp only [List.setIfInBounds_toArray, List.set_cons_zero, List.set_cons_succ]
            refine takeH (i := 37) (d := 125) (v := ?vsd37) rfl (by kernel_rfl) (by kernel_rfl) (by kernel_rfl) (fun _ _ _ h => h) rfl (by rfl) ?ysd37 hS ?rsd37
            case ysd37 => (intro wz hz; have p1 : wz.cell? ⟨b3, 1, none⟩ = some (.slice (some ⟨bL, oL, none⟩) n c) := (A3.out.under hz A3.out.lt).cell 1; have q0 := (hz.cell (p := ⟨bL, oL + k * 13, none⟩) hbl8).trans C0.out; have q1 := (hz.cell (p := ⟨bL, oL + kx * 13, none⟩) hbl8).trans C1.out; go_simp <;> with_reducible rfl)
            simp only [List.setIfInBounds_toArray, List.set_cons_zero, List.set_cons_succ]
            refine takeH (i := 38) (d := 126) (v := ?vsd38) rfl (by kernel_rfl) (by kernel_rfl) (by kernel_rfl) (fun _ _ _ h => h) rfl (by rfl) ?ysd38 hS ?rsd38
            case ysd38 => (intro wz hz; have p1 : wz.cell? ⟨b3, 1, none⟩ = some (.slice (some ⟨bL, oL, none⟩) n c) := (A3.out.under hz A3.out.lt).cell 1; have q0 := (hz.cell (p := ⟨bL, oL + k * 13, none⟩) hbl8).trans C0.out; have q1 := (hz.cell (p := ⟨bL, oL + kx * 13, none⟩) hbl8).trans C1.out; go_simp <;> with_reducible rfl)
            simp only [List.setIfInBounds_toArray, List.set_cons_zero, List.set_cons_succ]
            refine wpAnyH_done (by kernel_rfl) ?_ _
            go_wp2_with fail
            have HF := Lib.hid (HB8.out.trans (hS.mono HB8.out.size))
            exact ⟨⟨kx, by omega, rfl, HF⟩, by simp [intOf]; omega⟩
        · have LN : Hid (∀ (j : Nat) (hj : j < rs.length), rs[j].e.lsn ≠ l1) := by
            show ∀ (j : Nat) (hj : j < rs.length), rs[j].e.lsn ≠ l1
            rw [← HL1.out]
            exact no_next RIS.out hkr HL0.out (fun h => by omega)
          obtain ⟨kx, e9⟩ : ∃ kx : Nat, (k : Int) + 1 = (kx : Int) := ⟨k + 1, by omega⟩
          have e10 : IntKind.i64.wrap (kx : Int) = (kx : Int) := by rw [IntKind.wrap_i64]; omega
          have dk : decide ((kx : Int) < (n : Int)) = false := by simp; omega
          have dk3 : decide (kx < n) = false := by simp; omega
          go_wp2_with fail
          refine (find_no X B y7 g gd base size rs fo ws vE vW (LG.out.below HB7.out) (by omega) RIS.out l1 LN.out).mono ?_
          rintro e w8 ⟨rfl, hb8⟩
          have HB8 := Lib.hid (HB7.out.trans ((hb8.mono HB7.out.size).alloc (Nat.le_trans HB7.out.size hb8.size) (.cells (zE) 42)))
          have A6 := Lib.hid ((A6.out.under hb8 A6.out.lt).alloc (.cells (zE) 42))
          have EL6 := Lib.hid ((EL6.out.below hb8).below ((Below.refl _ w8).alloc (Nat.le_refl _) (.cells (zE) 42)))
          go_upto_region 8 with (refine wpList_store_new 42 (.tmp 8) (.tmp 86) rfl rfl rfl _ w8 rfl rfl (zE) zE 13 rfl strE rfl rfl zE_one9 rfl ?_)
          clear hb8
          generalize w8.alloc (.cells (zE) 42) = y8 at HB8 A6 EL6 ⊢
          generalize w8.heap.size = b8
          have A3 := Lib.hid (BX.out.under HB8.out BX.out.lt)
          have TS8 := TS.out.below HB8.out
          have EL8 := Lib.hid (TS8.els t (by rw [← HT.out]; exact List.getElem_mem _))
          have R8 := Lib.hid (range_below R1.out HB8.out hbl1)
          have C0 := Lib.hid ((HB8.out.cell (p := ⟨bL, oL + k * 13, none⟩) hbl1).trans Z0.out)
          have hbl8 : bL < y8.heap.size := Nat.lt_of_lt_of_le hbl1 HB8.out.size
          have SS : Hid (∀ W, Below y8.heap.size y8 W → Calls Tryd.prog 40 #[.agg (erA r6), .agg (erA t)] W (RetQ W true)) := fun W hW => by
            have := refSame_any r6.e t.e r6.PA r6.QA t.PA t.QA r6.np r6.pc r6.na r6.qc t.np t.pc t.na t.qc W (EL6.out.below hW).el (EL8.out.below hW).el (by omega) (by omega) (by omega) (by omega)
            rw [show sameE r6.e t.e = true by rw [HR6.out]; exact sameE_refl _] at this
            exact this
          clear TS8
          refine wp_region_held_drew (S := Below y8.heap.size y8) (by kernel_rfl) ((Below.refl _ y8).drew) (fun hS => ?_)
          refine takeH (i := 0) (d := 88) (v := ?vsb0) rfl (by kernel_rfl) (by kernel_rfl) (by kernel_rfl) (fun _ _ _ h => h) rfl (by rfl) ?ysb0 hS ?rsb0
          case ysb0 => (intro wz hz; have p1 : wz.cell? ⟨b3, 1, none⟩ = some (.slice (some ⟨bL, oL, none⟩) n c) := (A3.out.under hz A3.out.lt).cell 1; have q0 := (hz.cell (p := ⟨bL, oL + k * 13, none⟩) hbl8).trans C0.out; go_simp <;> with_reducible rfl)
          simp only [List.setIfInBounds_toArray, List.set_cons_zero, List.set_cons_succ]
          refine takeH (i := 1) (d := 89) (v := ?vsb1) rfl (by kernel_rfl) (by kernel_rfl) (by kernel_rfl) (fun _ _ _ h => h) rfl (by rfl) ?ysb1 hS ?rsb1
          case ysb1 => (intro wz hz; have p1 : wz.cell? ⟨b3, 1, none⟩ = some (.slice (some ⟨bL, oL, none⟩) n c) := (A3.out.under hz A3.out.lt).cell 1; have q0 := (hz.cell (p := ⟨bL, oL + k * 13, none⟩) hbl8).trans C0.out; go_simp <;> with_reducible rfl)
          simp only [List.setIfInBounds_toArray, List.set_cons_zero, List.set_cons_succ]
          refine takeH (i := 2) (d := 90) (v := ?vsb2) rfl (by kernel_rfl) (by kernel_rfl) (by kernel_rfl) (fun _ _ _ h => h) rfl (by rfl) ?ysb2 hS ?rsb2
          case ysb2 => (intro wz hz; have p1 : wz.cell? ⟨b3, 1, none⟩ = some (.slice (some ⟨bL, oL, none⟩) n c) := (A3.out.under hz A3.out.lt).cell 1; have q0 := (hz.cell (p := ⟨bL, oL + k * 13, none⟩) hbl8).trans C0.out; go_simp <;> with_reducible rfl)
          simp only [List.setIfInBounds_toArray, List.set_cons_zero, List.set_cons_succ]
          refine takeH (i := 3) (d := 91) (v := .agg (erA r6)) rfl (by kernel_rfl) (by kernel_rfl) (by kernel_rfl) (fun _ _ _ h => h) rfl (by rfl) ?ysb3 hS ?rsb3
          case ysb3 => (intro wz hz; have p1 : wz.cell? ⟨b3, 1, none⟩ = some (.slice (some ⟨bL, oL, none⟩) n c) := (A3.out.under hz A3.out.lt).cell 1; have q0 := (hz.cell (p := ⟨bL, oL + k * 13, none⟩) hbl8).trans C0.out; exact exec_load_at 42 (.tmp 6) rfl b6 rfl _ 13 strE rfl (A6.out.under hz A6.out.lt))
          simp only [List.setIfInBounds_toArray, List.set_cons_zero, List.set_cons_succ]
          refine takeH (i := 4) (d := 92) (v := ?vsb4) rfl (by kernel_rfl) (by kernel_rfl) (by kernel_rfl) (fun _ _ _ h => h) rfl (by rfl) ?ysb4 hS ?rsb4
          case ysb4 => (intro wz hz; have p1 : wz.cell? ⟨b3, 1, none⟩ = some (.slice (some ⟨bL, oL, none⟩) n c) := (A3.out.under hz A3.out.lt).cell 1; have q0 := (hz.cell (p := ⟨bL, oL + k * 13, none⟩) hbl8).trans C0.out; go_simp <;> with_reducible rfl)
          simp only [List.setIfInBounds_toArray, List.set_cons_zero, List.set_cons_succ]
          refine takeH (i := 5) (d := 93) (v := ?vsb5) rfl (by kernel_rfl) (by kernel_rfl) (by kernel_rfl) (fun _ _ _ h => h) rfl (by rfl) ?ysb5 hS ?rsb5
          case ysb5 => (intro wz hz; have p1 : wz.cell? ⟨b3, 1, none⟩ = some (.slice (some ⟨bL, oL, none⟩) n c) := (A3.out.under hz A3.out.lt).cell 1; have q0 := (hz.cell (p := ⟨bL, oL + k * 13, none⟩) hbl8).trans C0.out; go_simp <;> with_reducible rfl)
          simp only [List.setIfInBounds_toArray, List.set_cons_zero, List.set_cons_succ]
          refine takeH (i := 6) (d := 94) (v := ?vsb6) rfl (by kernel_rfl) (by kernel_rfl) (by kernel_rfl) (fun _ _ _ h => h) rfl (by rfl) ?ysb6 hS ?rsb6
          case ysb6 => (intro wz hz; have p1 : wz.cell? ⟨b3, 1, none⟩ = some (.slice (some ⟨bL, oL, none⟩) n c) := (A3.out.under hz A3.out.lt).cell 1; have q0 := (hz.cell (p := ⟨bL, oL + k * 13, none⟩) hbl8).trans C0.out; go_simp <;> with_reducible rfl)
          simp only [List.setIfInBounds_toArray, List.set_cons_zero, List.set_cons_succ]
          refine takeH (i := 7) (d := 95) (v := ?vsb7) rfl (by kernel_rfl) (by kernel_rfl) (by kernel_rfl) (fun _ _ _ h => h) rfl (by rfl) ?ysb7 hS ?rsb7
          case ysb7 => (intro wz hz; have p1 : wz.cell? ⟨b3, 1, none⟩ = some (.slice (some ⟨bL, oL, none⟩) n c) := (A3.out.under hz A3.out.lt).cell 1; have q0 := (hz.cell (p := ⟨bL, oL + k * 13, none⟩) hbl8).trans C0.out; go_simp <;> with_reducible rfl)
          simp only [List.setIfInBounds_toArray, List.set_cons_zero, List.set_cons_succ]
          refine takeH (i := 8) (d := 96) (v := .agg (erA t)) rfl (by kernel_rfl) (by kernel_rfl) (by kernel_rfl) (fun _ _ _ h => h) rfl (by rfl) ?ysb8 hS ?rsb8
          case ysb8 => (intro wz hz; have p1 : wz.cell? ⟨b3, 1, none⟩ = some (.slice (some ⟨bL, oL, none⟩) n c) := (A3.out.under hz A3.out.lt).cell 1; have q0 := (hz.cell (p := ⟨bL, oL + k * 13, none⟩) hbl8).trans C0.out; exact exec_load_er (.tmp 95) rfl bL (oL + k * 13) rfl t (range_below R8.out hz hbl8))
          simp only [List.setIfInBounds_toArray, List.set_cons_zero, List.set_cons_succ]
          refine wpAnyH_ready (rs := [9]) (by kernel_rfl) (by simp) ?_
          refine AllReadyH.cons rfl (fun K hK => ?_) AllReadyH.nil
          go_simp
          refine (SS.out _ hS).mono ?_
          rintro e y9 ⟨rfl, hb9⟩
          have hb : True := trivial
          have B9 := Lib.hid (hS.trans (hb9.mono hS.size))
          clear hb9
          refine hK.out _ _ (B9.out) (fun hT => ?_)
          clear hK hb hS
          have hS := hT
          clear hT
          refine takeH (i := 10) (d := 98) (v := ?vsb10) rfl (by kernel_rfl) (by kernel_rfl) (by kernel_rfl) (fun _ _ _ h => h) rfl (by rfl) ?ysb10 hS ?rsb10
          case ysb10 => (intro wz hz; have p1 : wz.cell? ⟨b3, 1, none⟩ = some (.slice (some ⟨bL, oL, none⟩) n c) := (A3.out.under hz A3.out.lt).cell 1; have q0 := (hz.cell (p := ⟨bL, oL + k * 13, none⟩) hbl8).trans C0.out; go_simp <;> with_reducible rfl)
          simp only [List.setIfInBounds_toArray, List.set_cons_zero, List.set_cons_succ]
          refine takeH (i := 11) (d := 99) (v := ?vsb11) rfl (by kernel_rfl) (by kernel_rfl) (by kernel_rfl) (fun _ _ _ h => h) rfl (by rfl) ?ysb11 hS ?rsb11
          case ysb11 => (intro wz hz; have p1 : wz.cell? ⟨b3, 1, none⟩ = some (.slice (some ⟨bL, oL, none⟩) n c) := (A3.out.under hz A3.out.lt).cell 1; have q0 := (hz.cell (p := ⟨bL, oL + k * 13, none⟩) hbl8).trans C0.out; go_simp <;> with_reducible rfl)
          simp only [List.setIfInBounds_toArray, List.set_cons_zero, List.set_cons_succ]
          refine takeH (i := 12) (d := 100) (v := ?vsb12) rfl (by kernel_rfl) (by kernel_rfl) (by kernel_rfl) (fun _ _ _ h => h) rfl (by rfl) ?ysb12 hS ?rsb12
          case ysb12 => (intro wz hz; have p1 : wz.cell? ⟨b3, 1, none⟩ = some (.slice (some ⟨bL, oL, none⟩) n c) := (A3.out.under hz A3.out.lt).cell 1; have q0 := (hz.cell (p := ⟨bL, oL + k * 13, none⟩) hbl8).trans C0.out; go_simp <;> with_reducible rfl)
          simp only [List.setIfInBounds_toArray, List.set_cons_zero, List.set_cons_succ]
          refine takeH (i := 13) (d := 101) (v := ?vsb13) rfl (by kernel_rfl) (by kernel_rfl) (by kernel_rfl) (fun _ _ _ h => h) rfl (by rfl) ?ysb13 hS ?rsb13
          case ysb13 => (intro wz hz; have p1 : wz.cell? ⟨b3, 1, none⟩ = some (.slice (some ⟨bL, oL, none⟩) n c) := (A3.out.under hz A3.out.lt).cell 1; have q0 := (hz.cell (p := ⟨bL, oL + k * 13, none⟩) hbl8).trans C0.out; go_simp <;> with_reducible rfl)
          simp only [List.setIfInBounds_toArray, List.set_cons_zero, List.set_cons_succ]
          refine takeH (i := 14) (d := 102) (v := ?vsb14) rfl (by kernel_rfl) (by kernel_rfl) (by kernel_rfl) (fun _ _ _ h => h) rfl (by rfl) ?ysb14 hS ?rsb14
          case ysb14 => (intro wz hz; have p1 : wz.cell? ⟨b3, 1, none⟩ = some (.slice (some ⟨bL, oL, none⟩) n c) := (A3.out.under hz A3.out.lt).cell 1; have q0 := (hz.cell (p := ⟨bL, oL + k * 13, none⟩) hbl8).trans C0.out; go_simp <;> with_reducible rfl)
          simp only [List.setIfInBounds_toArray, List.set_cons_zero, List.set_cons_succ]
          refine takeH (i := 15) (d := 103) (v := ?vsb15) rfl (by kernel_rfl) (by kernel_rfl) (by kernel_rfl) (fun _ _ _ h => h) rfl (by rfl) ?ysb15 hS ?rsb15
          case ysb15 => (intro wz hz; have p1 : wz.cell? ⟨b3, 1, none⟩ = some (.slice (some ⟨bL, oL, none⟩) n c) := (A3.out.under hz A3.out.lt).cell 1; have q0 := (hz.cell (p := ⟨bL, oL + k * 13, none⟩) hbl8).trans C0.out; go_simp <;> with_reducible rfl)
          simp only [List.setIfInBounds_toArray, List.set_cons_zero, List.set_cons_succ]
          refine takeH (i := 16) (d := 104) (v := ?vsb16) rfl (by kernel_rfl) (by kernel_rfl) (by kernel_rfl) (fun _ _ _ h => h) rfl (by rfl) ?ysb16 hS ?rsb16
          case ysb16 => (intro wz hz; have p1 : wz.cell? ⟨b3, 1, none⟩ = some (.slice (some ⟨bL, oL, none⟩) n c) := (A3.out.under hz A3.out.lt).cell 1; have q0 := (hz.cell (p := ⟨bL, oL + k * 13, none⟩) hbl8).trans C0.out; go_simp <;> with_reducible rfl)
          simp only [List.setIfInBounds_toArray, List.set_cons_zero, List.set_cons_succ]
          refine takeH (i := 17) (d := 105) (v := ?vsb17) rfl (by kernel_rfl) (by kernel_rfl) (by kernel_rfl) (fun _ _ _ h => h) rfl (by rfl) ?ysb17 hS ?rsb17
          case ysb17 => (intro wz hz; have p1 : wz.cell? ⟨b3, 1, none⟩ = some (.slice (some ⟨bL, oL, none⟩) n c) := (A3.out.under hz A3.out.lt).cell 1; have q0 := (hz.cell (p := ⟨bL, oL + k * 13, none⟩) hbl8).trans C0.out; go_simp <;> with_reducible rfl)
          simp only [List.setIfInBounds_toArray, List.set_cons_zero, List.set_cons_succ]
          refine takeH (i := 18) (d := 106) (v := ?vsb18) rfl (by kernel_rfl) (by kernel_rfl) (by kernel_rfl) (fun _ _ _ h => h) rfl (by rfl) ?ysb18 hS ?rsb18
          case ysb18 => (intro wz hz; have p1 : wz.cell? ⟨b3, 1, none⟩ = some (.slice (some ⟨bL, oL, none⟩) n c) := (A3.out.under hz A3.out.lt).cell 1; have q0 := (hz.cell (p := ⟨bL, oL + k * 13, none⟩) hbl8).trans C0.out; go_simp <;> with_reducible rfl)
          simp only [List.setIfInBounds_toArray, List.set_cons_zero, List.set_cons_succ]
          refine takeH (i := 19) (d := 107) (v := ?vsb19) rfl (by kernel_rfl) (by kernel_rfl) (by kernel_rfl) (fun _ _ _ h => h) rfl (by rfl) ?ysb19 hS ?rsb19
          case ysb19 => (intro wz hz; have p1 : wz.cell? ⟨b3, 1, none⟩ = some (.slice (some ⟨bL, oL, none⟩) n c) := (A3.out.under hz A3.out.lt).cell 1; have q0 := (hz.cell (p := ⟨bL, oL + k * 13, none⟩) hbl8).trans C0.out; go_simp <;> with_reducible rfl)
          simp only [List.setIfInBounds_toArray, List.set_cons_zero, List.set_cons_succ]
          refine takeH (i := 20) (d := 108) (v := ?vsb20) rfl (by kernel_rfl) (by kernel_rfl) (by kernel_rfl) (fun _ _ _ h => h) rfl (by rfl) ?ysb20 hS ?rsb20
          case ysb20 => (intro wz hz; have p1 : wz.cell? ⟨b3, 1, none⟩ = some (.slice (some ⟨bL, oL, none⟩) n c) := (A3.out.under hz A3.out.lt).cell 1; have q0 := (hz.cell (p := ⟨bL, oL + k * 13, none⟩) hbl8).trans C0.out; go_simp <;> with_reducible rfl)
          simp only [List.setIfInBounds_toArray, List.set_cons_zero, List.set_cons_succ]
          refine skipH (i := 21) (d := 109) rfl (by kernel_rfl) (by kernel_rfl) (by kernel_rfl) (fun _ _ _ h => h) rfl (by rfl) hS ?_
          simp only [List.setIfInBounds_toArray, List.set_cons_zero, List.set_cons_succ]
          refine skipH (i := 22) (d := 110) rfl (by kernel_rfl) (by kernel_rfl) (by kernel_rfl) (fun _ _ _ h => h) rfl (by rfl) hS ?_
          simp only [List.setIfInBounds_toArray, List.set_cons_zero, List.set_cons_succ]
          refine skipH (i := 23) (d := 111) rfl (by kernel_rfl) (by kernel_rfl) (by kernel_rfl) (fun _ _ _ h => h) rfl (by rfl) hS ?_
          simp only [List.setIfInBounds_toArray, List.set_cons_zero, List.set_cons_succ]
          refine skipH (i := 24) (d := 112) rfl (by kernel_rfl) (by kernel_rfl) (by kernel_rfl) (fun _ _ _ h => h) rfl (by rfl) hS ?_
          simp only [List.setIfInBounds_toArray, List.set_cons_zero, List.set_cons_succ]
          refine skipH (i := 25) (d := 113) rfl (by kernel_rfl) (by kernel_rfl) (by kernel_rfl) (fun _ _ _ h => h) rfl (by rfl) hS ?_
          simp only [List.setIfInBounds_toArray, List.set_cons_zero, List.set_cons_succ]
          refine skipH (i := 26) (d := 114) rfl (by kernel_rfl) (by kernel_rfl) (by kernel_rfl) (fun _ _ _ h => h) rfl (by rfl) hS ?_
          simp only [List.setIfInBounds_toArray, List.set_cons_zero, List.set_cons_succ]
          refine skipH (i := 27) (d := 115) rfl (by kernel_rfl) (by kernel_rfl) (by kernel_rfl) (fun _ _ _ h => h) rfl (by rfl) hS ?_
          simp only [List.setIfInBounds_toArray, List.set_cons_zero, List.set_cons_succ]
          refine skipH (i := 28) (d := 116) rfl (by kernel_rfl) (by kernel_rfl) (by kernel_rfl) (fun _ _ _ h => h) rfl (by rfl) hS ?_
          simp only [List.setIfInBounds_toArray, List.set_cons_zero, List.set_cons_succ]
          refine skipH (i := 29) (d := 117) rfl (by kernel_rfl) (by kernel_rfl) (by kernel_rfl) (fun _ _ _ h => h) rfl (by rfl) hS ?_
          simp only [List.setIfInBounds_toArray, List.set_cons_zero, List.set_cons_succ]
          refine skipH (i := 30) (d := 118) rfl (by kernel_rfl) (by kernel_rfl) (by kernel_rfl) (fun _ _ _ h => h) rfl (by rfl) hS ?_
          simp only [List.setIfInBounds_toArray, List.set_cons_zero, List.set_cons_succ]
          refine skipH (i := 31) (d := 119) rfl (by kernel_rfl) (by kernel_rfl) (by kernel_rfl) (fun _ _ _ h => h) rfl (by rfl) hS ?_
          simp only [List.setIfInBounds_toArray, List.set_cons_zero, List.set_cons_succ]
          refine skipH (i := 32) (d := 120) rfl (by kernel_rfl) (by kernel_rfl) (by kernel_rfl) (fun _ _ _ h => h) rfl (by rfl) hS ?_
          simp only [List.setIfInBounds_toArray, List.set_cons_zero, List.set_cons_succ]
          refine skipH (i := 33) (d := 121) rfl (by kernel_rfl) (by kernel_rfl) (by kernel_rfl) (fun _ _ _ h => h) rfl (by rfl) hS ?_
          simp only [List.setIfInBounds_toArray, List.set_cons_zero, List.set_cons_succ]
          refine skipH (i := 34) (d := 122) rfl (by kernel_rfl) (by kernel_rfl) (by kernel_rfl) (fun _ _ _ h => h) rfl (by rfl) hS ?_
          simp only [List.setIfInBounds_toArray, List.set_cons_zero, List.set_cons_succ]
          refine skipH (i := 35) (d := 123) rfl (by kernel_rfl) (by kernel_rfl) (by kernel_rfl) (fun _ _ _ h => h) rfl (by rfl) hS ?_
          simp only [List.setIfInBounds_toArray, List.set_cons_zero, List.set_cons_succ]
          refine takeH (i := 36) (d := 124) (v := ?vsb36) rfl (by kernel_rfl) (by kernel_rfl) (by kernel_rfl) (fun _ _ _ h => h) rfl (by rfl) ?ysb36 hS ?rsb36
          case ysb36 => (intro wz hz; have p1 : wz.cell? ⟨b3, 1, none⟩ = some (.slice (some ⟨bL, oL, none⟩) n c) := (A3.out.under hz A3.out.lt).cell 1; have q0 := (hz.cell (p := ⟨bL, oL + k * 13, none⟩) hbl8).trans C0.out; go_simp <;> with_reducible rfl)
          simp only [List.setIfInBounds_toArray, List.set_cons_zero, List.set_cons_succ]
          refine takeH (i := 37) (d := 125) (v := ?vsb37) rfl (by kernel_rfl) (by kernel_rfl) (by kernel_rfl) (fun _ _ _ h => h) rfl (by rfl) ?ysb37 hS ?rsb37
          case ysb37 => (intro wz hz; have p1 : wz.cell? ⟨b3, 1, none⟩ = some (.slice (some ⟨bL, oL, none⟩) n c) := (A3.out.under hz A3.out.lt).cell 1; have q0 := (hz.cell (p := ⟨bL, oL + k * 13, none⟩) hbl8).trans C0.out; go_simp <;> with_reducible rfl)
          simp only [List.setIfInBounds_toArray, List.set_cons_zero, List.set_cons_succ]
          refine takeH (i := 38) (d := 126) (v := ?vsb38) rfl (by kernel_rfl) (by kernel_rfl) (by kernel_rfl) (fun _ _ _ h => h) rfl (by rfl) ?ysb38 hS ?rsb38
          case ysb38 => (intro wz hz; have p1 : wz.cell? ⟨b3, 1, none⟩ = some (.slice (some ⟨bL, oL, none⟩) n c) := (A3.out.under hz A3.out.lt).cell 1; have q0 := (hz.cell (p := ⟨bL, oL + k * 13, none⟩) hbl8).trans C0.out; go_simp <;> with_reducible rfl)
          simp only [List.setIfInBounds_toArray, List.set_cons_zero, List.set_cons_succ]
          refine wpAnyH_done (by kernel_rfl) ?_ _
          go_wp2_with fail
          have HF := Lib.hid (HB8.out.trans (hS.mono HB8.out.size))
          exact ⟨⟨kx, by omega, rfl, HF⟩, by simp [intOf]; omega⟩
      · obtain rfl : k = n := by omega
        go_wp2_with fail
        go_ret
        exact ⟨rfl, ZB.out.trans (HB.out.mono ZB.out.size)⟩
end Go.Proofs.YthicidpdgggbjaaDoor
