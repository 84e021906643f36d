/-
  An act of the law WalDoes in memory; the walk of crash: the power goes in forcing, and in opening, again and again.
  Conditions: logs of at most 400 sectors, at most four crashes while the log is opened, at most 400 bools each.
-/
import Derived.Test.YthicidpdgggbjaaDoorK23Q
import Derived.Test.YthicidpdgggbjaaDoorK19Q
import Derived.Deep.Cut
import Derived.Deep.CutRange
namespace Go.Proofs.YthicidpdgggbjaaDoor
open Go.RowKit
set_option maxRecDepth 20000

/-- A slice of bools. -/
structure Mo where
  A : Option Addr
  c : Nat
  l : List Bool
/-- An act. -/
structure Ao where
  k : Int
  er : Er
  KA : Option Addr
  kc : Nat
  keep : List Bool
  MA : Option Addr
  mc : Nat
  more : List Mo
def aoL (o : Ao) : List Value := .int .i64 o.k :: (erL o.er ++ [.slice o.KA o.keep.length o.kc, .slice o.MA o.more.length o.mc])
def aoA (o : Ao) : Array Value := (aoL o).toArray
theorem aoL_length (o : Ao) : (aoL o).length = 16 := rfl
theorem aoL_14 (o : Ao) : (aoL o)[14]? = some (.slice o.KA o.keep.length o.kc) := rfl
theorem aoL_15 (o : Ao) : (aoL o)[15]? = some (.slice o.MA o.more.length o.mc) := rfl
def moL (l : List Mo) : List Value := l.map fun m => .slice m.A m.l.length m.c
theorem moL_get (l : List Mo) (k : Nat) (h : k < l.length) : (moL l)[k]? = some (.slice l[k].A l[k].l.length l[k].c) := by simp [moL, h]
/-- The slices of an act lie outside X. -/
structure AoZ (X : Nat → Prop) (w : World) (o : Ao) : Prop where
  er : ELz X w o.er
  keep : Lz X w 1 o.KA o.keep.length (BL o.keep)
  rows : Lz X w 1 o.MA o.more.length (moL o.more)
  each : ∀ m ∈ o.more, Lz X w 1 m.A m.l.length (BL m.l)
/-- An act as it may come in. -/
structure AoIn (o : Ao) : Prop where
  er : o.er.e.ok
  val : o.er.e.rc.val.length ≤ maxLen
  np : o.er.np ≤ maxLen
  na : o.er.na ≤ maxLen
  kc : o.keep.length ≤ o.kc ∧ o.kc ≤ maxLen
  mc : o.more.length ≤ o.mc ∧ o.mc ≤ maxLen
  each : ∀ m ∈ o.more, m.l.length ≤ m.c ∧ m.c ≤ maxLen
theorem AoZ.kept {X : Nat → Prop} {w w' : World} {o : Ao} (h : AoZ X w o) (hm : Mod X w w') : AoZ X w' o := ⟨h.er.kept hm, h.keep.kept hm, h.rows.kept hm, fun m hm2 => (h.each m hm2).kept hm⟩
theorem AoZ.mono {X Y : Nat → Prop} {w : World} {o : Ao} (h : AoZ X w o) (hY : ∀ k, k < w.heap.size → Y k → X k) : AoZ Y w o := ⟨h.er.mono hY, h.keep.mono hY, h.rows.mono hY, fun m hm => (h.each m hm).mono hY⟩
theorem AoZ.below {X : Nat → Prop} {w w' : World} {o : Ao} (h : AoZ X w o) (hb : Below w.heap.size w w') : AoZ X w' o := h.kept (Mod.of_below hb X)

/-- The sectors outside the log are zero. -/
def OutZ (S : List Sect) (size : Nat) : Prop := ∀ k, k < S.length → (k < 2 ∨ 2 + size ≤ k) → S[k]? = some zsec
theorem OutZ.upd {S : List Sect} {size q : Nat} {l : List Sect} {f : Nat → Bool} (h : OutZ S size) (hl : q + l.length ≤ size) : OutZ (upd S (2 + q) l f) size := by
  intro k hk ho
  rw [upd_length] at hk
  rw [upd_get _ _ _ _ _ hk, if_neg (by omega), ← getD_get S k hk]
  exact h k hk ho
/-- Where crash stands: the disk is up, the log on it is torn, the same entries are whole. -/
structure CrS (gd gs b7 size : Nat) (S0 : List Sect) (nw : Int) (es : List Ent) (m : Nat) (o : Ao) (z0 z : World) (S : List Sect) (kept : Nat → Bool) : Prop where
  plat : Plat (fun _ => False) z gd gs S nw (-1) [] false
  len : S.length = S0.length
  held : Held ((S.drop 2).take size) es kept
  whole : IsWhole es kept m
  out : OutZ S size
  box : At z b7 46 (aoA o)
  md : Mod (pl_own gd gs) z0 z
def CrL (gd gs b7 size : Nat) (S0 : List Sect) (nw : Int) (es : List Ent) (m : Nat) (o : Ao) (z0 : World) (i : Value) (z : World) : Prop :=
  ∃ (k : Nat) (S : List Sect) (kept : Nat → Bool), k ≤ o.more.length ∧ i = .int .i64 (k : Int) ∧ Hid (CrS gd gs b7 size S0 nw es m o z0 z S kept)
theorem isWhole_ex (es : List Ent) (kept : Nat → Bool) : ∃ m, IsWhole es kept m := by
  have key : ∀ n, n ≤ es.length → (∃ m, IsWhole es kept m) ∨ (∀ k, k < pos (es.take n) → kept k = true) := by
    intro n
    induction n with
    | zero => intro _; exact .inr fun k hk => absurd hk (Nat.not_lt_zero _)
    | succ n ih =>
      intro hn
      rcases ih (by omega) with h | h
      · exact .inl h
      · by_cases ha : ∀ k, k < pos (es.take (n + 1)) → kept k = true
        · exact .inr ha
        · refine .inl ⟨n, ⟨by omega, h, fun _ => ?_⟩⟩
          simp only [Classical.not_forall] at ha
          obtain ⟨k, hk, hf⟩ := ha
          exact ⟨k, hk, by simpa using hf⟩
  rcases key es.length (Nat.le_refl _) with h | h
  · exact h
  · exact ⟨es.length, ⟨Nat.le_refl _, h, fun hl => absurd hl (Nat.lt_irrefl _)⟩⟩
/-- Force when the power goes. -/
def FC (gd gs : Nat) (S : List Sect) (nw : Int) (kp : List Bool) (p : Nat) (ws : List Sect) (z : World) (e : Ending) (z' : World) : Prop :=
  ∃ (u : Value) (fu : Int) (kp' : List Bool) (dn : Bool), e = .returned u ∧ Plat (fun _ => False) z' gd gs (upd S p ws (fun j => kp.getD j false)) nw fu kp' dn ∧ Mod (pl_own gd gs) z z'
theorem force_crash {gd gs g size B fo : Nat} {S : List Sect} {nw : Int} {kp : List Bool} {rs : List Er} {ws : List Sect} {vE vW : Value} {z : World} (hl : LogAt (pl_own gd gs) B z g gd 2 size rs fo ws vE vW) (hp : Plat (fun _ => False) z gd gs S nw 0 kp false) (hB : ∀ k, pl_own gd gs k → k < B)
    (hn : S.length ≤ 100000) (hkp : kp.length ≤ 100000) (hi : 2 + fo + ws.length ≤ S.length) : Calls Tryd.prog 12 #[.pointer (some ⟨g, 0, none⟩)] z (FC gd gs S nw kp (2 + fo) ws z) := by
  by_cases hw : 0 < ws.length
  · refine (force_torn (pl_own gd gs) B z g gd gs 2 size S nw kp rs fo ws vE vW hl hp (fun _ hk => hk) hB hn hw hkp (2 + fo) rfl hi).mono ?_
    rintro e z' ⟨h1, h2, _, h4⟩
    exact ⟨_, _, _, _, h1, h2, h4⟩
  · obtain rfl : ws = [] := List.eq_nil_of_length_eq_zero (by omega)
    refine (force_nil (pl_own gd gs) B z g gd 2 size rs fo vE vW hl).mono ?_
    rintro e z' ⟨h1, rfl⟩
    exact ⟨_, 0, kp, false, h1, by rw [upd_none _ _ _ _ (fun j hj => absurd hj (Nat.not_lt_zero _))]; exact hp, Mod.refl _ _⟩
theorem take_getD {l : List Bool} {n j : Nat} (h : j < n) : (l.take n).getD j false = l.getD j false := by
  simp only [List.getD_eq_getElem?_getD, List.getElem?_take, if_pos h]
theorem kfW_full {fo : Nat} {es : List Ent} {keep : List Bool} (h : fo = pos es) : IsWhole es (kfW fo keep) es.length :=
  ⟨Nat.le_refl _, fun k hk => kfW_lo _ (by rw [List.take_length] at hk; omega), fun h => absurd h (Nat.lt_irrefl _)⟩
/-- What crash returns. -/
def DCrash (w : World) (gd gs size : Nat) (S : List Sect) (nw : Int) (es : List Ent) (kept : Nat → Bool) (z : World) (e : Ending) (z' : World) : Prop :=
  ∃ (m q g' : Nat) (vE' : Value) (rs' : List Er) (nw' : Int) (S' : List Sect), IsWhole es kept m ∧ q = pos (es.take m) ∧ e = .returned (.tuple #[.pointer (some ⟨g', 0, none⟩), .bool true]) ∧ rs'.map (·.e) = es.take m ∧ nw ≤ nw' ∧ nw' ≤ nw + 1 ∧
    DS w gd gs g' 2 size g' S' nw' rs' q [] vE' (.slice none 0 0) z' ∧ OnDisk S' 2 size (es.take m) q ∧ OutZ S' size ∧ S'.length = S.length ∧ z.heap.size ≤ g' ∧ Mod (pl_own gd gs) z z' ∧ LogAt (fun k => k < z.heap.size) g' z' g' gd 2 size rs' q [] vE' (.slice none 0 0)

section
variable (w : World) (gd gs g size B : Nat) (S : List Sect) (nw : Int) (rs : List Er) (fo : Nat) (ws : List Sect) (vE vW : Value) (es : List Ent) (o : Ao) (z : World)
set_option maxHeartbeats 6400000 in
theorem crash_any (h : DS w gd gs g 2 size B S nw rs fo ws vE vW z) (hod : OnDisk S 2 size es fo) (hws : ws = (lay es 0).drop fo) (hfo : fo ≤ pos es) (hnum : Numd es 0) (hs1 : 1 ≤ size) (hs : size ≤ 400) (hn : S.length ≤ 1000) (hw0 : 0 ≤ nw) (hw1 : nw ≤ 1000) (hout : OutZ S size)
    (ho : AoZ (fun k => w.heap.size ≤ k) z o) (hi : AoIn o) (hk : o.keep.length ≤ 400) (hm : o.more.length ≤ 4) (hme : ∀ m ∈ o.more, m.l.length ≤ 400) :
    Calls Tryd.prog 13 #[.pointer (some ⟨gd, 0, none⟩), .pointer (some ⟨g, 0, none⟩), .int .i64 (size : Int), .agg (aoA o)] z (DCrash w gd gs size S nw es (kfW fo o.keep) z) := by
  have hroom := hod.room
  have hfit := hod.fit
  have hwl : ws.length = pos es - fo := by rw [hws, List.length_drop, lay_length]
  have hplt : ∀ k, pl_own gd gs k → k < z.heap.size := h.plt
  obtain ⟨m0, hm0⟩ := isWhole_ex es (kfW fo o.keep)
  have DZ := Lib.hid (h.call ((Below.refl _ z).alloc (Nat.le_refl _) (.cells (aoA o) 46)))
  have OZ := Lib.hid (ho.below ((Below.refl _ z).alloc (Nat.le_refl _) (.cells (aoA o) 46)))
  have BX := Lib.hid (At.new z 46 (aoA o))
  have HI := Lib.hid hi
  have HOW := Lib.hid h.hw
  have HB := Lib.hid h.hB
  have HLOW := Lib.hid h.low
  have HM0 := Lib.hid hm0
  have HOD := Lib.hid hod
  have HOUT := Lib.hid hout
  have HNUM := Lib.hid hnum
  have HWS := Lib.hid hws
  have HME := Lib.hid hme
  have HPL := Lib.hid hplt
  have HO := Lib.hid ho
  have HMZ := Lib.hid (show Mod (pl_own gd gs) z (z.alloc (.cells (aoA o) 46)) from (Mod.refl _ z).alloc _)
  have c14 : (z.alloc (.cells (aoA o) 46)).cell? ⟨z.heap.size, 14, none⟩ = some (.slice o.KA o.keep.length o.kc) := BX.out.cell 14
  clear h hod hws hnum hout ho hi hme hm0 hplt
  go_enter Tryd.func13, Tryd.ntmps13
  go_wp2_with fail
  generalize z.alloc (.cells (aoA o) 46) = z1 at DZ OZ BX HMZ c14 ⊢
  obtain ⟨b7, hb7⟩ : ∃ b7, z.heap.size = b7 := ⟨_, rfl⟩
  have HB7 := Lib.hid hb7
  rw [hb7] at BX ⊢
  clear hb7
  refine (fuse_any (fun _ => False) gd gs S nw (-1) [] false z1 0 o.KA o.keep.length o.kc o.keep DZ.out.plat (OZ.out.keep.mono fun k _ hk => DZ.out.hw k hk) HI.out.kc.1 HI.out.kc.2 (by omega) (fun _ h => h.elim)).mono ?_
  rintro e z2 ⟨rfl, hp2, hm2⟩
  have P2 := Lib.hid hp2
  have M2 := Lib.hid (HMZ.out.trans hm2)
  have L2 := Lib.hid (DZ.out.log.kept hm2 DZ.out.apart (fun _ _ hk => hk))
  have BX2 : Hid (At z2 b7 46 (aoA o)) := (hm2.block b7 BX.out.lt (fun hk => by have := HPL.out _ hk; have := HB7.out; omega)).trans BX.out
  clear hp2 hm2 c14
  go_wp2_with fail
  refine (force_crash L2.out P2.out HB.out (by omega) (by rw [List.length_take]; omega) (by omega)).mono ?_
  rintro e z3 ⟨u3, fu3, kp3, dn3, rfl, hp3, hm3⟩
  have hS1 : upd S (2 + fo) ws (fun j => (o.keep.take S.length).getD j false) = upd S (2 + fo) ((lay es 0).drop fo) (fun j => o.keep.getD j false) := by
    rw [← HWS.out]
    exact upd_congr _ _ _ _ _ fun j hj => take_getD (by omega)
  rw [hS1] at hp3
  have P3 := Lib.hid hp3
  have M3 := Lib.hid (M2.out.step hm3 (fun _ _ hk => hk))
  have BX3 : Hid (At z3 b7 46 (aoA o)) := (hm3.block b7 BX2.out.lt (fun hk => by have := HPL.out _ hk; have := HB7.out; omega)).trans BX2.out
  clear hp3 hm3 P2 M2 L2 BX2 hS1
  go_wp2_with fail
  refine (up_any (fun _ => False) gd gs _ nw fu3 kp3 dn3 z3 P3.out (by rw [upd_length]; omega) (fun _ h => h.elim)).mono ?_
  rintro e z4 ⟨rfl, hp4, hm4⟩
  have C4 : Hid (CrS gd gs b7 size S nw es m0 o z z4 (upd S (2 + fo) ((lay es 0).drop fo) (fun j => o.keep.getD j false)) (kfW fo o.keep)) :=
    ⟨hp4, upd_length _ _ _ _, HOD.out.torn o.keep, HM0.out, HOUT.out.upd (by rw [List.length_drop, lay_length]; omega), (hm4.block b7 BX3.out.lt (fun hk => by have := HPL.out _ hk; have := HB7.out; omega)).trans BX3.out, M3.out.step hm4 (fun _ _ hk => hk)⟩
  clear hp4 hm4 P3 M3 BX3
  go_wp2_with fail
  go_loopw [10] (fun i zz => CrL gd gs b7 size S nw es m0 o z i zz) (fun i _ => o.more.length - (intOf i).toNat)
  case atStart => exact ⟨0, _, _, Nat.zero_le _, rfl, C4⟩
  case round =>
    clear C4
    obtain ⟨k, S1, kept1, hk1, rfl, CR⟩ := hrel
    have c15 : wr.cell? ⟨b7, 15, none⟩ = some (.slice o.MA o.more.length o.mc) := CR.out.box.cell 15
    by_cases hlt : k < o.more.length
    · have OR := Lib.hid (HO.out.kept (CR.out.md.mono fun k _ hk => HOW.out k hk))
      obtain ⟨bM, oM, uM, hMA, _, hbM, huM, hcM⟩ := OR.out.rows.get hlt
      rw [moL_get o.more k hlt] at huM
      injection huM with huM
      subst huM
      rw [hMA] at c15
      obtain ⟨mo, hmo⟩ : ∃ mo, o.more[k] = mo := ⟨_, rfl⟩
      have hmem : mo ∈ o.more := by rw [← hmo]; exact List.getElem_mem hlt
      rw [hmo] at hcM
      have LM := Lib.hid ((OR.out.each mo hmem).mono fun k _ hk => HOW.out k hk : Lz (pl_own gd gs) wr 1 mo.A mo.l.length (BL mo.l))
      have CM := Lib.hid (HI.out.each mo hmem)
      have LE := Lib.hid (HME.out mo hmem)
      have hlen1 : S1.length ≤ 1000 := by rw [CR.out.len]; omega
      have HL1 := Lib.hid (show 2 + size ≤ S1.length by rw [CR.out.len]; omega)
      clear hMA hmo hmem
      go_wp2_with fail
      refine (fuse_any (fun _ => False) gd gs S1 nw (-1) [] false wr 0 mo.A mo.l.length mo.c mo.l CR.out.plat LM.out CM.out.1 CM.out.2 (by omega) (fun _ h => h.elim)).mono ?_
      rintro e z5 ⟨rfl, hp5, hm5⟩
      have P5 := Lib.hid hp5
      have M5 := Lib.hid hm5
      clear hp5 hm5 c15 hcM
      go_wp2_with fail
      refine (open_torn gd gs S1 nw (mo.l.take S1.length) z5 es kept1 2 size P5.out (by omega) hs1 HL1.out (by omega) (by rw [List.length_take]; omega) CR.out.held HNUM.out).mono ?_
      rintro e z6 ⟨m, q, u6, fu6, kp6, dn6, hm, hq, rfl, _, hp6, hm6⟩
      obtain rfl : m = m0 := hm.unique CR.out.whole
      obtain ⟨kept2, hh2, hw2⟩ := held_zero HL1.out CR.out.held hm q hq (fun j => (mo.l.take S1.length).getD j false)
      have hqs : q ≤ size := by rw [hq]; exact Nat.le_trans (pos_take_le es m) HOD.out.fit
      have P6 := Lib.hid hp6
      have M6 := Lib.hid (M5.out.step hm6 (fun _ _ hk => hk))
      have HH2 := Lib.hid hh2
      have HW2 := Lib.hid hw2
      clear hp6 hm6 hh2 hw2 hm hq P5 M5
      go_wp2_with fail
      refine (up_any (fun _ => False) gd gs _ nw fu6 kp6 dn6 z6 P6.out (by rw [upd_length]; omega) (fun _ h => h.elim)).mono ?_
      rintro e z7 ⟨rfl, hp7, hm7⟩
      have M7 := M6.out.step hm7 (fun _ _ hk => hk)
      have C7 : Hid (CrS gd gs b7 size S nw es m o z z7 (upd S1 (2 + q) (List.replicate (size - q) zsec) (fun j => (mo.l.take S1.length).getD j false)) kept2) :=
        ⟨hp7, by rw [upd_length]; exact CR.out.len, HH2.out, HW2.out, CR.out.out.upd (by simp; omega), (M7.block b7 CR.out.box.lt (fun hk => by have := HPL.out _ hk; have := HB7.out; omega)).trans CR.out.box, CR.out.md.step M7 (fun _ _ hk => hk)⟩
      clear hp7 hm7 M7
      go_wp2_with fail
      exact ⟨⟨k + 1, _, kept2, by omega, by go_num, C7⟩, by simp [intOf]; omega⟩
    · obtain rfl : k = o.more.length := by omega
      have hlen1 : S1.length ≤ 1000 := by rw [CR.out.len]; omega
      have HL1 := Lib.hid (show 2 + size ≤ S1.length by rw [CR.out.len]; omega)
      have LW := Lib.hid (below_mod HLOW.out CR.out.md HOW.out)
      go_wp2_with fail
      refine (open_ok gd gs S1 nw wr es kept1 2 size CR.out.plat (by omega) hs1 HL1.out (by omega) hw0 (by omega) CR.out.held HNUM.out).mono ?_
      rintro e z8 ⟨m, q, vE', rs', nw', hm, hq, rfl, hrs, hn1, hn2, hlg, hpl, hmd⟩
      have hplw : ∀ k, pl_own gd gs k → k < wr.heap.size := fun k hk => Nat.lt_of_lt_of_le (HPL.out k hk) CR.out.md.size
      have hd : DS w gd gs wr.heap.size 2 size wr.heap.size (upd S1 (2 + q) (List.replicate (size - q) zsec) (fun _ => true)) nw' rs' q [] vE' (.slice none 0 0) z8 := ⟨hpl, hlg.mono fun k _ hk => hplw k hk, below_mod LW.out hmd HOW.out, hplw, HOW.out, LW.out.size⟩
      obtain rfl : m = m0 := hm.unique CR.out.whole
      have hqs : q ≤ size := by rw [hq]; exact Nat.le_trans (pos_take_le es m) HOD.out.fit
      have FIN : Hid (DCrash w gd gs size S nw es (kfW fo o.keep) z (.returned (.tuple #[.pointer (some ⟨wr.heap.size, 0, none⟩), .bool true])) z8) :=
        ⟨m, q, wr.heap.size, vE', rs', nw', _, HM0.out, hq, rfl, hrs, hn1, hn2, hd, OnDisk.opened HL1.out CR.out.held hm q hq, CR.out.out.upd (by simp; omega), by rw [upd_length]; exact CR.out.len, CR.out.md.size, CR.out.md.step hmd (fun _ _ hk => hk), hlg.mono fun k _ hk => Nat.lt_of_lt_of_le hk CR.out.md.size⟩
      clear hm hq hrs hn1 hn2 hd hmd hlg hpl hplw
      go_wp2_with fail
      go_ret2
      exact FIN
end
end Go.Proofs.YthicidpdgggbjaaDoor
