/-
  twin, Room.
  Conditions: at most 100000 records and pages.
-/
import Derived.Test.YtgjkbnplpioloaaB1
namespace Go.Proofs.Ytgjkbnplpioloaa
open Go.RowKit
attribute [local go_sem] Oper.semAt_some
set_option maxRecDepth 20000

/-- A bucket's pages and records in memory. -/
structure BkL (w : World) (PA : Option Addr) (pn : Nat) (RA : Option Addr) (rn : Nat) (ps : List Int) (rs : List Rc) : Prop where
  p : Lz NoX w 1 PA pn (ICs ps)
  r : Lz NoX w 4 RA rn (rcsL rs)
theorem BkL.below {w z : World} {PA RA : Option Addr} {pn rn : Nat} {ps : List Int} {rs : List Rc} (h : BkL w PA pn RA rn ps rs) (hb : Below w.heap.size w z) : BkL z PA pn RA rn ps rs := ⟨h.p.below hb, h.r.below hb⟩
/-- A new bucket: its rows are the call's own. -/
def RetBk (w : World) (d : Bx) (ps : List Int) (pn : Nat) (rs : List Rc) (rn : Nat) (v : Value) (z : World) : Prop := ∃ PA pc RA rc, v = .agg (bkA d (.slice PA pn pc) (.slice RA rn rc)) ∧ z.ownsRow w.heap.size 3 1 (.slice PA pn pc) pn (ICs ps) ∧ z.ownsRow w.heap.size 50 4 (.slice RA rn rc) rn (rcsL rs) ∧ Below w.heap.size w z
/-- From the world behind some calls on: what with makes. -/
theorem RetBk.mk {w w2 y z w9 : World} {d : Bx} {ps : List Int} {pn rn : Nat} {rs : List Rc} {PA RA : Option Addr} {pc rc g : Nat} (h1 : Below w.heap.size w y) (hr : y.ownsRow w.heap.size 50 4 (.slice RA rn rc) rn (rcsL rs))
    (hp : z.ownsRow y.heap.size 3 1 (.slice PA pn pc) pn (ICs ps)) (h2 : Below y.heap.size y z) (hS : MkS g w2 z) (hg : z.grownBy w9 (some g)) (hgw : w.heap.size ≤ g) : RetBk w d ps pn rs rn (.agg (bkA d (.slice PA pn pc) (.slice RA rn rc))) w9 := by
  obtain ⟨cs8, _, ha8⟩ := hS.2
  have k : ∀ {B e sz v m xs}, z.ownsRow B e sz v m xs → 44 ≠ e → w9.ownsRow B e sz v m xs := fun {B e sz v m xs} ho hne => by
    refine ho.kept hg ?_
    cases hv : v.ownBlock with
    | none => exact .inl rfl
    | some k => exact .inr fun e1 => own_ne ho ha8 hne (by rw [hv, e1])
  have h3 := h1.trans (h2.mono h1.size)
  exact ⟨PA, pc, RA, rc, rfl, own_base (k hp (by decide)) h1.size, k (own_under hr h2 (Nat.le_refl _)) (by decide), h3.grown hg h3.size (fun j e => by injection e with e; omega)⟩
set_option maxHeartbeats 3200000 in
theorem twin_any (d : Bx) (PA : Option Addr) (pn pc : Nat) (RA : Option Addr) (rn rc : Nat) (ps : List Int) (rs : List Rc) (w : World) (h : BkL w PA pn RA rn ps rs) (hpn : pn ≤ 100000) (hrn : rn ≤ 100000) :
    Calls Try.prog 36 #[.agg (bkA d (.slice PA pn pc) (.slice RA rn rc))] w (fun e z => ∃ v, e = .returned v ∧ RetBk w d ps pn rs rn v z) := by
  have HRN := Lib.hid h.r.rclen
  have HBK := Lib.hid h
  clear h
  go_enter Try.func36, Try.ntmps36
  go_upto_region 1 with fail
  have hz0 : (#[Value.int .i64 0, .int .i64 0, .int .i64 0, .int .i64 0, .slice none 0 0, .slice none 0 0] : Array Value) = zbk := rfl
  rw [hz0]
  clear hz0
  have HS0 := Lib.hid (MkS.start (w := w) (bkA d (.slice PA pn pc) (.slice RA rn rc)) 44)
  have HA2 : Hid (At ((w.alloc (.cells (bkA d (.slice PA pn pc) (.slice RA rn rc)) 44)).alloc (.cells zbk 44)) w.heap.size 44 (bkA d (.slice PA pn pc) (.slice RA rn rc))) := (At.new w 44 _).alloc _
  have HBW : Hid (Below w.heap.size w ((w.alloc (.cells (bkA d (.slice PA pn pc) (.slice RA rn rc)) 44)).alloc (.cells zbk 44))) := ((Below.refl _ w).alloc (Nat.le_refl _) _).alloc (by simp) _
  generalize ((w.alloc (.cells (bkA d (.slice PA pn pc) (.slice RA rn rc)) 44)).alloc (.cells zbk 44)) = w2 at HS0 HA2 HBW ⊢
  have HCR : Hid (∀ wz, Below (w.heap.size + 1) w2 wz → Calls Try.prog 47 #[.slice RA rn rc] wz (RetRs wz rs)) := fun wz hz => cloneR_any NoX rn rc RA rs wz (HBK.out.r.below (HBW.out.trans (hz.mono (Nat.le_succ _)))) hrn
  refine wp_region_held_drew (S := MkS (w.heap.size + 1) w2) (by kernel_rfl) HS0.out (fun hS => ?_)
  refine tkS (v := .agg (bkA d (.slice PA pn pc) (.slice RA rn rc))) 0 hS ?_ (hy := by intro wz hz; have q1 : wz.cell? ⟨w.heap.size, 5, none⟩ = some (.slice RA rn rc) := (hz.1.cell (p := ⟨w.heap.size, 5, none⟩) (Nat.lt_succ_self _)).trans (HA2.out.cell 5); exact exec_load_at 44 (.tmp 1) rfl w.heap.size rfl _ 6 strBk rfl (HA2.out.under hz.1 (Nat.lt_succ_self _)))
  refine tkS 1 hS ?_
  refine tkS 2 hS ?_ (hy := by intro wz hz; have q1 : wz.cell? ⟨w.heap.size, 5, none⟩ = some (.slice RA rn rc) := (hz.1.cell (p := ⟨w.heap.size, 5, none⟩) (Nat.lt_succ_self _)).trans (HA2.out.cell 5); go_simp <;> with_reducible rfl)
  refine wpAnyH_ready (rs := [3]) (by kernel_rfl) (by simp) ?_
  refine AllReadyH.cons rfl (fun K hK => ?_) AllReadyH.nil
  go_simp
  refine (HCR.out _ hS.1).mono ?_
  rintro e y9 ⟨A5, c5, rfl, ho9, hb9⟩
  rw [HRN.out] at ho9 ⊢
  have hb : True := trivial
  have HO9 := Lib.hid ho9
  have HB9 := Lib.hid ((HBW.out.trans (hS.1.mono (Nat.le_succ _))).trans (hb9.mono (HBW.out.trans (hS.1.mono (Nat.le_succ _))).size))
  have HLE := Lib.hid (HBW.out.trans (hS.1.mono (Nat.le_succ _))).size
  have HS9 := Lib.hid (hS.call hb9)
  clear ho9 hb9
  refine hK.out _ _ (HS9.out) (fun hT => ?_)
  clear hK hb hS
  have hS := hT
  clear hT
  refine wpAnyH_ready (rs := [4]) (by kernel_rfl) (by simp) ?_
  refine AllReadyH.cons rfl (fun K hK => ?_) AllReadyH.nil
  go_simp
  refine (with_any d PA pn pc ps _ A5 rn c5 y9 (HBK.out.p.below HB9.out) hpn).mono ?_
  rintro e y8 ⟨A6, c6, rfl, ho8, hb8⟩
  have hb : True := trivial
  have HO8 := Lib.hid ho8
  have HB8 := Lib.hid hb8
  have HS8 := Lib.hid (hS.call hb8)
  clear ho8 hb8
  refine hK.out _ _ (HS8.out) (fun hT => ?_)
  clear hK hb hS
  have hS := hT
  clear hT
  refine wpAnyH_ready (rs := [5]) (by kernel_rfl) (by simp) ?_
  refine AllReadyH.cons rfl (fun K hK => ?_) AllReadyH.nil
  rw [if_pos (by rfl)]
  obtain ⟨cs9, hcs9, ha8⟩ := hS.2
  refine wp_store_at 44 (.tmp 2) (.tmp 7) rfl rfl (w.heap.size + 1) rfl (bkA d (.slice A6 pn c6) (.slice A5 rn c5)) cs9 6 rfl strBk rfl hcs9 (bkA_one _ _ _ _ _ _ _) ha8 ?_
  intro w9 ha9 hg9
  have A9 := Lib.hid ha9
  have G9 := Lib.hid hg9
  have HSS := Lib.hid (hS.store hg9 ha9 rfl)
  clear ha9 hg9 ha8
  refine hK.out _ _ (HSS.out) (fun hT => ?_)
  clear hK hS
  have hS := hT
  clear hT
  refine wpAnyH_done (by kernel_rfl) ?_ _
  clear hS
  have HR9 := Lib.hid (RetBk.mk (d := d) HB9.out (own_base HO9.out HLE.out) HO8.out HB8.out HS8.out G9.out (Nat.le_succ _))
  go_wp2_with fail
  dsimp only [Act.put]
  exact bodyPost_ret (results_at1 (g := w.heap.size + 1) rfl A9.out strBk rfl rfl) rfl ⟨_, rfl, HR9.out⟩
/-- How many more records there is room for. -/
def roomI (pn rn : Nat) : Int := 8 * (pn : Int) - (rn : Int)
set_option maxHeartbeats 800000 in
theorem Room_any (d : Bx) (PA : Option Addr) (pn pc : Nat) (RA : Option Addr) (rn rc : Nat) (w : World) (hpn : pn ≤ 100000) (hrn : rn ≤ 100000) :
    Calls Try.prog 24 #[.agg (bkA d (.slice PA pn pc) (.slice RA rn rc))] w (fun e z => e = .returned (.int .i64 (roomI pn rn)) ∧ Below w.heap.size w z) := by
  have hw1 : IntKind.i64.wrap (8 * (pn : Int)) = 8 * (pn : Int) := by rw [IntKind.wrap_i64]; omega
  have hw1' : wrap64 (8 * (pn : Int)) = 8 * (pn : Int) := by unfold wrap64; omega
  have hw2 : wrap64 (8 * (pn : Int) - (rn : Int)) = 8 * (pn : Int) - (rn : Int) := by unfold wrap64; omega
  have hA := At.new w 44 (bkA d (.slice PA pn pc) (.slice RA rn rc))
  have c1 : (w.alloc (.cells (bkA d (.slice PA pn pc) (.slice RA rn rc)) 44)).cell? ⟨w.heap.size, 4, none⟩ = some (.slice PA pn pc) := hA.cell 4
  have c2 : (w.alloc (.cells (bkA d (.slice PA pn pc) (.slice RA rn rc)) 44)).cell? ⟨w.heap.size, 5, none⟩ = some (.slice RA rn rc) := hA.cell 5
  have HB : Hid (Below w.heap.size w (w.alloc (.cells (bkA d (.slice PA pn pc) (.slice RA rn rc)) 44))) := (Below.refl _ w).alloc (Nat.le_refl _) _
  clear hA
  go_enter Try.func24, Try.ntmps24
  go_wp2_with fail
  go_ret
  exact ⟨by first | rfl | (unfold roomI; rfl), HB.out⟩
end Go.Proofs.Ytgjkbnplpioloaa
