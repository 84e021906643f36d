/-
  The law RegionPages where it runs.
  Conditions: none beyond those that each theorem names.
-/
import Derived.Test.YtgjkbnplpioloaaY1
import Derived.Test.YtgjkbnplpioloaaZ2
namespace Go.Proofs.Ytgjkbnplpioloaa
open Go.RowKit
attribute [local go_sem] Oper.semAt_some
set_option maxRecDepth 20000

/-- While the pages are numbered: k are. -/
structure L1S (w : World) (gB : Nat) (b : Bx) (k : Nat) (v : Value) (y : World) : Prop where
  bo : BoS w b y
  gt : w.heap.size < gB
  box : At y gB 44 (bkA b v (.slice none 0 0))
  own : y.ownsRow (gB + 1) 3 1 v k (ICs (numK k))
theorem BoS.setCell {w y : World} {b : Bx} (h : BoS w b y) {g : Nat} (hg : w.heap.size < g) (j : Nat) (u : Value) : BoS w b (y.setCell ⟨g, j, none⟩ u) :=
  ⟨h.a.other (p := ⟨g, j, none⟩) (by show w.heap.size ≠ g; omega) u, h.bel.setCell (by show w.heap.size ≤ g; omega) u⟩
theorem BoS.grown {w y z : World} {b : Bx} {row : Option Nat} (h : BoS w b y) (hg : y.grownBy z row) (h1 : ∀ g, row = some g → w.heap.size < g) : BoS w b z :=
  ⟨h.a.grown hg (fun e => by have := h1 _ e.symm; omega), h.bel.grown hg h.bel.size (fun j e => Nat.le_of_lt (h1 j e))⟩
section
variable {w y y2 w9 : World} {gB k : Nat} {b : Bx} {v v2 : Value}
theorem L1S.grown (h : L1S w gB b k v y) (hk : Below y.heap.size y y2) (hg : y2.grownBy w9 v.ownBlock) : BoS w b w9 ∧ At w9 gB 44 (bkA b v (.slice none 0 0)) := by
  have ho := own_under h.own hk (Nat.le_refl _)
  have hl : ∀ j, v.ownBlock = some j → gB + 1 ≤ j := fun j hj => (ho.lt j hj).1
  exact ⟨(h.bo.call hk).grown hg (fun g e => by have := hl g e; have := h.gt; omega), (h.box.under hk h.box.lt).grown hg (own_ne ho (h.box.under hk h.box.lt) (by decide))⟩
theorem L1S.put (h : L1S w gB b k v y) (h9 : BoS w b w9 ∧ At w9 gB 44 (bkA b v (.slice none 0 0))) (ho : w9.ownsRow (gB + 1) 3 1 v2 (k + 1) (ICs (numK (k + 1)))) : L1S w gB b (k + 1) v2 (w9.setCell ⟨gB, 4, none⟩ v2) :=
  ⟨h9.1.setCell h.gt 4 v2, h.gt, h9.2.set 4 v2, ownsRow_setCell_below ho (a := ⟨gB, 4, none⟩) (Nat.lt_succ_self gB) v2⟩
end
theorem wr_sm (k : Nat) (h : k ≤ 100000) : IntKind.i64.wrap (k : Int) = (k : Int) ∧ wrap64 (k : Int) = (k : Int) := ⟨by rw [IntKind.wrap_i64]; omega, by unfold wrap64; omega⟩
theorem numK_first (k : Nat) (h : 1 ≤ k) (h4 : k ≤ 4) : (numK k).getD 0 0 = 20 := by
  have : k = 1 ∨ k = 2 ∨ k = 3 ∨ k = 4 := by omega
  rcases this with rfl | rfl | rfl | rfl <;> decide
/-- Got back, readable. -/
structure GtB (g : Nat) (d : Bx) (ps : List Int) (pn : Nat) (rs : List Rc) (rn : Nat) (PA : Option Addr) (pc : Nat) (RA : Option Addr) (rc : Nat) (y : World) : Prop where
  box : At y g 44 (bkA d (.slice PA pn pc) (.slice RA rn rc))
  bk : BkL y PA pn RA rn ps rs
theorem GtB.call {g : Nat} {d : Bx} {ps : List Int} {pn rn pc rc : Nat} {rs : List Rc} {PA RA : Option Addr} {y z : World} (h : GtB g d ps pn rs rn PA pc RA rc y) (hb : Below y.heap.size y z) : GtB g d ps pn rs rn PA pc RA rc z := ⟨h.box.under hb h.box.lt, h.bk.below hb⟩
theorem GtB.new {d : Bx} {ps : List Int} {pn rn pc rc B B' : Nat} {rs : List Rc} {PA RA : Option Addr} {y : World} (h1 : y.ownsRow B 3 1 (.slice PA pn pc) pn (ICs ps)) (h2 : y.ownsRow B' 50 4 (.slice RA rn rc) rn (rcsL rs)) : GtB y.heap.size d ps pn rs rn PA pc RA rc (y.alloc (.cells (bkA d (.slice PA pn pc) (.slice RA rn rc)) 44)) :=
  have hk := (Below.refl y.heap.size y).alloc (Nat.le_refl _) (.cells (bkA d (.slice PA pn pc) (.slice RA rn rc)) 44)
  ⟨At.new y 44 _, BkL.below ⟨Lz.of_own h1 (fun _ h => h.elim), Lz.of_own h2 (fun _ h => h.elim)⟩ hk⟩
/-- What the law holds behind Put. -/
structure PgL (w : World) (gB gP : Nat) (b : Bx) (ps : List Int) (pn : Nat) (rs : List Rc) (rn : Nat) (PA : Option Addr) (pc : Nat) (RA : Option Addr) (rc : Nat) (AP : Option Addr) (cP : Nat) (y : World) : Prop where
  box : At y gB 44 (bkA b (.slice PA pn pc) (.slice RA rn rc))
  bk : BkL y PA pn RA rn ps rs
  bo : BoS w b y
  cell : CelO y gP (.slice AP pn cP)
  ims : LIO y AP pn (putI ps rs)
theorem PgL.call {w y z : World} {gB gP pn rn pc rc cP : Nat} {b : Bx} {ps : List Int} {rs : List Rc} {PA RA AP : Option Addr} (h : PgL w gB gP b ps pn rs rn PA pc RA rc AP cP y) (hb : Below y.heap.size y z) : PgL w gB gP b ps pn rs rn PA pc RA rc AP cP z := ⟨h.box.under hb h.box.lt, h.bk.below hb, h.bo.call hb, h.cell.call hb, h.ims.call hb⟩
set_option maxHeartbeats 60000000 in
theorem Pages_any (b : Bx) (p : Nat) (A : Option Addr) (n c : Nat) (l : List Rc) (w : World) (hp : p < 256) (hL : Lz NoX w 4 A n (rcsL l)) (hok : ∀ r ∈ l, r.ok) : Calls Try.prog 5 #[.agg (bxA b), .int .u8 (p : Int), .slice A n c] w (RetV w (.bool true)) := by
  have HB0 := Lib.hid (BoS.start w b)
  have HL := Lib.hid hL
  have HLN := Lib.hid hL.rclen
  have HOK := Lib.hid hok
  clear hL hok
  have hmf : ∀ (fn : Fn) (first cap : Array Value) (w : World), (Instr.makeFunc fn first cap).run Try.prog w = .ok (.func fn first cap) w := fun _ _ _ _ => rfl
  obtain ⟨i0, hi0, hz0, hz1, hz2⟩ := int_info
  obtain ⟨r, hr⟩ : ∃ r, rightX b = r := ⟨_, rfl⟩
  have HR := Lib.hid hr
  clear hr
  go_enter Try.func5, Try.ntmps5
  go_upto_region 1 with fail
  generalize w.alloc (.cells (bxA b) 23) = y0 at HB0 ⊢
  go_wp2_with (first
    | ((with_reducible show wpList _ _ _ (⟨some 18, _, _, _, _, _⟩ :: _) _ _); refine wpList_load_at 23 18 (.tmp 3) rfl rfl rfl (w.heap.size) rfl (bxA b) 4 strX rfl HB0.out.a ?_)
    )
  refine (xRight_any b _).mono ?_
  rintro e z1 ⟨rfl, hk⟩
  rw [HR.out]
  have HB := Lib.hid (HB0.out.call hk)
  clear hk HB0
  cases r
  · go_wp2_with fail
    refine (works_any _).mono ?_
    rintro e z2 ⟨rfl, hk⟩
    replace HB := Lib.hid (HB.out.call hk)
    clear hk
    go_wp2_with fail
    go_ret
    exact ⟨rfl, HB.out.bel⟩
  · by_cases h100 : 100 < n
    · go_wp2_with fail
      refine (works_any _).mono ?_
      rintro e z3 ⟨rfl, hk⟩
      replace HB := Lib.hid (HB.out.call hk)
      clear hk
      go_wp2_with fail
      go_ret
      exact ⟨rfl, HB.out.bel⟩
    · have hn : n ≤ 100 := by omega
      obtain ⟨q, hq⟩ : ∃ q, p % 4 = q := ⟨_, rfl⟩
      have hwn : IntKind.i64.wrap (p : Int) = (p : Int) := by rw [IntKind.wrap_i64]; omega
      have hq1 : Int.tmod (p : Int) 4 = (q : Int) := by rw [Int.tmod_eq_emod_of_nonneg (by omega)]; omega
      have hq2 : (p : Int) % 4 = (q : Int) := by omega
      have hq4 : q < 4 := by omega
      clear hq
      go_upto_region 5 with (first
        | ((with_reducible show wpList _ _ _ (⟨some 27, _, _, _, _, _⟩ :: _) _ _); refine wpList_load_at 23 27 (.tmp 3) rfl rfl rfl (w.heap.size) rfl (bxA b) 4 strX rfl HB.out.a ?_)
        | ((with_reducible show wpList _ _ _ (⟨some 28, _, _, _, _, _⟩ :: _) _ _); refine wpList_of_exec 28 (.agg (bkA b (.slice none 0 0) (.slice none 0 0))) rfl rfl (exec_build_b0 (.tmp 27) rfl b rfl) ?_)
        | ((with_reducible show wpList _ _ _ (⟨none, _, _, _, _, _⟩ :: _) _ _); refine wpList_store_new 44 (.tmp 7) (.tmp 28) rfl rfl rfl z1.heap.size z1 rfl rfl (bkA b (.slice none 0 0) (.slice none 0 0)) _ 6 rfl strBk rfl rfl (bkA_one _ _ _ _ _ _ _) rfl ?_; have HS0 : Hid (L1S w z1.heap.size b 0 (.slice none 0 0) (z1.alloc (.cells (bkA b (.slice none 0 0) (.slice none 0 0)) 44))) := ⟨HB.out.call ((Below.refl z1.heap.size z1).alloc (Nat.le_refl _) _), HB.out.a.lt, At.new z1 44 _, World.ownsRow_nil _ _ _ _⟩; generalize z1.alloc (.cells (bkA b (.slice none 0 0) (.slice none 0 0)) 44) = y2 at HS0 ⊢; generalize z1.heap.size = gB at HS0 ⊢)
        )
      go_wp2_with fail
      go_loopw [8] (fun vi wr => ∃ (k : Nat) (v : Value), k ≤ q + 1 ∧ vi = .int .i64 (k : Int) ∧ Hid (L1S w gB b k v wr)) (fun i _ => q + 1 - (intOf i).toNat)
      case atStart => exact ⟨0, .slice none 0 0, Nat.zero_le _, by go_num, HS0⟩
      case round =>
        clear HB HS0
        obtain ⟨pn, v, hk, rfl, HS⟩ := hrel
        obtain ⟨PA, pc, rfl, hkc, _⟩ := pl_own_slice HS.out.own
        have c4 : wr.cell? ⟨gB, 4, none⟩ = some (.slice PA pn pc) := HS.out.box.cell 4
        by_cases hlt : pn ≤ q
        · have w1 : IntKind.i64.wrap (2 * (pn : Int)) = 2 * (pn : Int) := by rw [IntKind.wrap_i64]; omega
          have w2 : IntKind.i64.wrap (20 + 2 * (pn : Int)) = 20 + 2 * (pn : Int) := by rw [IntKind.wrap_i64]; omega
          have w3 : wrap64 (2 * (pn : Int)) = 2 * (pn : Int) := by unfold wrap64; omega
          have w4 : wrap64 (20 + 2 * (pn : Int)) = 20 + 2 * (pn : Int) := by unfold wrap64; omega
          go_upto_region 6 with (first
            | (refine wpList_lit1i 41 rfl (.tmp 40) rfl rfl (20 + 2 * (pn : Int)) rfl ?_; have HK := Lib.hid ((Below.refl wr.heap.size wr).alloc (Nat.le_refl _) (.cells #[.int .i64 (20 + 2 * (pn : Int))] 3)))
            | (at_builtin; refine pl_wpList_app _ rfl (.tmp 37) (.tmp 41) _ rfl (gB + 1) 3 i0 _ 1 8 Try.underlying42 hi0 hz0 hz1 hz2 rfl (by omega) _ pn _ rfl (own_under HS.out.own HK.out (Nat.le_refl _)) _ 1 1 (ICs [20 + 2 * (pn : Int)]) rfl rfl (fun j u hu => by rw [add_plain, Nat.zero_add]; have := (At.new wr 3 #[.int .i64 (20 + 2 * (pn : Int))]).cell j; rw [this]; simpa [ICs] using hu) (ICs_cell _) (by simp only [maxLen]; omega) (by omega) (Nat.le_trans HS.out.box.lt HK.out.size) ?_; intro v2 w9 ho9 hg9; obtain ⟨A2, c2, rfl, hkc2, _⟩ := pl_own_slice ho9; have H9 := Lib.hid (HS.out.grown HK.out hg9); have HO9 : Hid (w9.ownsRow (gB + 1) 3 1 (.slice A2 (pn + 1) c2) (pn + 1) (ICs (numK (pn + 1)))) := (by rw [numK_succ, ICs_append]; exact ho9); have d4 : w9.cell? ⟨gB, 4, none⟩ = some (.slice PA pn pc) := H9.out.2.cell 4; have f4 : w9.frozen? ⟨gB, 4, none⟩ = false := H9.out.2.frozen 4; clear c4 ho9 hg9))
          have HN := Lib.hid (HS.out.put H9.out HO9.out)
          clear d4 f4
          go_wp2_with fail
          go_round
          case rel => exact ⟨pn + 1, _, by omega, by go_num, HN⟩
          case measure => simp [intOf]; omega
        · have hpn1 : 1 ≤ pn := by omega
          have hpn4 : pn ≤ 4 := by omega
          obtain ⟨ps, hps⟩ : ∃ ps, numK pn = ps := ⟨_, rfl⟩
          have HPN : Hid (ps.length = pn) := by show _ = _; rw [← hps]; exact numK_length pn
          have HPO : Hid (PsOk ps) := by show PsOk _; rw [← hps]; exact psOk_num pn hpn1 hpn4
          have HF20 : Hid (ps.getD 0 0 = 20) := by show _ = _; rw [← hps]; exact numK_first pn hpn1 hpn4
          have HGT := HS.out.gt
          have HBO := Lib.hid HS.out.bo
          have HM0 : Hid (MdS w gB b ps pn [] 0 PA pc none 0 none wr) := ⟨Nat.le_of_lt HGT, HS.out.box, by rw [← hps]; exact Lz.of_own HS.out.own (fun j hj => by rw [show j = gB from hj]; exact Nat.lt_succ_self gB), Lz.empty, Lz.empty, Nat.le_refl _, HBO.out.bel⟩
          have zb0 : Hid ((#[Value.int .i64 0, .int .i64 0, .int .i64 0, .int .i64 0, .slice none 0 0, .slice none 0 0] : Array Value) = zbk) := rfl
          clear HS hps c4 hkc hz0 hz1 hz2 hi0
          go_wp2_with fail
          clear hwn hq1 hq2 hlt hk
          go_loopw [9] (fun vi wr => ∃ (k : Nat) (rs : List Rc) (rn : Nat) (PA : Option Addr) (pc : Nat) (RA : Option Addr) (rc : Nat), k ≤ n ∧ vi = .int .i64 (k : Int) ∧ Hid (rs.length = rn) ∧ Hid (GoodB pn rs) ∧ Hid (MdS w gB b ps pn rs rn PA pc RA rc RA wr) ∧ Hid (BoS w b wr)) (fun i _ => n - (intOf i).toNat)
          case atStart => exact ⟨0, [], 0, PA, pc, none, 0, Nat.zero_le _, by go_num, Lib.hid rfl, Lib.hid (GoodB.nil _), HM0, HBO⟩
          case round =>
            clear HM0 HBO
            obtain ⟨k, rs, rn, PA, pc, RA, rc, hk, rfl, HN, HG, HM, HBO⟩ := hrel
            have hrn : rn ≤ 32 := by have := HG.out.len; rw [HN.out] at this; omega
            have hcap := HM.out.cap
            by_cases hlt : k < n
            · obtain ⟨g, o, hl, rfl, hb, hc⟩ := HL.out.rc hlt
              obtain ⟨r, hr⟩ : ∃ r, l[k] = r := ⟨_, rfl⟩
              have HRO : Hid r.ok := by have := HOK.out _ (List.getElem_mem hl); rw [hr] at this; exact this
              rw [hr] at hc
              have R1 : Hid (∀ wz, Below wr.heap.size wr wz → wz.rangeAt g (o + k * 4) (rcL r)) := fun wz hz => pl_rangeAt_block hc ((HM.out.bel.trans (hz.mono HM.out.bel.size)).block g hb)
              clear hr hc hb
              obtain ⟨rs2, hrs2⟩ : ∃ rs2, (addR pn rs r).1 = rs2 := ⟨_, rfl⟩
              obtain ⟨n2, hn2⟩ : ∃ n2, rs2.length = n2 := ⟨_, rfl⟩
              obtain ⟨cd, hcd⟩ : ∃ cd, (addR pn rs r).2 = cd := ⟨_, rfl⟩
              have HG2 : Hid (GoodB pn rs2) := by show GoodB _ _; rw [← hrs2]; exact HG.out.add HRO.out
              have hn2b : n2 ≤ 32 := by have := HG2.out.len; omega
              have HACT : Hid (∀ wz, Below wr.heap.size wr wz → Calls Try.prog 21 #[.agg (bkA b (.slice PA pn pc) (.slice RA rn rc)), .agg (rcA r)] wz (RetBN wz b ps pn rs2 n2 (.int .i64 cd))) := fun wz hz => (Add_any b PA pn pc RA rn rc ps rs r wz (HM.out.bk.below hz) (by omega) (by omega) hcap).mono fun _ _ h => h.named hrs2 hn2 (by rw [hcd])
              have HN2 := Lib.hid hn2
              clear hrs2 hn2 hcd
              go_upto_region 11 with fail
              go_cut [10, 11] from 51 to 59 (fun sx sc wx => ∃ (gx : Nat) (A5 : Option Addr) (c5 : Nat) (A6 : Option Addr) (c6 : Nat), sx = .pointer (some ⟨gx, 0, none⟩) ∧ sc = .int .i64 cd ∧ Hid (BkN wr gx b ps pn rs2 n2 A5 c5 A6 c6 wx))
              case first =>
                refine wp_region_held_drew (S := fun wz => Below wr.heap.size wr wz) (by kernel_rfl) (Below.refl _ wr).drew (fun hS => ?_)
                generalize wr.drew = yd at hS ⊢
                refine tkS (v := .agg (bkA b (.slice PA pn pc) (.slice RA rn rc))) 0 hS ?_ (hy := by intro wz hz; exact exec_load_at 44 (.tmp 7) rfl gB rfl _ 6 strBk rfl (HM.out.box.under hz HM.out.box.lt))
                refine tkS 1 hS ?_
                refine tkS 2 hS ?_
                refine tkS 3 hS ?_
                refine tkS (v := .agg (rcA r)) 4 hS ?_ (hy := by intro wz hz; exact exec_load_rc (.tmp 54) rfl g (o + k * 4) rfl r (R1.out wz hz))
                refine wpAnyH_ready (rs := [5, 9]) (by kernel_rfl) (by simp) ?_
                refine AllReadyH.cons rfl (fun K hK => ?_) (AllReadyH.cons rfl (fun K hK => ?_) AllReadyH.nil)
                · go_simp
                  refine (HACT.out yd hS).mono ?_
                  rintro e y6 ⟨A5, c5, A6, c6, rfl, h5, h6, hb6⟩
                  have hb : True := trivial
                  have O5 := Lib.hid h5
                  have O6 := Lib.hid h6
                  have B6 := Lib.hid hb6
                  have HS1 := Lib.hid hS
                  clear h5 h6 hb6
                  refine hK.out _ _ (HS1.out.trans (B6.out.mono (Below.size HS1.out))) (fun hT => ?_)
                  clear hK hS
                  have hS := hT
                  clear hT
                  refine tkS 6 hS ?_
                  refine tkS 7 hS ?_
                  refine tkS 8 hS ?_
                  refine wpAnyH_ready (rs := [9]) (by kernel_rfl) (by simp) ?_
                  refine AllReadyH.cons rfl (fun K hK => ?_) AllReadyH.nil
                  go_simp
                  rw [zb0.out]
                  have AX := Lib.hid (At.new y6 44 zbk)
                  have HY := Lib.hid (Below.size HS1.out)
                  have HG := Lib.hid (show wr.heap.size ≤ y6.heap.size from Below.size hS)
                  have OX5 := Lib.hid (own_under O5.out ((Below.refl y6.heap.size y6).alloc (Nat.le_refl _) (.cells zbk 44)) (Nat.le_refl _))
                  have OX6 := Lib.hid (own_under O6.out ((Below.refl y6.heap.size y6).alloc (Nat.le_refl _) (.cells zbk 44)) (Nat.le_refl _))
                  have HT0 := Below.alloc hS (Below.size hS) (.cells zbk 44)
                  refine hK.out _ _ (HT0) (fun hT => ?_)
                  clear hK hS
                  have hS := hT
                  clear hT
                  refine wpAnyH_ready (rs := [10]) (by kernel_rfl) (by simp) ?_
                  refine AllReadyH.cons rfl (fun K hK => ?_) AllReadyH.nil
                  rw [if_pos (by rfl)]
                  refine wp_store_at 44 (.tmp 10) (.tmp 57) rfl rfl y6.heap.size rfl (bkA b (.slice A5 pn c5) (.slice A6 n2 c6)) zbk 6 rfl strBk rfl rfl (bkA_one _ _ _ _ _ _ _) AX.out ?_
                  intro w9 ha9 hg9
                  have HN := Lib.hid (show BkN wr y6.heap.size b ps pn rs2 n2 A5 c5 A6 c6 w9 from BkN.put hS HY.out OX5.out OX6.out HG.out AX.out ha9 hg9)
                  clear ha9 hg9
                  refine hK.out _ _ (HN.out.bel) (fun hT => ?_)
                  clear hK hS
                  have hS := hT
                  clear hT
                  dsimp only [Act.put]
                  refine tkS 11 hS ?_
                  refine wpAnyH_done (by kernel_rfl) ?_ _
                  go_wp2_with fail
                  go_meet
                  exact ⟨_, A5, c5, A6, c6, rfl, rfl, HN⟩
                · go_simp
                  rw [zb0.out]
                  have AX0 := Lib.hid (At.new yd 44 zbk)
                  have HT0 := Below.alloc hS (Below.size hS) (.cells zbk 44)
                  have HG := Lib.hid (Below.size hS)
                  refine hK.out _ _ (HT0) (fun hT => ?_)
                  clear hK hS
                  have hS := hT
                  clear hT
                  refine wpAnyH_ready (rs := [5]) (by kernel_rfl) (by simp) ?_
                  refine AllReadyH.cons rfl (fun K hK => ?_) AllReadyH.nil
                  go_simp
                  refine (HACT.out (yd.alloc (.cells zbk 44)) hS).mono ?_
                  rintro e y6 ⟨A5, c5, A6, c6, rfl, h5, h6, hb6⟩
                  have hb : True := trivial
                  have O5 := Lib.hid h5
                  have O6 := Lib.hid h6
                  have B6 := Lib.hid hb6
                  have HS1 := Lib.hid hS
                  clear h5 h6 hb6
                  refine hK.out _ _ (HS1.out.trans (B6.out.mono (Below.size HS1.out))) (fun hT => ?_)
                  clear hK hS
                  have hS := hT
                  clear hT
                  have AX := Lib.hid (AX0.out.under B6.out AX0.out.lt)
                  have OX5 := O5
                  have OX6 := O6
                  have HY := Lib.hid (Below.size HS1.out)
                  refine tkS 6 hS ?_
                  refine tkS 7 hS ?_
                  refine tkS 8 hS ?_
                  refine wpAnyH_ready (rs := [10]) (by kernel_rfl) (by simp) ?_
                  refine AllReadyH.cons rfl (fun K hK => ?_) AllReadyH.nil
                  rw [if_pos (by rfl)]
                  refine wp_store_at 44 (.tmp 10) (.tmp 57) rfl rfl yd.heap.size rfl (bkA b (.slice A5 pn c5) (.slice A6 n2 c6)) zbk 6 rfl strBk rfl rfl (bkA_one _ _ _ _ _ _ _) AX.out ?_
                  intro w9 ha9 hg9
                  have HN := Lib.hid (show BkN wr yd.heap.size b ps pn rs2 n2 A5 c5 A6 c6 w9 from BkN.put hS HY.out OX5.out OX6.out HG.out AX.out ha9 hg9)
                  clear ha9 hg9
                  refine hK.out _ _ (HN.out.bel) (fun hT => ?_)
                  clear hK hS
                  have hS := hT
                  clear hT
                  dsimp only [Act.put]
                  refine tkS 11 hS ?_
                  refine wpAnyH_done (by kernel_rfl) ?_ _
                  go_wp2_with fail
                  go_meet
                  exact ⟨_, A5, c5, A6, c6, rfl, rfl, HN⟩
              obtain ⟨gx, A5, c5, A6, c6, rfl, rfl, HNW⟩ := hcut
              rename World => y7
              have HM7 := Lib.hid (HM.out.call HNW.out.bel)
              have HBO7 := Lib.hid (HBO.out.call HNW.out.bel)
              go_upto_region 10 with (first
                | ((with_reducible show wpList _ _ _ (⟨some 59, _, _, _, _, _⟩ :: _) _ _); refine wpList_load_at 44 59 (.tmp 10) rfl rfl rfl gx rfl (bkA b (.slice A5 pn c5) (.slice A6 n2 c6)) 6 strBk rfl HNW.out.box ?_)
                | ((with_reducible show wpList _ _ _ (⟨none, _, _, _, _, _⟩ :: _) _ _); refine wpList_store_at 44 (.tmp 7) (.tmp 59) rfl rfl rfl gB rfl (bkA b (.slice A5 pn c5) (.slice A6 n2 c6)) (bkA b (.slice PA pn pc) (.slice RA rn rc)) 6 rfl strBk rfl rfl (bkA_one _ _ _ _ _ _ _) HM7.out.box ?_; intro y9 ha9 hg9; have HM9 := Lib.hid (HM.out.take (y := y7) HNW.out (Lz.of_own HNW.out.recs (fun _ h => h.elim)) ha9 hg9); have HBO9 := Lib.hid (HBO7.out.grown hg9 (fun j e => by injection e with e; omega)); clear ha9 hg9)
                )
              go_wp2_with fail
              exact ⟨⟨k + 1, rs2, n2, A5, c5, A6, c6, by omega, by go_num, HN2, HG2, HM9, HBO9⟩, by simp [intOf]; omega⟩
            · have HPG : Hid (putG ps rs = putI ps rs) := putG_chain HPO.out (by rw [HPN.out]; exact HG.out)
              go_upto_region 14 with (first
                | ((with_reducible show wpList _ _ _ (⟨some 60, _, _, _, _, _⟩ :: _) _ _); refine wpList_load_at 44 60 (.tmp 7) rfl rfl rfl gB rfl (bkA b (.slice PA pn pc) (.slice RA rn rc)) 6 strBk rfl HM.out.box ?_)
                | (go_at_call 25; refine (putG_any b PA pn pc RA rn rc ps rs wr HM.out.bk HG.out.recs (by omega) (by omega) hcap).mono ?_; rw [HPG.out]; rintro e y6 ⟨AP, nP, cP, rfl, hl6, hb6⟩; have h26 := hl6.len; have h27 : pn = nP := (by rw [← h26, ← HPN.out]; simp [putI, putK]); subst h27; have HI6 : Hid (LIO y6 AP pn (putI ps rs)) := hl6; have HM6 := Lib.hid (HM.out.call hb6); have HBO6 := Lib.hid (HBO.out.call hb6); clear hl6 hb6 h26))
              have hk7 := (Below.refl y6.heap.size y6).alloc (Nat.le_refl _) (.cells #[.slice AP pn cP] 60)
              have HP : Hid (PgL w gB y6.heap.size b ps pn rs rn PA pc RA rc AP cP (y6.alloc (.cells #[.slice AP pn cP] 60))) := ⟨(HM6.out.call hk7).box, (HM6.out.call hk7).bk, HBO6.out.call hk7, (At.new y6 60 #[.slice AP pn cP]).cell 0, HI6.out.call hk7⟩
              clear hk7 HM6 HI6 HBO6 HM HBO
              generalize (y6.alloc (.cells #[.slice AP pn cP] 60)) = y7 at HP ⊢
              generalize y6.heap.size = gP at HP ⊢
              have c0 : y7.cell? ⟨gP, 0, none⟩ = some (.slice AP pn cP) := HP.out.cell
              have c1 : y7.cell? ⟨gB, 4, none⟩ = some (.slice PA pn pc) := HP.out.box.cell 4
              go_wp2_with fail
              clear hlt hk
              go_loopw [13] (fun vi wr => ∃ k : Nat, k ≤ pn ∧ vi = .int .i64 (k : Int) ∧ Hid (Below y7.heap.size y7 wr)) (fun i _ => pn - (intOf i).toNat)
              case atStart => exact ⟨0, Nat.zero_le _, by go_num, Lib.hid (Below.refl _ _)⟩
              case round =>
                obtain ⟨k, hk, rfl, HB⟩ := hrel
                have HPw := Lib.hid (HP.out.call HB.out)
                clear c0 c1
                have c0 : wr.cell? ⟨gP, 0, none⟩ = some (.slice AP pn cP) := HPw.out.cell
                have c1 : wr.cell? ⟨gB, 4, none⟩ = some (.slice PA pn pc) := HPw.out.box.cell 4
                have c5 : wr.cell? ⟨gB, 5, none⟩ = some (.slice RA rn rc) := HPw.out.box.cell 5
                by_cases hlt : k < pn
                · obtain ⟨bI, o, hl1, hAP, hb, hr⟩ := LI.at HPw.out.ims hlt
                  subst hAP
                  obtain ⟨pb, po, hl2, hPA, hb2, hc2⟩ := HPw.out.bk.p.ic hlt
                  subst hPA
                  obtain ⟨pk, hpk⟩ : ∃ pk, ps[k] = pk := ⟨_, rfl⟩
                  obtain ⟨nx, hnx⟩ : ∃ nx, (ps.getD (k + 1) 0).toNat = nx := ⟨_, rfl⟩
                  have hnn := next_num HPO.out (k + 1)
                  rw [hnx] at hnn
                  obtain ⟨hnI, hnx2⟩ := hnn
                  obtain ⟨pg, hpg⟩ : ∃ pg, pageP nx (chunk rs k) = pg := ⟨_, rfl⟩
                  have hei : (putI ps rs)[k] = ⟨pk, pg⟩ := by
                    have : (putI ps rs)[k] = pgK ps rs k := by simp [putI, putK]
                    rw [this, pgK, hnx, hpg, getD_lt hl2, hpk]
                  rw [hei] at hr
                  rw [hpk] at hc2
                  have HI1 : Hid (∀ wz, Below wr.heap.size wr wz → wz.rangeAt bI (o + k * 225) (imL ⟨pk, pg⟩)) := fun wz hz => pl_rangeAt_block hr (hz.block bI hb)
                  have HI2 : Hid (∀ wz, Below wr.heap.size wr wz → wz.cell? ⟨pb, po + k, none⟩ = some (.int .i64 pk)) := fun wz hz => (hz.cell (p := ⟨pb, po + k, none⟩) hb2).trans hc2
                  obtain ⟨lo, hlo⟩ : ∃ lo, lo = min (8 * k) rn := ⟨_, rfl⟩
                  obtain ⟨hi, hhi⟩ : ∃ hi, hi = min (8 * k + 8) rn := ⟨_, rfl⟩
                  have HCH : Hid (∀ wz, Below wr.heap.size wr wz → Lz NoX wz 4 (cutA RA rc lo) (hi - lo) (rcsL (chunk rs k))) := fun wz hz => chunk_part (HPw.out.bk.r.below hz) hcap hlo hhi
                  have HFT : Hid (Fits (chunk rs k)) := chunk_fits (ps := ps) (HPO.out.ok (by rw [HPN.out]; exact HG.out)) k
                  have HRP : Hid (∀ wz, Below wr.heap.size wr wz → Calls Try.prog 26 #[.int .i64 (nx : Int), .slice (cutA RA rc lo) (hi - lo) (rc - lo)] wz (RetPg wz pg)) := fun wz hz => by rw [← hpg]; exact rPage_any nx _ _ _ _ wz (HCH.out wz hz) HFT.out hnx2
                  have hlh : lo ≤ hi := by omega
                  have hhc : hi ≤ rc := by omega
                  obtain ⟨k5, hk5⟩ : ∃ k5, k5 = 8 * k := ⟨_, rfl⟩
                  obtain ⟨k55, hk55⟩ : ∃ k55, k55 = 8 * k + 8 := ⟨_, rfl⟩
                  have f1 : 8 * (k : Int) = (k5 : Int) := by omega
                  obtain ⟨f2, f3⟩ := wr_sm k5 (by omega)
                  have f4 : (k5 : Int) + 8 = (k55 : Int) := by omega
                  obtain ⟨f5, f6⟩ := wr_sm k55 (by omega)
                  have g1 : (if (rn : Int) < (k5 : Int) then (rn : Int) else (k5 : Int)) = (lo : Int) := by split <;> omega
                  have g2 : (if rn < k5 then (rn : Int) else (k5 : Int)) = (lo : Int) := by split <;> omega
                  have g3 : (if (rn : Int) < (k55 : Int) then (rn : Int) else (k55 : Int)) = (hi : Int) := by split <;> omega
                  have g4 : (if rn < k55 then (rn : Int) else (k55 : Int)) = (hi : Int) := by split <;> omega
                  obtain ⟨kx, hkx⟩ : ∃ kx, kx = k + 1 := ⟨_, rfl⟩
                  have e1 : (k : Int) + 1 = (kx : Int) := by omega
                  obtain ⟨e2, e3⟩ := wr_sm kx (by omega)
                  have HKX := Lib.hid hkx
                  by_cases hk1 : k + 1 < pn
                  · obtain ⟨pb', po', hl3, e7, _, hc3⟩ := HPw.out.bk.p.ic hk1
                    injection e7 with e7
                    injection e7 with e8 e9
                    subst e8 e9
                    have c3 : wr.cell? ⟨pb, po + kx, none⟩ = some (.int .i64 (nx : Int)) := by
                      rw [hkx, hnI, getD_lt hl3]
                      exact hc3
                    have hkxn : kx < pn := by rw [hkx]; exact hk1
                    clear hpk hnx hpg hei hr hc2 hb hb2 hlo hhi hk5 hk55 hkx hnI hc3 hk1
                    go_upto_region 22 with fail
                    go_upto_region 23 with (refine wpList_part 100 (.tmp 86) (.tmp 92) (.tmp 99) rfl rfl rfl RA rn rc lo hi rfl rfl rfl hlh hhc ?_)
                    refine wp_region_held_drew (S := Below wr.heap.size wr) (by kernel_rfl) (Below.refl _ wr).drew (fun hS => ?_)
                    refine tkS 0 hS ?_ (hy := by intro wz hz; have HPz := HPw.out.call hz; have q0 : wz.cell? ⟨gP, 0, none⟩ = some (.slice (some ⟨bI, o, none⟩) pn cP) := HPz.cell; have q1 : wz.cell? ⟨gB, 4, none⟩ = some (.slice (some ⟨pb, po, none⟩) pn pc) := HPz.box.cell 4; have q2 : wz.cell? ⟨bI, o + k * 225, none⟩ = some (.int .i64 pk) := im_page (HI1.out wz hz); have q3 : wz.cell? ⟨pb, po + k, none⟩ = some (.int .i64 pk) := HI2.out wz hz; go_simp <;> with_reducible rfl)
                    refine tkS 1 hS ?_
                    refine tkS 2 hS ?_
                    refine tkS 3 hS ?_
                    refine tkS 4 hS ?_ (hy := by intro wz hz; have HPz := HPw.out.call hz; have q0 : wz.cell? ⟨gP, 0, none⟩ = some (.slice (some ⟨bI, o, none⟩) pn cP) := HPz.cell; have q1 : wz.cell? ⟨gB, 4, none⟩ = some (.slice (some ⟨pb, po, none⟩) pn pc) := HPz.box.cell 4; have q2 : wz.cell? ⟨bI, o + k * 225, none⟩ = some (.int .i64 pk) := im_page (HI1.out wz hz); have q3 : wz.cell? ⟨pb, po + k, none⟩ = some (.int .i64 pk) := HI2.out wz hz; go_simp <;> with_reducible rfl)
                    refine tkS 5 hS ?_
                    refine tkS 6 hS ?_ (hy := by intro wz hz; have HPz := HPw.out.call hz; have q0 : wz.cell? ⟨gP, 0, none⟩ = some (.slice (some ⟨bI, o, none⟩) pn cP) := HPz.cell; have q1 : wz.cell? ⟨gB, 4, none⟩ = some (.slice (some ⟨pb, po, none⟩) pn pc) := HPz.box.cell 4; have q2 : wz.cell? ⟨bI, o + k * 225, none⟩ = some (.int .i64 pk) := im_page (HI1.out wz hz); have q3 : wz.cell? ⟨pb, po + k, none⟩ = some (.int .i64 pk) := HI2.out wz hz; go_simp <;> with_reducible rfl)
                    refine tkS 7 hS ?_
                    refine tkS 8 hS ?_
                    refine tkS 9 hS ?_ (hy := by intro wz hz; have HPz := HPw.out.call hz; have q0 : wz.cell? ⟨gP, 0, none⟩ = some (.slice (some ⟨bI, o, none⟩) pn cP) := HPz.cell; have q1 : wz.cell? ⟨gB, 4, none⟩ = some (.slice (some ⟨pb, po, none⟩) pn pc) := HPz.box.cell 4; have q2 : wz.cell? ⟨bI, o + k * 225, none⟩ = some (.int .i64 pk) := im_page (HI1.out wz hz); have q3 : wz.cell? ⟨pb, po + k, none⟩ = some (.int .i64 pk) := HI2.out wz hz; go_simp <;> with_reducible rfl)
                    refine tkS (v := .bool false) 10 hS ?_ (hy := by intro wz hz; have HPz := HPw.out.call hz; have q0 : wz.cell? ⟨gP, 0, none⟩ = some (.slice (some ⟨bI, o, none⟩) pn cP) := HPz.cell; have q1 : wz.cell? ⟨gB, 4, none⟩ = some (.slice (some ⟨pb, po, none⟩) pn pc) := HPz.box.cell 4; have q2 : wz.cell? ⟨bI, o + k * 225, none⟩ = some (.int .i64 pk) := im_page (HI1.out wz hz); have q3 : wz.cell? ⟨pb, po + k, none⟩ = some (.int .i64 pk) := HI2.out wz hz; (go_simp <;> first | rfl | simp))
                    refine tkS 11 hS ?_
                    refine tkS 12 hS ?_ (hy := by intro wz hz; have HPz := HPw.out.call hz; have q0 : wz.cell? ⟨gP, 0, none⟩ = some (.slice (some ⟨bI, o, none⟩) pn cP) := HPz.cell; have q1 : wz.cell? ⟨gB, 4, none⟩ = some (.slice (some ⟨pb, po, none⟩) pn pc) := HPz.box.cell 4; have q2 : wz.cell? ⟨bI, o + k * 225, none⟩ = some (.int .i64 pk) := im_page (HI1.out wz hz); have q3 : wz.cell? ⟨pb, po + k, none⟩ = some (.int .i64 pk) := HI2.out wz hz; go_simp <;> with_reducible rfl)
                    refine tkS 13 hS ?_
                    refine tkS 14 hS ?_
                    refine tkS 15 hS ?_
                    refine tkS (v := .agg (pgA pg)) 16 hS ?_ (hy := by intro wz hz; have HPz := HPw.out.call hz; have q0 : wz.cell? ⟨gP, 0, none⟩ = some (.slice (some ⟨bI, o, none⟩) pn cP) := HPz.cell; have q1 : wz.cell? ⟨gB, 4, none⟩ = some (.slice (some ⟨pb, po, none⟩) pn pc) := HPz.box.cell 4; have q2 : wz.cell? ⟨bI, o + k * 225, none⟩ = some (.int .i64 pk) := im_page (HI1.out wz hz); have q3 : wz.cell? ⟨pb, po + k, none⟩ = some (.int .i64 pk) := HI2.out wz hz; exact exec_load_pg (.tmp 116) rfl bI (o + k * 225 + 1) rfl ⟨pk, pg⟩ (o + k * 225) rfl (HI1.out wz hz))
                    refine tkS 17 hS ?_
                    refine tkS 18 hS ?_
                    refine wpAnyH_ready (rs := [19]) (by kernel_rfl) (by simp) ?_
                    refine AllReadyH.cons rfl (fun K hK => ?_) AllReadyH.nil
                    go_simp
                    refine (HRP.out _ hS).mono ?_
                    rintro e y9 ⟨rfl, hb9⟩
                    have hb : True := trivial
                    have HS5 := Lib.hid (hS.trans (hb9.mono hS.size))
                    clear hb9
                    refine hK.out _ _ (HS5.out) (fun hT => ?_)
                    clear hK hb hS
                    have hS := hT
                    clear hT
                    refine tkS (v := .bool (!(pg == pg))) 20 hS ?_ (hy := by intro wz hz; have HPz := HPw.out.call hz; have q0 : wz.cell? ⟨gP, 0, none⟩ = some (.slice (some ⟨bI, o, none⟩) pn cP) := HPz.cell; have q1 : wz.cell? ⟨gB, 4, none⟩ = some (.slice (some ⟨pb, po, none⟩) pn pc) := HPz.box.cell 4; have q2 : wz.cell? ⟨bI, o + k * 225, none⟩ = some (.int .i64 pk) := im_page (HI1.out wz hz); have q3 : wz.cell? ⟨pb, po + k, none⟩ = some (.int .i64 pk) := HI2.out wz hz; exact exec_neq_pg (.tmp 117) (.tmp 120) rfl pg pg wz rfl rfl)
                    refine tkS (v := .bool false) 21 hS ?_ (hy := by intro wz hz; have HPz := HPw.out.call hz; have q0 : wz.cell? ⟨gP, 0, none⟩ = some (.slice (some ⟨bI, o, none⟩) pn cP) := HPz.cell; have q1 : wz.cell? ⟨gB, 4, none⟩ = some (.slice (some ⟨pb, po, none⟩) pn pc) := HPz.box.cell 4; have q2 : wz.cell? ⟨bI, o + k * 225, none⟩ = some (.int .i64 pk) := im_page (HI1.out wz hz); have q3 : wz.cell? ⟨pb, po + k, none⟩ = some (.int .i64 pk) := HI2.out wz hz; (go_simp <;> first | rfl | simp))
                    refine wpAnyH_done (by kernel_rfl) ?_ _
                    have HB3 := Lib.hid (HB.out.trans (hS.mono HB.out.size))
                    clear hS
                    go_wp2_with fail
                    clear e2 e3 f2 f3 f5 f6 g1 g2 g3 g4
                    go_round
                    case rel => exact ⟨k + 1, by omega, by rw [HKX.out], HB3⟩
                    case measure => have := HKX.out; simp [intOf]; omega
                  · have hz0 : ((nx : Nat) : Int) = 0 := by rw [hnI]; exact getD_ge (by rw [HPN.out]; exact Nat.le_of_not_lt hk1)
                    have hkxn : ¬ kx < pn := by rw [hkx]; exact hk1
                    rw [hz0] at HRP
                    clear hpk hnx hpg hei hr hc2 hb hb2 hlo hhi hk5 hk55 hkx hnI hk1 hz0
                    go_upto_region 22 with fail
                    go_upto_region 23 with (refine wpList_part 100 (.tmp 86) (.tmp 92) (.tmp 99) rfl rfl rfl RA rn rc lo hi rfl rfl rfl hlh hhc ?_)
                    refine wp_region_held_drew (S := Below wr.heap.size wr) (by kernel_rfl) (Below.refl _ wr).drew (fun hS => ?_)
                    refine tkS 0 hS ?_ (hy := by intro wz hz; have HPz := HPw.out.call hz; have q0 : wz.cell? ⟨gP, 0, none⟩ = some (.slice (some ⟨bI, o, none⟩) pn cP) := HPz.cell; have q1 : wz.cell? ⟨gB, 4, none⟩ = some (.slice (some ⟨pb, po, none⟩) pn pc) := HPz.box.cell 4; have q2 : wz.cell? ⟨bI, o + k * 225, none⟩ = some (.int .i64 pk) := im_page (HI1.out wz hz); have q3 : wz.cell? ⟨pb, po + k, none⟩ = some (.int .i64 pk) := HI2.out wz hz; go_simp <;> with_reducible rfl)
                    refine tkS 1 hS ?_
                    refine tkS 2 hS ?_
                    refine tkS 3 hS ?_
                    refine tkS 4 hS ?_ (hy := by intro wz hz; have HPz := HPw.out.call hz; have q0 : wz.cell? ⟨gP, 0, none⟩ = some (.slice (some ⟨bI, o, none⟩) pn cP) := HPz.cell; have q1 : wz.cell? ⟨gB, 4, none⟩ = some (.slice (some ⟨pb, po, none⟩) pn pc) := HPz.box.cell 4; have q2 : wz.cell? ⟨bI, o + k * 225, none⟩ = some (.int .i64 pk) := im_page (HI1.out wz hz); have q3 : wz.cell? ⟨pb, po + k, none⟩ = some (.int .i64 pk) := HI2.out wz hz; go_simp <;> with_reducible rfl)
                    refine tkS 5 hS ?_
                    refine tkS 6 hS ?_ (hy := by intro wz hz; have HPz := HPw.out.call hz; have q0 : wz.cell? ⟨gP, 0, none⟩ = some (.slice (some ⟨bI, o, none⟩) pn cP) := HPz.cell; have q1 : wz.cell? ⟨gB, 4, none⟩ = some (.slice (some ⟨pb, po, none⟩) pn pc) := HPz.box.cell 4; have q2 : wz.cell? ⟨bI, o + k * 225, none⟩ = some (.int .i64 pk) := im_page (HI1.out wz hz); have q3 : wz.cell? ⟨pb, po + k, none⟩ = some (.int .i64 pk) := HI2.out wz hz; go_simp <;> with_reducible rfl)
                    refine tkS 7 hS ?_
                    refine tkS 8 hS ?_
                    refine tkS 9 hS ?_ (hy := by intro wz hz; have HPz := HPw.out.call hz; have q0 : wz.cell? ⟨gP, 0, none⟩ = some (.slice (some ⟨bI, o, none⟩) pn cP) := HPz.cell; have q1 : wz.cell? ⟨gB, 4, none⟩ = some (.slice (some ⟨pb, po, none⟩) pn pc) := HPz.box.cell 4; have q2 : wz.cell? ⟨bI, o + k * 225, none⟩ = some (.int .i64 pk) := im_page (HI1.out wz hz); have q3 : wz.cell? ⟨pb, po + k, none⟩ = some (.int .i64 pk) := HI2.out wz hz; go_simp <;> with_reducible rfl)
                    refine tkS (v := .bool false) 10 hS ?_ (hy := by intro wz hz; have HPz := HPw.out.call hz; have q0 : wz.cell? ⟨gP, 0, none⟩ = some (.slice (some ⟨bI, o, none⟩) pn cP) := HPz.cell; have q1 : wz.cell? ⟨gB, 4, none⟩ = some (.slice (some ⟨pb, po, none⟩) pn pc) := HPz.box.cell 4; have q2 : wz.cell? ⟨bI, o + k * 225, none⟩ = some (.int .i64 pk) := im_page (HI1.out wz hz); have q3 : wz.cell? ⟨pb, po + k, none⟩ = some (.int .i64 pk) := HI2.out wz hz; (go_simp <;> first | rfl | simp))
                    refine tkS 11 hS ?_
                    refine tkS 12 hS ?_ (hy := by intro wz hz; have HPz := HPw.out.call hz; have q0 : wz.cell? ⟨gP, 0, none⟩ = some (.slice (some ⟨bI, o, none⟩) pn cP) := HPz.cell; have q1 : wz.cell? ⟨gB, 4, none⟩ = some (.slice (some ⟨pb, po, none⟩) pn pc) := HPz.box.cell 4; have q2 : wz.cell? ⟨bI, o + k * 225, none⟩ = some (.int .i64 pk) := im_page (HI1.out wz hz); have q3 : wz.cell? ⟨pb, po + k, none⟩ = some (.int .i64 pk) := HI2.out wz hz; go_simp <;> with_reducible rfl)
                    refine tkS 13 hS ?_
                    refine tkS 14 hS ?_
                    refine tkS 15 hS ?_
                    refine tkS (v := .agg (pgA pg)) 16 hS ?_ (hy := by intro wz hz; have HPz := HPw.out.call hz; have q0 : wz.cell? ⟨gP, 0, none⟩ = some (.slice (some ⟨bI, o, none⟩) pn cP) := HPz.cell; have q1 : wz.cell? ⟨gB, 4, none⟩ = some (.slice (some ⟨pb, po, none⟩) pn pc) := HPz.box.cell 4; have q2 : wz.cell? ⟨bI, o + k * 225, none⟩ = some (.int .i64 pk) := im_page (HI1.out wz hz); have q3 : wz.cell? ⟨pb, po + k, none⟩ = some (.int .i64 pk) := HI2.out wz hz; exact exec_load_pg (.tmp 116) rfl bI (o + k * 225 + 1) rfl ⟨pk, pg⟩ (o + k * 225) rfl (HI1.out wz hz))
                    refine tkS 17 hS ?_
                    refine tkS 18 hS ?_
                    refine wpAnyH_ready (rs := [19]) (by kernel_rfl) (by simp) ?_
                    refine AllReadyH.cons rfl (fun K hK => ?_) AllReadyH.nil
                    go_simp
                    refine (HRP.out _ hS).mono ?_
                    rintro e y9 ⟨rfl, hb9⟩
                    have hb : True := trivial
                    have HS5 := Lib.hid (hS.trans (hb9.mono hS.size))
                    clear hb9
                    refine hK.out _ _ (HS5.out) (fun hT => ?_)
                    clear hK hb hS
                    have hS := hT
                    clear hT
                    refine tkS (v := .bool (!(pg == pg))) 20 hS ?_ (hy := by intro wz hz; have HPz := HPw.out.call hz; have q0 : wz.cell? ⟨gP, 0, none⟩ = some (.slice (some ⟨bI, o, none⟩) pn cP) := HPz.cell; have q1 : wz.cell? ⟨gB, 4, none⟩ = some (.slice (some ⟨pb, po, none⟩) pn pc) := HPz.box.cell 4; have q2 : wz.cell? ⟨bI, o + k * 225, none⟩ = some (.int .i64 pk) := im_page (HI1.out wz hz); have q3 : wz.cell? ⟨pb, po + k, none⟩ = some (.int .i64 pk) := HI2.out wz hz; exact exec_neq_pg (.tmp 117) (.tmp 120) rfl pg pg wz rfl rfl)
                    refine tkS (v := .bool false) 21 hS ?_ (hy := by intro wz hz; have HPz := HPw.out.call hz; have q0 : wz.cell? ⟨gP, 0, none⟩ = some (.slice (some ⟨bI, o, none⟩) pn cP) := HPz.cell; have q1 : wz.cell? ⟨gB, 4, none⟩ = some (.slice (some ⟨pb, po, none⟩) pn pc) := HPz.box.cell 4; have q2 : wz.cell? ⟨bI, o + k * 225, none⟩ = some (.int .i64 pk) := im_page (HI1.out wz hz); have q3 : wz.cell? ⟨pb, po + k, none⟩ = some (.int .i64 pk) := HI2.out wz hz; (go_simp <;> first | rfl | simp))
                    refine wpAnyH_done (by kernel_rfl) ?_ _
                    have HB3 := Lib.hid (HB.out.trans (hS.mono HB.out.size))
                    clear hS
                    go_wp2_with fail
                    clear e2 e3 f2 f3 f5 f6 g1 g2 g3 g4
                    go_round
                    case rel => exact ⟨k + 1, by omega, by rw [HKX.out], HB3⟩
                    case measure => have := HKX.out; simp [intOf]; omega
                · obtain rfl : k = pn := by omega
                  clear c1 c5
                  go_upto_region 26 with (first
                    | ((with_reducible show wpList _ _ _ (⟨some 124, _, _, _, _, _⟩ :: _) _ _); refine wpList_load_at 23 124 (.tmp 3) rfl rfl rfl (w.heap.size) rfl (bxA b) 4 strX rfl HPw.out.bo.a ?_)
                    | (go_at_call 27; refine (GetP b HPO.out HPN.out HG.out HN.out 20 HF20.out gP cP AP wr HPw.out.cell HPw.out.ims).mono ?_; rintro e y8 ⟨AQ, cQ, AR, cR, rfl, h1, h2, hk8⟩; have HQ := Lib.hid h1; have HQR := Lib.hid h2; have HP8 := Lib.hid (HPw.out.call hk8); clear h1 h2 hk8)
                    | (refine wpList_store_new 44 (.tmp 16) (.tmp 127) rfl rfl rfl y8.heap.size y8 rfl rfl (bkA b (.slice AQ k cQ) (.slice AR rn cR)) _ 6 rfl strBk rfl rfl (bkA_one _ _ _ _ _ _ _) rfl ?_; have HGw := Lib.hid (GtB.new (d := b) HQ.out HQR.out); have HP9 := Lib.hid (HP8.out.call ((Below.refl y8.heap.size y8).alloc (Nat.le_refl _) (.cells (bkA b (.slice AQ k cQ) (.slice AR rn cR)) 44)))))
                  generalize (y8.alloc (.cells (bkA b (.slice AQ k cQ) (.slice AR rn cR)) 44)) = y9 at HGw HP9 ⊢
                  generalize y8.heap.size = gG at HGw ⊢
                  clear HQ HQR HP8 HPw HB HP hlt hk c0
                  have d0 : y9.cell? ⟨gG, 0, none⟩ = some (.int .i64 b.x0) := HGw.out.box.cell 0
                  have d1 : y9.cell? ⟨gG, 1, none⟩ = some (.int .i64 b.y0) := HGw.out.box.cell 1
                  have d2 : y9.cell? ⟨gG, 2, none⟩ = some (.int .i64 b.x1) := HGw.out.box.cell 2
                  have d3 : y9.cell? ⟨gG, 3, none⟩ = some (.int .i64 b.y1) := HGw.out.box.cell 3
                  have d4 : y9.cell? ⟨gG, 4, none⟩ = some (.slice AQ k cQ) := HGw.out.box.cell 4
                  have d5 : y9.cell? ⟨gG, 5, none⟩ = some (.slice AR rn cR) := HGw.out.box.cell 5
                  have m4 : y9.cell? ⟨gB, 4, none⟩ = some (.slice PA k pc) := HP9.out.box.cell 4
                  have m5 : y9.cell? ⟨gB, 5, none⟩ = some (.slice RA rn rc) := HP9.out.box.cell 5
                  have x0 : y9.cell? ⟨w.heap.size, 0, none⟩ = some (.int .i64 b.x0) := HP9.out.bo.a.cell 0
                  have x1 : y9.cell? ⟨w.heap.size, 1, none⟩ = some (.int .i64 b.y0) := HP9.out.bo.a.cell 1
                  have x2 : y9.cell? ⟨w.heap.size, 2, none⟩ = some (.int .i64 b.x1) := HP9.out.bo.a.cell 2
                  have x3 : y9.cell? ⟨w.heap.size, 3, none⟩ = some (.int .i64 b.y1) := HP9.out.bo.a.cell 3
                  go_wp2_with (first
                    | ((with_reducible show wpList _ _ _ (⟨some 134, _, _, _, _, _⟩ :: _) _ _); refine tkL (v := .bool true) ?_ (hy := exec_eql_bx (.tmp 132) (.tmp 133) rfl b b _ true rfl rfl (sameX_refl b)))
                    )
                  refine (Same_any AR RA rn cR rc rs y9 HGw.out.bk.r HP9.out.bk.r (by omega)).mono ?_
                  rintro e ya ⟨rfl, hka⟩
                  have HPa := Lib.hid (HP9.out.call hka)
                  clear hka d0 d1 d2 d3 d4 d5 m4 m5 x0 x1 x2 x3
                  go_wp2_with fail
                  refine (works_any _).mono ?_
                  rintro e yg ⟨rfl, hkk⟩
                  have HLAST := Lib.hid (HPa.out.call hkk).bo.bel
                  clear hkk
                  go_wp2_with fail
                  go_ret
                  exact ⟨rfl, HLAST.out⟩
end Go.Proofs.Ytgjkbnplpioloaa
