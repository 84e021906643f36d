/-
  Put of a bucket as it must be.
  Conditions: at most 100 pages.
-/
import Derived.Test.YtgjkbnplpioloaaB17
namespace Go.Proofs.Ytgjkbnplpioloaa
open Go.RowKit
attribute [local go_sem] Oper.semAt_some
set_option maxRecDepth 20000

def chunk (rs : List Rc) (k : Nat) : List Rc := (rs.drop (8 * k)).take 8
/-- The k-th page of a bucket. -/
def pgK (ps : List Int) (rs : List Rc) (k : Nat) : Im := ⟨ps.getD k 0, pageP (ps.getD (k + 1) 0).toNat (chunk rs k)⟩
def putK (ps : List Int) (rs : List Rc) (k : Nat) : List Im := (List.range k).map (pgK ps rs)
def putI (ps : List Int) (rs : List Rc) : List Im := putK ps rs ps.length
theorem putK_succ (ps : List Int) (rs : List Rc) (k : Nat) : putK ps rs (k + 1) = putK ps rs k ++ [pgK ps rs k] := by simp [putK, List.range_succ]
/-- While the pages are gathered: k are. -/
structure PutS (w : World) (B : Array Value) (ps : List Int) (rs : List Rc) (k : Nat) (v : Value) (wr : World) : Prop where
  own : wr.ownsRow (w.heap.size + 1) 64 225 v k (flatI (putK ps rs k))
  below : Below w.heap.size w wr
  box : At wr w.heap.size 44 B
  high : w.heap.size + 1 ≤ wr.heap.size
/-- The records that are left. -/
structure RestS (w : World) (rs : List Rc) (k : Nat) (v : Value) : Prop where
  ex : ∃ A c, v = .slice A (rs.length - 8 * k) c ∧ rs.length - 8 * k ≤ c ∧ Lz NoX w 4 A (rs.length - 8 * k) (rcsL (rs.drop (8 * k)))
structure PutOk (ps : List Int) (rs : List Rc) : Prop where
  pages : ∀ p ∈ ps, 1 ≤ p ∧ p ≤ 255
  room : rs.length ≤ 8 * ps.length
  recs : ∀ r ∈ rs, r.ok
theorem PutOk.right {ps : List Int} {rs : List Rc} (h : PutOk ps rs) : rightB ps.length rs.length ps = true := by
  unfold rightB
  have h2 := h.room
  rw [decide_eq_true (by unfold roomI; omega), List.any_eq_false.2 (fun p hp => by have := h.pages p hp; simp [noPage, pageB]; omega)]
  rfl
theorem chunk_fits {ps : List Int} {rs : List Rc} (h : PutOk ps rs) (k : Nat) : Fits (chunk rs k) := ⟨by simp [chunk]; omega, fun r hr => h.recs r (List.mem_of_mem_drop (List.mem_of_mem_take hr))⟩
theorem next_small {ps : List Int} {rs : List Rc} (h : PutOk ps rs) (k : Nat) : ∃ n : Nat, ps.getD (k + 1) 0 = (n : Int) ∧ n < 256 := by
  rw [List.getD_eq_getElem?_getD]
  by_cases hk : k + 1 < ps.length
  · rw [List.getElem?_eq_getElem hk]
    have := h.pages _ (List.getElem_mem hk)
    exact ⟨ps[k + 1].toNat, by show ps[k + 1] = _; omega, by omega⟩
  · rw [List.getElem?_eq_none (by omega)]
    exact ⟨0, rfl, by omega⟩
theorem min5 (a : Nat) : (if (a : Int) < 8 then (a : Int) else 8) = ((min 8 a : Nat) : Int) := by split <;> omega
theorem chunk_eq (rs : List Rc) (k m n : Nat) (hm : rs.length - 8 * k = m) (hn : min 8 m = n) : (rs.drop (8 * k)).take n = chunk rs k := by
  unfold chunk
  by_cases h : 8 ≤ m
  · rw [show n = 8 by omega]
  · rw [List.take_of_length_le (by rw [List.length_drop]; omega), List.take_of_length_le (by rw [List.length_drop]; omega)]
theorem rest_step {w : World} {rs : List Rc} {k m n cr : Nat} {Ar : Option Addr} (h : Lz NoX w 4 Ar m (rcsL (rs.drop (8 * k)))) (hm : rs.length - 8 * k = m) (hcr : m ≤ cr) (hn : min 8 m = n) : RestS w rs (k + 1) (.slice (tlA Ar cr n) (m - n) (cr - n)) := by
  have e1 : rs.length - 8 * (k + 1) = m - n := by omega
  have e2 : rs.drop (8 * (k + 1)) = (rs.drop (8 * k)).drop n := by
    rw [List.drop_drop]
    by_cases h5 : 8 ≤ m
    · rw [show 8 * (k + 1) = 8 * k + n by omega]
    · rw [List.drop_of_length_le (by omega), List.drop_of_length_le (by omega)]
  refine ⟨tlA Ar cr n, cr - n, by rw [e1], by rw [e1]; omega, ?_⟩
  rw [e1, e2]
  exact h.rtail (by omega) _ (fun h => by unfold tlA; rw [if_neg (by omega)])
theorem wp_app {w : World} {o : Oper} {a : Act} {K : Act → World → Prop} {Q : Exit → Act → World → Prop} (d : Nat) (s x : Operand) (t : TypeId) (hop : o.dst = some d)
    (ho : o.op = .call { callee := .builtin .append, args := #[s, x], argTypes := #[t, t] })
    (base : Nat) (e : TypeId) (i : TypeInfo) (z : Value) (size bytes : Nat) (ht : Try.prog.underlying t = some (.slice e)) (hi : Try.prog.info? e = some i) (hz : i.zero = some z)
    (hsize : i.size = size) (hby : i.bytes = bytes) (hzs : z.cells.size = size) (hsz : 0 < size)
    (v : Value) (n : Nat) (xs : List Value) (hs : a.eval s = v) (hown : w.ownsRow base e size v n xs)
    (ad : Addr) (m c : Nat) (news : List Value) (hx : a.eval x = .slice (some ad) m c) (hl : news.length = m * size) (hr : ∀ j u, news[j]? = some u → w.cell? (ad.add j) = some u) (h1 : ∀ u ∈ news, u.oneCell' = true)
    (h63 : n + m ≤ maxLen) (hbytes : (n + m) * bytes ≤ 140737488355328) (hbase : base ≤ w.heap.size)
    (h : ∀ v' w', w'.ownsRow base e size v' (n + m) (xs ++ news) → w.grownBy w' v.ownBlock → K (a.put (some d) v') w') : o.wp Try.prog a w K Q := by
  obtain ⟨v', w', hrun, h2, h3, _⟩ := run_append_own_at (P := Try.prog) w base t o.type e i z size bytes ht hi hz hsize hby hzs hsz v n xs hown ad m c news hl hr h1 h63 hbytes hbase
  exact Lib.wp_append_run w s x t t ho v _ hs hx v' w' hrun (by rw [hop]; exact h v' w' h2 h3)
theorem wpList_tail {ops : Array Oper} {rest : List Oper} {op : Oper} {a : Act} {w : World} {Q : Exit → Act → World → Prop} (d : Nat) (x y : Operand) (hop : op.dst = some d) (hgd : op.guard = none) (ho : op.op = .slice 40 x (some y) none none) (A : Option Addr) (m c n : Nat) (hx : a.eval x = .slice A m c) (hy : a.eval y = .int .i64 (n : Int)) (hn : n ≤ m)
    (h : wpList Try.prog ops Q rest (a.put (some d) (.slice (tlA A c n) (m - n) (c - n))) w) : wpList Try.prog ops Q (op :: rest) a w := by
  refine wpList_plain hgd fun K hK => ?_
  have h0 : (Instr.sliceAt 40 (.slice A m c) (some (.int .i64 (n : Int))) none none).run Try.prog w = .ok (.slice (tlA A c n) (m - n) (c - n)) w := by
    rw [run_sliceAt_slice w 40 _ _ _ _ (by rw [show Try.prog.elem 40 = 50 from rfl]; exact Try.underlying40)]
    rw [run_slice_l w 40 A m c (by rw [show Try.prog.elem 40 = 50 from rfl]; exact Try.underlying40) .i64 (n : Int) (by omega) (by omega)]
    have : (sizeOf (Try.prog.elem 40)).run Try.prog w = .ok 4 w := by go_simp
    rw [this]
    rfl
  unfold Oper.wp
  simp [execOp, ho, hx, hy, h0, Result.andThen]
  simp only [Oper.upon]
  rw [hop]
  exact hK _ _ h
theorem wpList_head {ops : Array Oper} {rest : List Oper} {op : Oper} {a : Act} {w : World} {Q : Exit → Act → World → Prop} (d : Nat) (x y : Operand) (hop : op.dst = some d) (hgd : op.guard = none) (ho : op.op = .slice 40 x none (some y) none) (A : Option Addr) (m c n : Nat) (hx : a.eval x = .slice A m c) (hy : a.eval y = .int .i64 (n : Int)) (hn : n ≤ c)
    (h : wpList Try.prog ops Q rest (a.put (some d) (.slice A n c)) w) : wpList Try.prog ops Q (op :: rest) a w := by
  refine wpList_plain hgd fun K hK => ?_
  have h0 := exec_head (w := w) x y ho A m c n hx hy hn
  unfold Oper.wp
  rw [h0]
  simp only [Oper.upon]
  rw [hop]
  exact hK _ _ h
theorem wpList_build_im {ops : Array Oper} {rest : List Oper} {op : Oper} {a : Act} {w : World} {Q : Exit → Act → World → Prop} (d : Nat) (x y : Operand) (hop : op.dst = some d) (hgd : op.guard = none) (ho : op.op = .build 64 #[(0, x), (1, y)]) (z : Int) (p : Pg) (hx : a.eval x = .int .i64 z) (hy : a.eval y = .agg (pgA p))
    (h : wpList Try.prog ops Q rest (a.put (some d) (.agg (imA ⟨z, p⟩))) w) : wpList Try.prog ops Q (op :: rest) a w := by
  refine wpList_plain hgd fun K hK => ?_
  have h0 := exec_build_im (w := w) x y ho z p hx hy
  unfold Oper.wp
  rw [h0]
  simp only [Oper.upon]
  rw [hop]
  exact hK _ _ h
theorem new_im {w : World} (i : Im) {j : Nat} {u : Value} (hu : (imL i)[j]? = some u) : (w.alloc (.cells (imA i) 64)).cell? ⟨w.heap.size, j, none⟩ = some u := by
  have := (At.new w 64 (imA i)).cell j
  rw [this]
  simpa [imA] using hu
theorem PutS.put {w wr w2 w3 : World} {B : Array Value} {ps : List Int} {rs : List Rc} {k : Nat} {v v' : Value} (h : PutS w B ps rs k v wr) (h2 : Below wr.heap.size wr w2) (hg : w2.grownBy w3 v.ownBlock) (h3 : w3.ownsRow (w.heap.size + 1) 64 225 v' (k + 1) (flatI (putK ps rs k) ++ imL (pgK ps rs k))) : PutS w B ps rs (k + 1) v' w3 := by
  have hb2 := h.below.trans (h2.mono h.below.size)
  have hv : ∀ j, v.ownBlock = some j → w.heap.size + 1 ≤ j := fun j hj => (h.own.lt j hj).1
  exact ⟨by rw [putK_succ, flatI_append, flatI_single]; exact h3, hb2.grown hg hb2.size (fun j hj => by have := hv j hj; omega), (h.box.under h2 h.box.lt).grown hg (fun e => by have := hv _ e.symm; omega), Nat.le_trans h.high (Nat.le_trans h2.size hg.size)⟩
set_option maxHeartbeats 6400000 in
theorem Put_any (d : Bx) (PA : Option Addr) (pc : Nat) (RA : Option Addr) (rc : Nat) (ps : List Int) (rs : List Rc) (w : World) (h : BkL w PA ps.length RA rs.length ps rs) (hk : PutOk ps rs) (hpn : ps.length ≤ 100) (hrc : rs.length ≤ rc) :
    Calls Try.prog 25 #[.agg (bkA d (.slice PA ps.length pc) (.slice RA rs.length rc))] w (fun e z => ∃ A c, e = .returned (.slice A ps.length c) ∧ z.ownsRow w.heap.size 64 225 (.slice A ps.length c) ps.length (flatI (putI ps rs)) ∧ Below w.heap.size w z) := by
  have HK := Lib.hid hk
  have hrn : rs.length ≤ 800 := by have := hk.room; omega
  have HBK := Lib.hid h
  have HR := Lib.hid hk.right
  clear h hk
  obtain ⟨pn, hpe⟩ : ∃ pn, ps.length = pn := ⟨_, rfl⟩
  obtain ⟨rn, hre⟩ : ∃ rn, rs.length = rn := ⟨_, rfl⟩
  rw [hpe, hre] at HBK HR
  rw [hre] at hrn hrc
  rw [hpe] at hpn
  have HPE := Lib.hid hpe
  have HRE := Lib.hid hre
  simp only [hpe, hre]
  clear hpe hre
  have hA := At.new w 44 (bkA d (.slice PA pn pc) (.slice RA rn rc))
  have HB : Hid (Below w.heap.size w (w.alloc (.cells (bkA d (.slice PA pn pc) (.slice RA rn rc)) 44))) := (Below.refl _ w).alloc (Nat.le_refl _) _
  have HA := Lib.hid hA
  have HSZ : Hid (w.heap.size + 1 ≤ (w.alloc (.cells (bkA d (.slice PA pn pc) (.slice RA rn rc)) 44)).heap.size) := by show _ ≤ _; rw [World.size_alloc]; exact Nat.le_refl _
  clear hA
  obtain ⟨i0, hi0, hz0, hz1, hz2⟩ := im_info
  go_enter Try.func25, Try.ntmps25
  go_upto_region 1 with fail
  generalize (w.alloc (.cells (bkA d (.slice PA pn pc) (.slice RA rn rc)) 44)) = w1 at HA HB HSZ ⊢
  go_upto_region 3 with (first
    | (refine wpList_load_at 44 9 (.tmp 1) rfl rfl rfl w.heap.size rfl (bkA d (.slice PA pn pc) (.slice RA rn rc)) 6 strBk rfl HA.out ?_)
    | (go_at_call 41; refine (rightP_any d PA pn pc RA rn rc ps rs _ (HBK.out.below HB.out) (by omega) (by omega)).mono ?_; rintro e z1 ⟨rfl, hz1⟩; rw [HR.out]; have HB1 := Lib.hid (HB.out.trans (hz1.mono HB.out.size)); have HA1 := Lib.hid (HA.out.under hz1 HA.out.lt); have HSZ1 := Lib.hid (Nat.le_trans HSZ.out hz1.size); clear hz1))
  have c1 : z1.cell? ⟨w.heap.size, 4, none⟩ = some (.slice PA pn pc) := HA1.out.cell 4
  have c2 : z1.cell? ⟨w.heap.size, 5, none⟩ = some (.slice RA rn rc) := HA1.out.cell 5
  go_wp2_with (refine wpList_make_own _ rfl _ (.tmp 14) 60 rfl (w.heap.size + 1) 64 i0 _ 225 Try.underlying60 hi0 hz0 hz1 .i64 .i64 (pn : Int) pn rfl rfl rfl (by rw [hz2]; omega) (by simp only [maxLen]; omega) HSZ1.out ?_; intro w2 ho2 hg2; have HP0 : Hid (PutS w (bkA d (.slice PA pn pc) (.slice RA rn rc)) ps rs 0 (.slice (some ⟨z1.heap.size, 0, none⟩) 0 pn) w2) := ⟨ho2, HB1.out.grown hg2 HB1.out.size (fun j e => by cases e), HA1.out.grown hg2 (fun e => by cases e), Nat.le_trans HSZ1.out hg2.size⟩; have c1b : w2.cell? ⟨w.heap.size, 4, none⟩ = some (.slice PA pn pc) := HP0.out.box.cell 4; have c2b : w2.cell? ⟨w.heap.size, 5, none⟩ = some (.slice RA rn rc) := HP0.out.box.cell 5; clear ho2 hg2)
  generalize Value.slice (some ⟨z1.heap.size, 0, none⟩) 0 pn = v0 at HP0 ⊢
  have HR0 : Hid (RestS w rs 0 (.slice RA rn rc)) := ⟨RA, rc, by rw [Nat.mul_zero, Nat.sub_zero, HRE.out], by rw [Nat.mul_zero, Nat.sub_zero, HRE.out]; exact hrc, by rw [Nat.mul_zero, Nat.sub_zero, HRE.out]; exact HBK.out.r⟩
  generalize Value.slice RA rn rc = vr0 at HR0 ⊢
  go_loopw [3, 4, 21] (fun v r vi wr => ∃ k : Nat, k ≤ pn ∧ vi = .int .i64 (k : Int) ∧ Hid (PutS w (bkA d (.slice PA pn pc) (.slice RA rn rc)) ps rs k v wr) ∧ Hid (RestS w rs k r)) (fun _ _ i _ => pn - (intOf i).toNat)
  case atStart => exact ⟨0, Nat.zero_le _, by go_num, HP0, HR0⟩
  case round =>
    obtain ⟨k, hk, rfl, HP, HRS⟩ := hrel
    by_cases hlt : k < pn
    · obtain ⟨Ar, cr, rfl, hcr, hLr⟩ := HRS.out.ex
      obtain ⟨m, hm⟩ : ∃ m, rs.length - 8 * k = m := ⟨_, rfl⟩
      rw [hm] at hcr hLr ⊢
      have HLR := Lib.hid hLr
      have HM := Lib.hid hm
      have hm5 : m ≤ 800 := by have := HRE.out; omega
      clear hm hLr
      have c1c : wr.cell? ⟨w.heap.size, 4, none⟩ = some (.slice PA pn pc) := HP.out.box.cell 4
      obtain ⟨g, o, hl, rfl, hb, hc⟩ := HBK.out.p.ic hlt
      obtain ⟨pg, hpg⟩ : ∃ pg, ps[k] = pg := ⟨_, rfl⟩
      rw [hpg] at hc
      have cP : wr.cell? ⟨g, o + k, none⟩ = some (.int .i64 pg) := (HP.out.below.cell (p := ⟨g, o + k, none⟩) hb).trans hc
      have HPG : Hid (ps.getD k 0 = pg) := by show _ = _; rw [List.getD_eq_getElem?_getD, List.getElem?_eq_getElem hl, ← hpg]; rfl
      clear hc hpg
      obtain ⟨nx, hnx, hnx2⟩ := next_small HK.out k
      have HNX := Lib.hid hnx
      clear hnx
      have e5 := min5 m
      obtain ⟨n, hn⟩ : ∃ n, min 8 m = n := ⟨_, rfl⟩
      have HCH : Hid (Lz NoX w 4 Ar n (rcsL (chunk rs k))) := by
        have := HLR.out.rhead (k := n) (by omega)
        rw [chunk_eq rs k m n HM.out hn] at this
        exact this
      have HIM : Hid (pgK ps rs k = ⟨pg, pageP nx (chunk rs k)⟩) := by show _ = _; unfold pgK; rw [HPG.out, HNX.out]; rfl
      by_cases hk1 : k + 1 < pn
      · have cN : wr.cell? ⟨g, o + (k + 1), none⟩ = some (.int .i64 (nx : Int)) := by
          obtain ⟨g2, o2, hl2, e2, _, hc2⟩ := HBK.out.p.ic hk1
          injection e2 with e2
          injection e2 with e3 e4
          subst e3 e4
          have := HNX.out
          rw [List.getD_eq_getElem?_getD, List.getElem?_eq_getElem hl2] at this
          rw [show ps[k + 1] = (nx : Int) from this] at hc2
          exact (HP.out.below.cell (p := ⟨g, o + (k + 1), none⟩) hb).trans hc2
        have HR9 := Lib.hid (rest_step HLR.out HM.out hcr hn)
        go_wp2_with (first
          | (refine wpList_head 46 (.tmp 44) (.tmp 45) rfl rfl rfl Ar m cr n rfl rfl (by omega) ?_)
          | (go_at_call 42; refine (pageOf_any nx Ar n cr (chunk rs k) wr (HCH.out.below HP.out.below) (chunk_fits HK.out k) hnx2).mono ?_; rintro e y9 ⟨rfl, hb9⟩; have HB9 := Lib.hid hb9; clear hb9)
          | (refine wpList_build_im 48 (.tmp 42) (.tmp 47) rfl rfl rfl pg (pageP nx (chunk rs k)) rfl rfl ?_)
          | (refine wpList_lit1 rfl (.tmp 48) 60 64 225 (.agg (imA ⟨0, zpg⟩)) (imA ⟨pg, pageP nx (chunk rs k)⟩) rfl rfl Try.underlying60 im_zero (by decide) (by decide) (imA_size _) ?_; have HB10 := Lib.hid (HB9.out.alloc HB9.out.size (.cells (imA ⟨pg, pageP nx (chunk rs k)⟩) 64)))
          | (at_builtin; refine pl_wpList_app _ rfl (.tmp 41) (.tmp 49) _ rfl (w.heap.size + 1) 64 i0 _ 225 232 Try.underlying60 hi0 hz0 hz1 hz2 (imA_size _) (by omega) _ k _ rfl (own_under HP.out.own HB10.out (Nat.le_refl _)) _ 1 1 (imL ⟨pg, pageP nx (chunk rs k)⟩) rfl (by rw [imL_length]) (fun j u hu => by rw [add_plain, Nat.zero_add]; exact new_im ⟨pg, pageP nx (chunk rs k)⟩ hu) (imL_one _) (by simp only [maxLen]; omega) (by omega) (Nat.le_trans HP.out.high HB10.out.size) ?_; intro v9 w9 ho9 hg9; have HP9 : Hid (PutS w (bkA d (.slice (some ⟨g, o, none⟩) pn pc) (.slice RA rn rc)) ps rs (k + 1) v9 w9) := HP.out.put HB10.out hg9 (by rw [HIM.out]; exact ho9); clear ho9 hg9)
          | (refine wpList_tail 53 (.tmp 51) (.tmp 52) rfl rfl rfl Ar m cr n rfl rfl (by omega) ?_)
          )
        go_round
        case rel => exact ⟨k + 1, by omega, by go_num, HP9, HR9⟩
        case measure => simp [intOf]; omega
      · have hnx0 : nx = 0 := by
          have := HNX.out
          rw [List.getD_eq_getElem?_getD, List.getElem?_eq_none (by have := HPE.out; omega)] at this
          have h0 : (0 : Int) = (nx : Int) := this
          omega
        subst hnx0
        have HR9 := Lib.hid (rest_step HLR.out HM.out hcr hn)
        go_wp2_with (first
          | (refine wpList_head 46 (.tmp 44) (.tmp 45) rfl rfl rfl Ar m cr n rfl rfl (by omega) ?_)
          | (go_at_call 42; refine (pageOf_any 0 Ar n cr (chunk rs k) wr (HCH.out.below HP.out.below) (chunk_fits HK.out k) hnx2).mono ?_; rintro e y9 ⟨rfl, hb9⟩; have HB9 := Lib.hid hb9; clear hb9)
          | (refine wpList_build_im 48 (.tmp 42) (.tmp 47) rfl rfl rfl pg (pageP 0 (chunk rs k)) rfl rfl ?_)
          | (refine wpList_lit1 rfl (.tmp 48) 60 64 225 (.agg (imA ⟨0, zpg⟩)) (imA ⟨pg, pageP 0 (chunk rs k)⟩) rfl rfl Try.underlying60 im_zero (by decide) (by decide) (imA_size _) ?_; have HB10 := Lib.hid (HB9.out.alloc HB9.out.size (.cells (imA ⟨pg, pageP 0 (chunk rs k)⟩) 64)))
          | (at_builtin; refine pl_wpList_app _ rfl (.tmp 41) (.tmp 49) _ rfl (w.heap.size + 1) 64 i0 _ 225 232 Try.underlying60 hi0 hz0 hz1 hz2 (imA_size _) (by omega) _ k _ rfl (own_under HP.out.own HB10.out (Nat.le_refl _)) _ 1 1 (imL ⟨pg, pageP 0 (chunk rs k)⟩) rfl (by rw [imL_length]) (fun j u hu => by rw [add_plain, Nat.zero_add]; exact new_im ⟨pg, pageP 0 (chunk rs k)⟩ hu) (imL_one _) (by simp only [maxLen]; omega) (by omega) (Nat.le_trans HP.out.high HB10.out.size) ?_; intro v9 w9 ho9 hg9; have HP9 : Hid (PutS w (bkA d (.slice (some ⟨g, o, none⟩) pn pc) (.slice RA rn rc)) ps rs (k + 1) v9 w9) := HP.out.put HB10.out hg9 (by rw [HIM.out]; exact ho9); clear ho9 hg9)
          | (refine wpList_tail 53 (.tmp 51) (.tmp 52) rfl rfl rfl Ar m cr n rfl rfl (by omega) ?_)
          )
        go_round
        case rel => exact ⟨k + 1, by omega, by go_num, HP9, HR9⟩
        case measure => simp [intOf]; omega
    · obtain rfl : k = pn := by omega
      have HO := Lib.hid (HP.out.own)
      have HE : Hid (putK ps rs k = putI ps rs) := by show _ = _; unfold putI; rw [HPE.out]
      go_wp2_with fail
      go_ret
      obtain ⟨A, c, rfl, _, _⟩ := pl_own_slice HO.out
      exact ⟨A, c, rfl, by rw [← HE.out]; exact own_base HO.out (Nat.le_succ _), HP.out.below⟩
end Go.Proofs.Ytgjkbnplpioloaa
