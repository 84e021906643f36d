/-
  The function that RegionPages hands to Get; a part of a slice of points.
  Conditions: none beyond those that each theorem names.
-/
import Derived.Test.YtgjkbnplpioloaaB29
import Derived.Test.YtgjkbnplpioloaaOA
namespace Go.Proofs.Ytgjkbnplpioloaa
open Go.RowKit
attribute [local go_sem] Oper.semAt_some
set_option maxRecDepth 20000


theorem nodup_inj {α : Type} {l : List α} (h : l.Nodup) {i j : Nat} (hi : i < l.length) (hj : j < l.length) (e : l[i] = l[j]) : i = j := by
  have := List.pairwise_iff_getElem.1 h
  rcases Nat.lt_trichotomy i j with h1 | h1 | h1
  · exact absurd e (this i j hi hj h1)
  · exact h1
  · exact absurd e.symm (this j i hj hi h1)
/-- What the law's function tells of images. -/
def fP (l : List Im) (n : Int) : Pg × Bool := match l.find? (fun i => i.page == n) with | some i => (i.p, true) | none => (zpg, false)
structure PsOk (ps : List Int) : Prop where
  one : ps.Nodup
  page : ∀ p ∈ ps, 1 ≤ p ∧ p ≤ 255
  pos : 0 < ps.length
  few : ps.length ≤ 6
/-- Points as they are kept. -/
structure GoodB (pn : Nat) (l : List Rc) : Prop where
  recs : ∀ r ∈ l, r.ok
  len : l.length ≤ 8 * pn
theorem GoodB.nil (pn : Nat) : GoodB pn [] := ⟨fun r h => by simp at h, by simp⟩
theorem GoodB.add {pn : Nat} {l : List Rc} (h : GoodB pn l) {r : Rc} (hr : r.ok) : GoodB pn (addR pn l r).1 := by
  unfold addR
  split
  · exact h
  · split
    · exact h
    · refine ⟨fun x hx => ?_, by simp; omega⟩
      rcases List.mem_append.1 hx with hx | hx
      · exact h.recs x hx
      · rw [List.mem_singleton.1 hx]
        exact hr
theorem getD_lt {ps : List Int} {k : Nat} (hk : k < ps.length) : ps.getD k 0 = ps[k] := by simp [hk]
theorem getD_ge {ps : List Int} {k : Nat} (hk : ps.length ≤ k) : ps.getD k 0 = 0 := by simp [hk]
theorem PsOk.ok {ps : List Int} {rs : List Rc} (h : PsOk ps) (hg : GoodB ps.length rs) : PutOk ps rs :=
  ⟨fun p hp => h.page p hp, hg.len, hg.recs⟩
theorem fP_at {ps : List Int} {rs : List Rc} (h : PsOk ps) {k : Nat} (hk : k < ps.length) : fP (putI ps rs) (ps.getD k 0) = (pageP (ps.getD (k + 1) 0).toNat (chunk rs k), true) := by
  have : (putI ps rs).find? (fun i => i.page == ps.getD k 0) = some (pgK ps rs k) := by
    rw [List.find?_eq_some_iff_getElem]
    refine ⟨by simp [pgK], k, by simp [putI, putK]; exact hk, by simp [putI, putK], fun j hj => ?_⟩
    have hj2 : j < ps.length := by omega
    simp only [putI, putK, List.getElem_map, List.getElem_range, pgK, getD_lt hj2, getD_lt hk]
    simp only [Bool.not_eq_true', beq_eq_false_iff_ne, ne_eq]
    intro e
    have := nodup_inj h.one hj2 hk e
    omega
  unfold fP
  rw [this]
  rfl
section
variable {ps : List Int} {rs : List Rc}
theorem next_num (h : PsOk ps) (k : Nat) : ((ps.getD k 0).toNat : Int) = ps.getD k 0 ∧ (ps.getD k 0).toNat < 256 := by
  by_cases hk : k < ps.length
  · rw [getD_lt hk]
    have := h.page _ (List.getElem_mem hk)
    omega
  · rw [getD_ge (by omega)]
    simp
theorem gN_chain (h : PsOk ps) (hg : GoodB ps.length rs) : ∀ k, k ≤ ps.length → gN (fP (putI ps rs)) (ps.getD 0 0) k = ps.getD k 0
  | 0, _ => rfl
  | k + 1, hk => by
    show (rdNext (fP (putI ps rs) (gN _ _ k)).1 : Int) = _
    rw [gN_chain h hg k (by omega), fP_at h (by omega)]
    rw [(read_back _ _ (chunk_fits (h.ok hg) k) (next_num h (k + 1)).2).2.1]
    exact (next_num h (k + 1)).1
theorem chunks_all (rs : List Rc) : ∀ k, (List.range k).flatMap (chunk rs) = rs.take (8 * k)
  | 0 => by simp
  | k + 1 => by
    rw [List.range_succ, List.flatMap_append, chunks_all rs k]
    simp only [List.flatMap_cons, List.flatMap_nil, List.append_nil, chunk]
    rw [show 8 * (k + 1) = 8 * k + 8 by omega, List.take_add]
theorem gPs_chain (h : PsOk ps) (hg : GoodB ps.length rs) : gPs (fP (putI ps rs)) (ps.getD 0 0) ps.length = ps := by
  refine List.ext_getElem (by simp [gPs]) fun i h1 h2 => ?_
  simp only [gPs, List.getElem_map, List.getElem_range]
  rw [gN_chain h hg i (by omega), getD_lt h2]
theorem gIm_chain (h : PsOk ps) (hg : GoodB ps.length rs) : gIm (fP (putI ps rs)) (ps.getD 0 0) ps.length = putI ps rs := by
  refine List.ext_getElem (by simp [gIm, putI, putK]) fun i h1 h2 => ?_
  have hi : i < ps.length := by simpa [gIm] using h1
  have e : (putI ps rs)[i] = pgK ps rs i := by simp [putI, putK]
  rw [e]
  simp only [gIm, List.getElem_map, List.getElem_range]
  rw [gN_chain h hg i (by omega), fP_at h hi]
  rfl
theorem gRs_chain (h : PsOk ps) (hg : GoodB ps.length rs) : gRs (fP (putI ps rs)) (ps.getD 0 0) ps.length = rs := by
  have : gRs (fP (putI ps rs)) (ps.getD 0 0) ps.length = (List.range ps.length).flatMap (chunk rs) := by
    unfold gRs
    rw [List.flatMap_def, List.flatMap_def]
    congr 1
    apply List.map_congr_left
    intro j hj
    have hj := List.mem_range.1 hj
    rw [gN_chain h hg j (by omega), fP_at h hj]
    exact (read_back _ _ (chunk_fits (h.ok hg) j) (next_num h (j + 1)).2).2.2
  rw [this, chunks_all, List.take_of_length_le hg.len]
theorem putG_chain (h : PsOk ps) (hg : GoodB ps.length rs) : putG ps rs = putI ps rs := by
  unfold putG
  rw [if_pos (h.ok hg).right]
theorem get_chain (h : PsOk ps) (hg : GoodB ps.length rs) : GetAt (fP (putI ps rs)) (ps.getD 0 0) ps.length := by
  refine ⟨h.few, ?_, fun j hj => ?_, ?_, ?_⟩
  · rw [getD_lt h.pos]
    have := h.page _ (List.getElem_mem h.pos)
    simp [pageB]
    omega
  · rw [gN_chain h hg j (by omega), fP_at h hj, getD_lt hj]
    refine ⟨by have := h.page _ (List.getElem_mem hj); omega, rfl, (read_back _ _ (chunk_fits (h.ok hg) j) (next_num h (j + 1)).2).1⟩
  · rw [gN_chain h hg _ (Nat.le_refl _), getD_ge (Nat.le_refl _)]
  · rw [gPs_chain h hg, gRs_chain h hg, gIm_chain h hg, putG_chain h hg]
end
/-- The pages of the law: 20, 22, .. -/
def numK (k : Nat) : List Int := (List.range k).map fun (i : Nat) => 20 + 2 * (i : Int)
theorem numK_succ (k : Nat) : numK (k + 1) = numK k ++ [20 + 2 * (k : Int)] := by simp [numK, List.range_succ]
theorem numK_length (k : Nat) : (numK k).length = k := by simp [numK]
theorem psOk_num (k : Nat) (h1 : 1 ≤ k) (h4 : k ≤ 4) : PsOk (numK k) := by
  have : k = 1 ∨ k = 2 ∨ k = 3 ∨ k = 4 := by omega
  rcases this with rfl | rfl | rfl | rfl <;> exact ⟨by decide, by decide, by decide, by decide⟩

theorem fP_yes {L : List Im} {n : Int} {k : Nat} (hk : k < L.length) (h : ∀ (j : Nat) (hj : j < L.length), j < k → L[j].page ≠ n) (hp : L[k].page = n) : fP L n = (L[k].p, true) := by
  have : L.find? (fun i => i.page == n) = some L[k] := by
    rw [List.find?_eq_some_iff_getElem]
    exact ⟨by simp [hp], k, hk, rfl, fun j hj => by simp [h j (by omega) hj]⟩
  unfold fP
  rw [this]
theorem fP_no {L : List Im} {n : Int} (h : ∀ (j : Nat) (hj : j < L.length), L[j].page ≠ n) : fP L n = (zpg, false) := by
  have : L.find? (fun i => i.page == n) = none := by
    rw [List.find?_eq_none]
    intro x hx
    obtain ⟨j, hj, rfl⟩ := List.getElem_of_mem hx
    simp [h j hj]
  unfold fP
  rw [this]
set_option maxHeartbeats 3200000 in
theorem pages1_any (L : List Im) (g c m : Nat) (A : Option Addr) (n : Int) (w : World) (h : CelO w g (.slice A m c)) (hl : LIO w A m L) (hm : m ≤ 100) : Calls Try.prog 28 #[.int .i64 n, .pointer (some ⟨g, 0, none⟩)] w (RetAt w (fP L n)) := by
  have HA := Lib.hid (pgNew w)
  have hk := (Below.refl w.heap.size w).alloc (Nat.le_refl _) (.cells (pgA zpg) 62)
  have HB : Hid (Below w.heap.size w (w.alloc (.cells (pgA zpg) 62))) := hk
  have HL := Lib.hid (hl.call hk)
  have c1 : (w.alloc (.cells (pgA zpg) 62)).cell? ⟨g, 0, none⟩ = some (.slice A m c) := h.call hk
  have HLL : Hid (L.length = m) := LI.len hl
  clear h hl hk
  have hzero := (zero_of_info pg_info).1
  go_enter Try.func28, Try.ntmps28
  go_upto_region 1 with fail
  generalize w.alloc (.cells (pgA zpg) 62) = w1 at HA HB HL c1 ⊢
  go_wp2_with fail
  go_loopw [4, 5] (fun v4 vi wr => ∃ k : Nat, k ≤ m ∧ v4 = .bool false ∧ vi = .int .i64 (k : Int) ∧ wr = w1 ∧ Hid (∀ (j : Nat) (hj : j < L.length), j < k → L[j].page ≠ n)) (fun _ i _ => m - (intOf i).toNat)
  case atStart => exact ⟨0, Nat.zero_le _, rfl, by go_num, rfl, Lib.hid (fun _ _ h => absurd h (Nat.not_lt_zero _))⟩
  case round =>
    obtain ⟨k, hk, rfl, rfl, rfl, HN⟩ := hrel
    by_cases hlt : k < m
    · obtain ⟨b, o, hkl, rfl, hb, hr⟩ := LI.at HL.out hlt
      obtain ⟨x, hx⟩ : ∃ x, L[k] = x := ⟨_, rfl⟩
      rw [hx] at hr
      have HX : Hid (∀ h : k < L.length, L[k] = x) := fun _ => hx
      have HR := Lib.hid hr
      obtain ⟨pg, hpg⟩ : ∃ pg, x.page = pg := ⟨_, rfl⟩
      have q1 : wr.cell? ⟨b, o + k * 225, none⟩ = some (.int .i64 pg) := by rw [← hpg]; exact im_page hr
      have HPG := Lib.hid hpg
      clear hx hr hpg
      by_cases he : pg = n
      · have HE : Hid (fP L n = (x.p, true)) := by
          show _ = _
          have := fP_yes hkl HN.out (by rw [HX.out, HPG.out]; exact he)
          rw [HX.out] at this
          exact this
        subst he
        go_wp2_with (first
          | (refine wpList_of_exec 23 (.agg (pgA x.p)) rfl rfl (exec_load_pg (.tmp 22) rfl b (o + k * 225 + 1) rfl x (o + k * 225) rfl HR.out) ?_)
          | (refine wpList_store_at 62 (.tmp 3) (.tmp 23) rfl rfl rfl w.heap.size rfl (pgA x.p) (pgA zpg) 224 rfl str49 (pgA_size _) (pgA_size _) (pgA_one _) HA.out ?_; intro w9 h9 g9; have H9 := Lib.hid h9; have HB9 := Lib.hid (HB.out.grown g9 HB.out.size (fun j e => by injection e with e; omega)); clear h9 g9))
        rw [HE.out]
        exact bodyPost_ret (results_at2 (g := w.heap.size) rfl H9.out str49 (pgA_size _) rfl rfl) rfl ⟨rfl, HB9.out⟩
      · have he2 : (pg == n) = false := by simp [he]
        go_wp2_with fail
        go_round
        case rel => exact ⟨k + 1, by omega, by first | rfl | trivial, by go_num, by first | rfl | trivial, Lib.hid fun j hj hjk => by
          by_cases e : j = k
          · subst e
            rw [HX.out, HPG.out]
            exact he
          · exact HN.out j hj (by omega)⟩
        case measure => simp [intOf]; omega
    · obtain rfl : k = m := by omega
      have HE : Hid (fP L n = (zpg, false)) := fP_no fun j hj => HN.out j hj (by have := HLL.out; omega)
      go_wp2_with (refine wpList_store_at 62 (.tmp 3) (.tmp 24) rfl rfl rfl w.heap.size rfl (pgA zpg) (pgA zpg) 224 rfl str49 (pgA_size _) (pgA_size _) (pgA_one _) HA.out ?_; intro w9 h9 g9; have H9 := Lib.hid h9; have HB9 := Lib.hid (HB.out.grown g9 HB.out.size (fun j e => by injection e with e; omega)); clear h9 g9)
      rw [HE.out]
      exact bodyPost_ret (results_at2 (g := w.heap.size) rfl H9.out str49 (pgA_size _) rfl rfl) rfl ⟨rfl, HB9.out⟩
theorem ent_pages1 : ∀ args w, (callFunc 28 args).run Try.prog w = .ok (.enter 28 args) w := enters_of Try.func28 (by kernel_rfl) rfl
/-- Get over the pages that Put made. -/
theorem GetP {ps : List Int} {pn rn : Nat} {rs : List Rc} (bx : Bx) (hps : PsOk ps) (hpn : ps.length = pn) (hg : GoodB pn rs) (hrn : rs.length = rn) (first : Int) (hf : ps.getD 0 0 = first) (g c : Nat) (A : Option Addr) (w : World) (h : CelO w g (.slice A pn c)) (hl : LIO w A pn (putI ps rs)) :
    Calls Try.prog 27 #[.agg (bxA bx), .int .i64 first, .func (.func 28) #[] #[.pointer (some ⟨g, 0, none⟩)]] w (fun e z => ∃ AP cP AR cR, e = .returned (.tuple #[.agg (bkA bx (.slice AP pn cP) (.slice AR rn cR)), .bool true]) ∧ z.ownsRow w.heap.size 3 1 (.slice AP pn cP) pn (ICs ps) ∧ z.ownsRow w.heap.size 50 4 (.slice AR rn cR) rn (rcsL rs) ∧ Below w.heap.size w z) := by
  subst hpn hrn hf
  refine (Get_any 28 #[.pointer (some ⟨g, 0, none⟩)] (fP (putI ps rs)) bx (ps.getD 0 0) w ent_pages1 (fun W n hW => pages1_any (putI ps rs) g c ps.length A n W (h.call hW) (hl.call hW) (by have := hps.few; omega))).mono ?_
  have hG := get_chain hps hg
  rintro e z ⟨hb, ⟨k, hk, AP, cP, AR, cR, he, h1, h2⟩ | ⟨hno, _⟩⟩
  · obtain rfl := hk.one hG.2.2.1 hG.2.2.2.1
    rw [gPs_chain hps hg] at he h1
    rw [gRs_chain hps hg] at he h2
    exact ⟨AP, cP, AR, cR, he, h1, h2, hb⟩
  · exact absurd ⟨_, hG⟩ hno
/-- r[a:b] of points. -/
def cutA (A : Option Addr) (c a : Nat) : Option Addr := if c = a then A else A.map (·.add (a * 4))
theorem wpList_part {ops : Array Oper} {rest : List Oper} {op : Oper} {a : Act} {w : World} {Q : Exit → Act → World → Prop} (d : Nat) (x y z : Operand) (hop : op.dst = some d) (hgd : op.guard = none) (ho : op.op = .slice 40 x (some y) (some z) none) (A : Option Addr) (m c lo hi : Nat) (hx : a.eval x = .slice A m c) (hy : a.eval y = .int .i64 (lo : Int)) (hz : a.eval z = .int .i64 (hi : Int)) (h1 : lo ≤ hi) (h2 : hi ≤ c)
    (h : wpList Try.prog ops Q rest (a.put (some d) (.slice (cutA A c lo) (hi - lo) (c - lo))) w) : wpList Try.prog ops Q (op :: rest) a w := by
  refine wpList_plain hgd fun K hK => ?_
  have h0 : (Instr.sliceAt 40 (.slice A m c) (some (.int .i64 (lo : Int))) (some (.int .i64 (hi : Int))) none).run Try.prog w = .ok (.slice (cutA A c lo) (hi - lo) (c - lo)) w := by
    rw [run_sliceAt_slice w 40 _ _ _ _ (by rw [show Try.prog.elem 40 = 50 from rfl]; exact Try.underlying40)]
    rw [run_slice_lh w 40 A m c (by rw [show Try.prog.elem 40 = 50 from rfl]; exact Try.underlying40) .i64 .i64 (lo : Int) (hi : Int) (by omega) (by omega) (by omega)]
    have : (sizeOf (Try.prog.elem 40)).run Try.prog w = .ok 4 w := by go_simp
    rw [this]
    rfl
  unfold Oper.wp
  simp [execOp, ho, hx, hy, hz, h0, Result.andThen]
  simp only [Oper.upon]
  rw [hop]
  exact hK _ _ h
theorem chunk_part {X : Nat → Prop} {w : World} {A : Option Addr} {n c k lo hi : Nat} {rs : List Rc} (h : Lz X w 4 A n (rcsL rs)) (hc : n ≤ c) (h1 : lo = min (8 * k) n) (h2 : hi = min (8 * k + 8) n) : Lz X w 4 (cutA A c lo) (hi - lo) (rcsL (chunk rs k)) := by
  have hl := h.rclen
  have t := h.rtail (k := lo) (by omega) (cutA A c lo) (fun hlt => by unfold cutA; rw [if_neg (by omega)])
  have t2 := t.rhead (k := hi - lo) (by omega)
  have e : (rs.drop lo).take (hi - lo) = chunk rs k := by
    unfold chunk
    by_cases h5 : 8 * k ≤ n
    · have e1 : lo = 8 * k := by omega
      rw [e1]
      by_cases h6 : 8 * k + 8 ≤ n
      · rw [show hi - 8 * k = 8 by omega]
      · rw [List.take_of_length_le (by rw [List.length_drop]; omega), List.take_of_length_le (by rw [List.length_drop]; omega)]
    · rw [List.drop_of_length_le (by omega), List.drop_of_length_le (by omega)]
      simp
  rw [e] at t2
  exact t2
end Go.Proofs.Ytgjkbnplpioloaa
