/-
  readPoint, readPage.
  Conditions: none.
-/
import Derived.Test.YtgjkbnplpioloaaB18
namespace Go.Proofs.Ytgjkbnplpioloaa
open Go.RowKit
attribute [local go_sem] Oper.semAt_some
set_option maxRecDepth 20000

theorem u32_nat {n : Nat} (h : n < 4294967296) : IntKind.u32.wrap (n : Int) = (n : Int) := by rw [IntKind.wrap_u32]; omega
/-- A point was read. -/
def RdP (w : World) (g : Nat) (s : RS) (e : Ending) (w' : World) : Prop := e = .returned (.agg (rcA (rrRec s))) ∧ Rdr w' g (q4 s).1 (q4 s).2 ∧ w.grownBy w' (some g)
theorem rcA_lit (r : Rc) : (#[.int .u32 (r.x : Nat), .int .u32 (r.y : Nat), .int .u64 (r.id : Nat), .int .u64 (r.key : Nat)] : Array Value) = rcA r := rfl
/-- While a point is read: box b holds the result, block g the reader. -/
structure RdS (w : World) (g : Nat) (s : RS) (wr : World) : Prop where
  rdr : Rdr wr g s.1 s.2
  box : At wr w.heap.size 50 (rcA zrc)
  grown : w.grownBy wr (some g)
  low : g < w.heap.size
theorem RdS.step {w wr w2 : World} {g : Nat} {s s2 : RS} (h : RdS w g s wr) (hr : Rdr w2 g s2.1 s2.2) (hg : wr.grownBy w2 (some g)) : RdS w g s2 w2 :=
  ⟨hr, h.box.grown hg (fun e => by injection e with e; have := h.low; omega), h.grown.trans hg, h.low⟩
set_option maxHeartbeats 3200000 in
theorem readPoint_any (g : Nat) (s : RS) (w : World) (hr : Rdr w g s.1 s.2) (hl : s.1.length ≤ 10000) : Calls Try.prog 57 #[.pointer (some ⟨g, 0, none⟩)] w (RdP w g s) := by
  have N0 := Lib.hid hl
  have N1 : Hid ((q1 s).1.length ≤ 10000) := Nat.le_trans (nx_len _ _) hl
  have N2 : Hid ((q2 s).1.length ≤ 10000) := Nat.le_trans (nx_len _ _) N1.out
  have N3 : Hid ((q3 s).1.length ≤ 10000) := Nat.le_trans (nx_len _ _) N2.out
  have HS0 : Hid (RdS w g s (w.alloc (.cells (rcA zrc) 50))) := ⟨hr.below ((Below.refl _ w).alloc (Nat.le_refl _) _), At.new w 50 _, grown_below ((Below.refl _ w).alloc (Nat.le_refl _) _) _, hr.lt⟩
  have w1 := u32_nat (vl_lt4 s)
  have w2 := u32_nat (vl_lt4 (q1 s))
  have e0 : Hid (rrRec s = ⟨vl 4 s, vl 4 (q1 s), vl 8 (q2 s), vl 8 (q3 s)⟩) := rfl
  clear hl hr
  go_enter Try.func57, Try.ntmps57
  go_upto_region 1 with fail
  have hz0 : (#[Value.int .u32 0, .int .u32 0, .int .u64 0, .int .u64 0] : Array Value) = rcA zrc := rfl
  rw [hz0]
  clear hz0
  generalize (w.alloc (.cells (rcA zrc) 50)) = z0 at HS0 ⊢
  go_wp2_with fail
  refine (num_st g 4 s z0 HS0.out.rdr N0.out).mono ?_
  rintro e z1 ⟨rfl, hr, hg⟩
  have HS1 : Hid (RdS w g (q1 s) z1) := HS0.out.step hr hg
  clear hr hg
  go_wp2_with fail
  refine (num_st g 4 (q1 s) z1 HS1.out.rdr N1.out).mono ?_
  rintro e z2 ⟨rfl, hr, hg⟩
  have HS2 : Hid (RdS w g (q2 s) z2) := HS1.out.step hr hg
  clear hr hg
  go_wp2_with fail
  refine (num_st g 8 (q2 s) z2 HS2.out.rdr N2.out).mono ?_
  rintro e z3 ⟨rfl, hr, hg⟩
  have HS3 : Hid (RdS w g (q3 s) z3) := HS2.out.step hr hg
  clear hr hg
  go_wp2_with fail
  refine (num_st g 8 (q3 s) z3 HS3.out.rdr N3.out).mono ?_
  rintro e z4 ⟨rfl, hr, hg⟩
  have HS4 : Hid (RdS w g (q4 s) z4) := HS3.out.step hr hg
  clear hr hg
  go_wp2_with (refine wpList_store_at 50 (.tmp 2) (.tmp 13) rfl rfl rfl w.heap.size rfl (rcA (rrRec s)) (rcA zrc) 4 rfl str25 rfl rfl (rcA_one _) HS4.out.box ?_; intro w9 h9 g9; have H9 := Lib.hid h9; have HR9 : Hid (Rdr w9 g (q4 s).1 (q4 s).2) := HS4.out.rdr.kept (fun k hk => g9.block k (by have := HS4.out.rdr.lt; omega) (fun e => by injection e with e; have := HS4.out.low; omega)); have HG9 : Hid (w.grownBy w9 (some g)) := ⟨g9.os.trans HS4.out.grown.os, g9.tape.trans HS4.out.grown.tape, g9.output.trans HS4.out.grown.output, Nat.le_trans HS4.out.grown.size g9.size, fun k hk hne => (g9.block k (Nat.lt_of_lt_of_le hk HS4.out.grown.size) (fun e => by injection e with e; omega)).trans (HS4.out.grown.block k hk hne)⟩; clear h9 g9)
  exact bodyPost_ret (results_at1 (g := w.heap.size) rfl H9.out str25 rfl rfl) rfl ⟨rfl, HR9.out, HG9.out⟩
/-- The reader behind k points. -/
def qs (s : RS) : Nat → RS
  | 0 => s
  | k + 1 => q4 (qs s k)
theorem qs_len (s : RS) : ∀ k, (qs s k).1.length ≤ s.1.length
  | 0 => Nat.le_refl _
  | k + 1 => Nat.le_trans (q4_len _) (qs_len s k)
theorem qs_fail (s : RS) {j : Nat} : ∀ k, j ≤ k → (qs s j).2 = true → (qs s k).2 = true
  | 0, h, hj => by obtain rfl : j = 0 := by omega
                   exact hj
  | k + 1, h, hj => by
    by_cases e : j = k + 1
    · subst e; exact hj
    · exact q4_failed (qs_fail s k (by omega) hj)
def recsK (s : RS) (k : Nat) : List Rc := (List.range k).map fun j => rrRec (qs s j)
theorem recsK_succ (s : RS) (k : Nat) : recsK s (k + 1) = recsK s k ++ [rrRec (qs s k)] := by simp [recsK, List.range_succ]
def pS (p : Pg) : RS := (p.toList, false)
def rdKind (p : Pg) : Nat := vl 1 (pS p)
def s1 (p : Pg) : RS := nx 1 (pS p)
def rdNext (p : Pg) : Nat := vl 1 (s1 p)
def s2 (p : Pg) : RS := nx 1 (s1 p)
def rdCnt (p : Pg) : Nat := vl 1 (s2 p)
def s3 (p : Pg) : RS := nx 1 (s2 p)
def rdRecs (p : Pg) : List Rc := recsK (s3 p) (rdCnt p)
def rdOk (p : Pg) : Bool := rdKind p == 82 && !(qs (s3 p) (rdCnt p)).2
theorem results3 {fn : Func} {t u v : Tmp} (h : fn.results = #[.tmp t, .tmp u, .tmp v]) (tmps : Array Value) (P : Program) (w : World) :
    (results fn tmps).run P w = .ok (.tuple #[tmps.getD t undef, tmps.getD u undef, tmps.getD v undef]) w := by
  simp [results, h]
/-- What readPage answers. -/
def RetRd (w : World) (p : Pg) (e : Ending) (z : World) : Prop := Below w.heap.size w z ∧ ((rdOk p = true ∧ ∃ A m c, e = .returned (.tuple #[.int .i64 (rdNext p : Int), .slice A m c, .bool true]) ∧ z.ownsRow w.heap.size 50 4 (.slice A m c) m (rcsL (rdRecs p))) ∨ (rdOk p = false ∧ e = .returned (.tuple #[.int .i64 0, .slice none 0 0, .bool false])))
/-- While points are read: k are. -/
structure RpR (w : World) (g : Nat) (s : RS) (k : Nat) (v : Value) (wr : World) : Prop where
  rdr : Rdr wr g (qs s k).1 (qs s k).2
  own : wr.ownsRow (g + 1) 50 4 v k (rcsL (recsK s k))
  below : Below w.heap.size w wr
  low : w.heap.size ≤ g
theorem RpR.put {w wr w2 w3 w4 : World} {g k : Nat} {s : RS} {v v' : Value} (h : RpR w g s k v wr) (hr : Rdr w2 g (q4 (qs s k)).1 (q4 (qs s k)).2) (hg : wr.grownBy w2 (some g)) (h3 : Below w2.heap.size w2 w3) (h4 : w3.grownBy w4 v.ownBlock) (ho : w4.ownsRow (g + 1) 50 4 v' (k + 1) (rcsL (recsK s k) ++ rcL (rrRec (qs s k)))) : RpR w g s (k + 1) v' w4 := by
  have hl := h.low
  have hgl := hr.lt
  have hb2 : Below w.heap.size w w2 := below_grown h.below hg h.below.size hl
  have hb3 := hb2.trans (h3.mono hb2.size)
  have hv : ∀ j, v.ownBlock = some j → g + 1 ≤ j := fun j hj => (h.own.lt j hj).1
  refine ⟨?_, by rw [recsK_succ, rcsL_append, rcsL_one]; exact ho, hb3.grown h4 hb3.size (fun j hj => by have := hv j hj; omega), hl⟩
  exact Rdr.kept hr fun j hj => (h4.block j (by have := h3.size; omega) (fun e => by have := hv j e.symm; omega)).trans (h3.block j (by omega))
set_option maxHeartbeats 6400000 in
theorem readPg_any (p : Pg) (w : World) : Calls Try.prog 45 #[.agg (pgA p)] w (RetRd w p) := by
  have HB : Hid (Below w.heap.size w (w.alloc (.cells (pgA p) 62))) := (Below.refl _ w).alloc (Nat.le_refl _) _
  have HA : Hid (At (w.alloc (.cells (pgA p) 62)) w.heap.size 62 (pgA p)) := At.new w 62 (pgA p)
  have HL : Hid (Lies (w.alloc (.cells (pgA p) 62)) (w.heap.size + 1) 1 (some ⟨w.heap.size, 0, none⟩) 224 (BC p.toList)) := ⟨by rw [BC_length, Vector.length_toList], fun _ => ⟨_, rfl, Nat.lt_succ_self _, fun j u hu => by
    rw [add_plain, Nat.zero_add, HA.out.cell j]
    simpa [pgA] using hu⟩⟩
  have HZ : Hid (w.heap.size + 1 ≤ (w.alloc (.cells (pgA p) 62)).heap.size) := by show _ ≤ _; rw [World.size_alloc]; exact Nat.le_refl _
  have hN : (pS p).1.length ≤ 10000 := by show p.toList.length ≤ _; rw [Vector.length_toList]; omega
  have N0 := Lib.hid hN
  have N1 : Hid ((s1 p).1.length ≤ 10000) := Nat.le_trans (nx_len _ _) hN
  have N2 : Hid ((s2 p).1.length ≤ 10000) := Nat.le_trans (nx_len _ _) N1.out
  have N3 : Hid ((s3 p).1.length ≤ 10000) := Nat.le_trans (nx_len _ _) N2.out
  clear hN
  have hn := vl_lt1 (s1 p)
  have hc := vl_lt1 (s2 p)
  have hk := vl_lt1 (pS p)
  have wn : IntKind.i64.wrap ((vl 1 (s1 p) : Nat) : Int) = (vl 1 (s1 p) : Nat) := by rw [IntKind.wrap_i64]; omega
  obtain ⟨i0, hi0, hz0, hz1, hz2⟩ := rc_info
  go_enter Try.func45, Try.ntmps45
  go_upto_region 1 with fail
  generalize (w.alloc (.cells (pgA p) 62)) = w1 at HB HA HL HZ ⊢
  go_upto_region 2 with (go_at_call 55; refine (read_any (w.heap.size + 1) 224 224 _ p.toList w1 HL.out HZ.out (by omega)).mono ?_; rintro e w2 ⟨g, rfl, hg2, hr2, hb2⟩; have HG := Lib.hid (Nat.le_trans HB.out.size hg2); have HR2 : Hid (Rdr w2 g (pS p).1 (pS p).2) := hr2; have HB2 := Lib.hid (HB.out.trans (hb2.mono HB.out.size)); clear hg2 hr2 hb2)
  by_cases h82 : vl 1 (pS p) = 82
  · have hK : Hid (rdOk p = !(qs (s3 p) (rdCnt p)).2) := by show _ = _; unfold rdOk rdKind; rw [h82]; rfl
    go_wp2_with fail
    refine (num_st g 1 (pS p) w2 HR2.out N0.out).mono ?_
    rintro e w3 ⟨rfl, hr3, hg3⟩
    rw [h82]
    have HR3 : Hid (Rdr w3 g (s1 p).1 (s1 p).2) := hr3
    have HB3 := Lib.hid (below_grown HB2.out hg3 HB2.out.size HG.out)
    clear hr3 hg3
    go_wp2_with fail
    refine (num_st g 1 (s1 p) w3 HR3.out N1.out).mono ?_
    rintro e w4 ⟨rfl, hr4, hg4⟩
    have HR4 : Hid (Rdr w4 g (s2 p).1 (s2 p).2) := hr4
    have HB4 := Lib.hid (below_grown HB3.out hg4 HB3.out.size HG.out)
    clear hr4 hg4
    go_wp2_with fail
    refine (num_st g 1 (s2 p) w4 HR4.out N2.out).mono ?_
    rintro e w6 ⟨rfl, hr6, hg6⟩
    have HP0 : Hid (RpR w g (s3 p) 0 (.slice none 0 0) w6) := ⟨hr6, World.ownsRow_nil _ _ _ _, below_grown HB4.out hg6 HB4.out.size HG.out, HG.out⟩
    clear hr6 hg6
    obtain ⟨cnt, hcnt⟩ : ∃ cnt, vl 1 (s2 p) = cnt := ⟨_, rfl⟩
    rw [hcnt] at hc ⊢
    have HCN : Hid (rdCnt p = cnt) := hcnt
    clear hcnt
    go_wp2_with fail
    go_loopw [3, 16] (fun v vi wr => ∃ k : Nat, k ≤ cnt ∧ vi = .int .u64 (k : Int) ∧ Hid (RpR w g (s3 p) k v wr)) (fun _ i _ => cnt - (intOf i).toNat)
    case atStart => exact ⟨0, Nat.zero_le _, by go_num, HP0⟩
    case round =>
      obtain ⟨k, hk, rfl, HP⟩ := hrel
      by_cases hlt : k < cnt
      · have HQ := Lib.hid (Nat.le_trans (qs_len (s3 p) k) N3.out)
        have HC := Lib.hid (readPoint_any g (qs (s3 p) k) wr HP.out.rdr HQ.out)
        have hk2 : k ≤ 300 := by omega
        go_wp2_with (first
            | (go_at_call 57; refine HC.out.mono ?_; rintro e w7 ⟨rfl, hr7, hg7⟩; have HR7 := Lib.hid hr7; have HG7 := Lib.hid hg7; clear hr7 hg7; obtain ⟨r, hr⟩ : ∃ r, rrRec (qs (s3 p) k) = r := ⟨_, rfl⟩; rw [hr]; have HRR := Lib.hid hr; clear hr)
            | (refine wpList_lit1 rfl (.tmp 20) 40 50 4 (.agg (rcA zrc)) (rcA r) rfl rfl Try.underlying40 rc_zero (by decide) (by decide) rfl ?_; have HK9 := Lib.hid ((Below.refl w7.heap.size w7).alloc (Nat.le_refl _) (.cells (rcA r) 50)))
            | (at_builtin; refine pl_wpList_app _ rfl (.tmp 18) (.tmp 21) _ rfl (g + 1) 50 i0 _ 4 24 Try.underlying40 hi0 hz0 hz1 hz2 rfl (by omega) _ k _ rfl (own_under (HP.out.own.kept HG7.out (by have hv := HP.out.own.lt; cases hv2 : Value.ownBlock _ with | none => exact .inl rfl | some j => exact .inr (fun e => by have := hv j hv2; injection e with e; omega))) HK9.out (Nat.le_refl _)) _ 1 1 (rcL r) rfl rfl (fun j u hu => by rw [add_plain, Nat.zero_add]; exact new_cells r hu) (by exact rcsL_one r ▸ rcsL_cell [r]) (by simp only [maxLen]; omega) (by omega) (Nat.le_trans (Nat.succ_le_of_lt HR7.out.lt) HK9.out.size) ?_; intro v2 w9 ho9 hg9; have HN : Hid (RpR w g (s3 p) (k + 1) v2 w9) := HP.out.put HR7.out HG7.out HK9.out hg9 (by rw [HRR.out]; exact ho9); clear ho9 hg9))
        go_round
        case rel => exact ⟨k + 1, by omega, by go_num, HN⟩
        case measure => simp [intOf]; omega
      · obtain rfl : k = cnt := by omega
        obtain ⟨b, hb⟩ : ∃ b, (qs (s3 p) k).2 = b := ⟨_, rfl⟩
        have hrd := HP.out.rdr
        rw [hb] at hrd
        have HE : Hid (rdOk p = !b) := by show _ = _; rw [hK.out, HCN.out, hb]
        have HC := Lib.hid (right_any g (qs (s3 p) k).1 b wr hrd)
        clear hrd hb
        cases b
        · go_wp2_with (go_at_call 58; refine HC.out.mono ?_; rintro e w7 ⟨rfl, rfl⟩)
          obtain ⟨A, c, rfl, _, _⟩ := pl_own_slice HP.out.own
          exact bodyPost_ret (results3 (by first | rfl | exact Try.results45) _ _ _) rfl ⟨HP.out.below, .inl ⟨HE.out, A, k, c, rfl, by unfold rdRecs; rw [HCN.out]; exact own_base HP.out.own (by have := HG.out; omega)⟩⟩
        · go_wp2_with (go_at_call 58; refine HC.out.mono ?_; rintro e w7 ⟨rfl, rfl⟩)
          exact bodyPost_ret (results3 (by first | rfl | exact Try.results45) _ _ _) rfl ⟨HP.out.below, .inr ⟨HE.out, rfl⟩⟩
  · have HE : Hid (rdOk p = false) := by show _ = _; unfold rdOk rdKind; rw [show (vl 1 (pS p) == 82) = false by simpa using h82]; rfl
    have hne : ¬ ((vl 1 (pS p) : Int) = 82) := by omega
    go_wp2_with (go_at_call 56; refine (num_st g 1 (pS p) w2 HR2.out N0.out).mono ?_; rintro e w3 ⟨rfl, hr3, hg3⟩; have HB3 := Lib.hid (below_grown HB2.out hg3 HB2.out.size HG.out); clear hr3 hg3)
    exact bodyPost_ret (results3 (by first | rfl | exact Try.results45) _ _ _) rfl ⟨HB3.out, .inr ⟨HE.out, rfl⟩⟩
end Go.Proofs.Ytgjkbnplpioloaa
