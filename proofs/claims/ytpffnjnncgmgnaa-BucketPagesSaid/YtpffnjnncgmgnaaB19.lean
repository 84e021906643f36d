/-
  readPage.
  Conditions: none.
-/
import Derived.Test.YtpffnjnncgmgnaaB18
import Derived.Test.YtpffnjnncgmgnaaT2
namespace Go.Proofs.Ytpffnjnncgmgnaa
open Go.RowKit
attribute [local go_sem] Oper.semAt_some
set_option maxRecDepth 20000

/-- The reader behind k records. -/
def qs (s : RS) : Nat → RS
  | 0 => s
  | k + 1 => q6 (qs s k)
theorem qs_len (s : RS) : ∀ k, (qs s k).1.length ≤ s.1.length
  | 0 => Nat.le_refl _
  | k + 1 => Nat.le_trans (q6_len _) (qs_len s k)
def recsK (s : RS) (k : Nat) : List Rc := (List.range k).map fun j => rrRec (qs s j)
theorem recsK_succ (s : RS) (k : Nat) : recsK s (k + 1) = recsK s k ++ [rrRec (qs s k)] := by simp [recsK, List.range_succ]
def pS (p : Pg) : RS := (p.toList, false)
def rdKind (p : Pg) : Nat := vl 1 (pS p)
def s1 (p : Pg) : RS := nx 1 (pS p)
def rdDepth (p : Pg) : Nat := vl 1 (s1 p)
def s2 (p : Pg) : RS := nx 1 (s1 p)
def rdNext (p : Pg) : Nat := vl 1 (s2 p)
def s3 (p : Pg) : RS := nx 1 (s2 p)
def rdCnt (p : Pg) : Nat := vl 1 (s3 p)
def s4 (p : Pg) : RS := nx 1 (s3 p)
def rdRecs (p : Pg) : List Rc := recsK (s4 p) (rdCnt p)
def rdAll (p : Pg) : Bool := (List.range (rdCnt p)).all fun j => rrOk (qs (s4 p) j)
def rdOk (p : Pg) : Bool := rdKind p == 66 && rdAll p
theorem results4 {fn : Func} {t u v x : Tmp} (h : fn.results = #[.tmp t, .tmp u, .tmp v, .tmp x]) (tmps : Array Value) (P : Program) (w : World) :
    (results fn tmps).run P w = .ok (.tuple #[tmps.getD t undef, tmps.getD u undef, tmps.getD v undef, tmps.getD x undef]) w := by
  simp [results, h]
/-- What readPage answers. -/
def RetRd (w : World) (p : Pg) (e : Ending) (z : World) : Prop := Below w.heap.size w z ∧ ((rdOk p = true ∧ ∃ A m c, e = .returned (.tuple #[.int .i64 (rdDepth p : Int), .int .i64 (rdNext p : Int), .slice A m c, .bool true]) ∧ z.ownsRow w.heap.size 52 6 (.slice A m c) m (rcsL (rdRecs p))) ∨ (rdOk p = false ∧ e = .returned (.tuple #[.int .i64 0, .int .i64 0, .slice none 0 0, .bool false])))
/-- While records are read: k are. -/
structure RpR (w : World) (g : Nat) (s : RS) (k : Nat) (v : Value) (wr : World) : Prop where
  rdr : Rdr wr g (qs s k).1 (qs s k).2
  own : wr.ownsRow (g + 1) 52 6 v k (rcsL (recsK s k))
  below : Below w.heap.size w wr
  low : w.heap.size ≤ g
  oks : ∀ j, j < k → rrOk (qs s j) = true
theorem RpR.put {w wr w2 w3 w4 : World} {g k : Nat} {s : RS} {v v' : Value} (h : RpR w g s k v wr) (hok : rrOk (qs s k) = true) (hr : Rdr w2 g (q6 (qs s k)).1 (q6 (qs s k)).2) (hg : wr.grownBy w2 (some g)) (h3 : Below w2.heap.size w2 w3) (h4 : w3.grownBy w4 v.ownBlock) (ho : w4.ownsRow (g + 1) 52 6 v' (k + 1) (rcsL (recsK s k) ++ rcL (rrRec (qs s k)))) : RpR w g s (k + 1) v' w4 := by
  have hl := h.low
  have hgl := hr.lt
  have hb2 : Below w.heap.size w w2 := below_grown h.below hg h.below.size hl
  have hb3 := hb2.trans (h3.mono hb2.size)
  have hv : ∀ j, v.ownBlock = some j → g + 1 ≤ j := fun j hj => (h.own.lt j hj).1
  refine ⟨?_, by rw [recsK_succ, rcsL_append, rcsL_one]; exact ho, hb3.grown h4 hb3.size (fun j hj => by have := hv j hj; omega), hl, fun j hj => ?_⟩
  · exact Rdr.kept hr fun j hj => (h4.block j (by have := h3.size; omega) (fun e => by have := hv j e.symm; omega)).trans (h3.block j (by omega))
  · by_cases e : j = k
    · subst e
      exact hok
    · exact h.oks j (by omega)
set_option maxHeartbeats 6400000 in
theorem readPg_any (p : Pg) (w : World) : Calls Try.prog 37 #[.agg (pgA p)] w (RetRd w p) := by
  have HB : Hid (Below w.heap.size w (w.alloc (.cells (pgA p) 39))) := (Below.refl _ w).alloc (Nat.le_refl _) _
  have HA : Hid (At (w.alloc (.cells (pgA p) 39)) w.heap.size 39 (pgA p)) := At.new w 39 (pgA p)
  have HL : Hid (Lies (w.alloc (.cells (pgA p) 39)) (w.heap.size + 1) 1 (some ⟨w.heap.size, 0, none⟩) 224 (BC p.toList)) := ⟨by rw [BC_length, Vector.length_toList], fun _ => ⟨_, rfl, Nat.lt_succ_self _, fun j u hu => by
    rw [add_plain, Nat.zero_add, HA.out.cell j]
    simpa [pgA] using hu⟩⟩
  have HZ : Hid (w.heap.size + 1 ≤ (w.alloc (.cells (pgA p) 39)).heap.size) := by show _ ≤ _; rw [World.size_alloc]; exact Nat.le_refl _
  have hN : (pS p).1.length ≤ 10000 := by show p.toList.length ≤ _; rw [Vector.length_toList]; omega
  have N0 := Lib.hid hN
  have N1 : Hid ((s1 p).1.length ≤ 10000) := Nat.le_trans (nx_len _ _) hN
  have N2 : Hid ((s2 p).1.length ≤ 10000) := Nat.le_trans (nx_len _ _) N1.out
  have N3 : Hid ((s3 p).1.length ≤ 10000) := Nat.le_trans (nx_len _ _) N2.out
  have N4 : Hid ((s4 p).1.length ≤ 10000) := Nat.le_trans (nx_len _ _) N3.out
  clear hN
  have hd := vl_lt1 (s1 p)
  have hn := vl_lt1 (s2 p)
  have hc := vl_lt1 (s3 p)
  have hk := vl_lt1 (pS p)
  have wd : IntKind.i64.wrap ((vl 1 (s1 p) : Nat) : Int) = (vl 1 (s1 p) : Nat) := by rw [IntKind.wrap_i64]; omega
  have wn : IntKind.i64.wrap ((vl 1 (s2 p) : Nat) : Int) = (vl 1 (s2 p) : Nat) := by rw [IntKind.wrap_i64]; omega
  obtain ⟨i0, hi0, hz0, hz1, hz2⟩ := rc_info
  go_enter Try.func37, Try.ntmps37
  go_upto_region 1 with fail
  generalize (w.alloc (.cells (pgA p) 39)) = w1 at HB HA HL HZ ⊢
  go_upto_region 2 with (go_at_call 50; refine (read_any (w.heap.size + 1) 224 224 _ p.toList w1 HL.out HZ.out (by omega)).mono ?_; rintro e w2 ⟨g, rfl, hg2, hr2, hb2⟩; have HG := Lib.hid (Nat.le_trans HB.out.size hg2); have HR2 : Hid (Rdr w2 g (pS p).1 (pS p).2) := hr2; have HB2 := Lib.hid (HB.out.trans (hb2.mono HB.out.size)); clear hg2 hr2 hb2)
  by_cases h66 : vl 1 (pS p) = 66
  · have hK : Hid (rdOk p = rdAll p) := by show _ = _; unfold rdOk rdKind; rw [h66]; rfl
    go_wp2_with fail
    refine (num_st g 1 (pS p) w2 HR2.out N0.out).mono ?_
    rintro e w3 ⟨rfl, hr3, hg3⟩
    rw [h66]
    have HR3 : Hid (Rdr w3 g (s1 p).1 (s1 p).2) := hr3
    have HB3 := Lib.hid (below_grown HB2.out hg3 HB2.out.size HG.out)
    clear hr3 hg3
    go_wp2_with fail
    refine (num_st g 1 (s1 p) w3 HR3.out N1.out).mono ?_
    rintro e w4 ⟨rfl, hr4, hg4⟩
    have HR4 : Hid (Rdr w4 g (s2 p).1 (s2 p).2) := hr4
    have HB4 := Lib.hid (below_grown HB3.out hg4 HB3.out.size HG.out)
    clear hr4 hg4
    go_wp2_with fail
    refine (num_st g 1 (s2 p) w4 HR4.out N2.out).mono ?_
    rintro e w5 ⟨rfl, hr5, hg5⟩
    have HR5 : Hid (Rdr w5 g (s3 p).1 (s3 p).2) := hr5
    have HB5 := Lib.hid (below_grown HB4.out hg5 HB4.out.size HG.out)
    clear hr5 hg5
    go_wp2_with fail
    refine (num_st g 1 (s3 p) w5 HR5.out N3.out).mono ?_
    rintro e w6 ⟨rfl, hr6, hg6⟩
    have HP0 : Hid (RpR w g (s4 p) 0 (.slice none 0 0) w6) := ⟨hr6, World.ownsRow_nil _ _ _ _, below_grown HB5.out hg6 HB5.out.size HG.out, HG.out, fun _ h => absurd h (Nat.not_lt_zero _)⟩
    clear hr6 hg6
    obtain ⟨cnt, hcnt⟩ : ∃ cnt, vl 1 (s3 p) = cnt := ⟨_, rfl⟩
    rw [hcnt] at hc ⊢
    have HCN : Hid (rdCnt p = cnt) := hcnt
    clear hcnt
    go_wp2_with fail
    go_loopw [2, 3, 4, 22] (fun x y v vi wr => ∃ k : Nat, k ≤ cnt ∧ vi = .int .u64 (k : Int) ∧ x = .int .i64 (vl 1 (s1 p) : Nat) ∧ y = .int .i64 (vl 1 (s2 p) : Nat) ∧ Hid (RpR w g (s4 p) k v wr)) (fun _ _ _ i _ => cnt - (intOf i).toNat)
    case atStart => exact ⟨0, Nat.zero_le _, by go_num, rfl, rfl, HP0⟩
    case round =>
      obtain ⟨k, hk, rfl, rfl, rfl, HP⟩ := hrel
      by_cases hlt : k < cnt
      · have HQ := Lib.hid (Nat.le_trans (qs_len (s4 p) k) N4.out)
        have HC0 := readRec_any g (qs (s4 p) k) wr HP.out.rdr HQ.out
        by_cases hok : rrOk (qs (s4 p) k) = true
        · have HOK := Lib.hid hok
          rw [show Rr wr g (qs (s4 p) k) = RrYes wr g (qs (s4 p) k) by funext e z; unfold Rr; rw [if_pos hok]] at HC0
          have HC := Lib.hid HC0
          clear hok HC0
          have hk2 : k ≤ 300 := by omega
          go_wp2_with (first
            | (go_at_call 52; refine HC.out.mono ?_; rintro e w7 ⟨rfl, hr7, hg7⟩; rw [rcA_lit]; have HR7 := Lib.hid hr7; have HG7 := Lib.hid hg7; clear hr7 hg7; obtain ⟨r, hr⟩ : ∃ r, rrRec (qs (s4 p) k) = r := ⟨_, rfl⟩; rw [hr]; have HRR := Lib.hid hr; clear hr)
            | (refine wpList_store_new 52 (.tmp 7) (.tmp 27) rfl rfl rfl w7.heap.size w7 rfl rfl (rcA r) _ 6 rfl str25 rfl rfl (rcA_one r) rfl ?_; have HA8 := Lib.hid (At.new w7 52 (rcA r)); have HK8 := Lib.hid ((Below.refl w7.heap.size w7).alloc (Nat.le_refl _) (.cells (rcA r) 52)); generalize w7.alloc (.cells (rcA r) 52) = w8 at HA8 HK8 ⊢)
            | (refine wpList_load_at 52 32 (.tmp 7) rfl rfl rfl w7.heap.size rfl (rcA r) 6 str25 rfl HA8.out ?_)
            | (refine wpList_lit1 rfl (.tmp 32) 27 52 6 (.agg (rcA zrc)) (rcA r) rfl rfl Try.underlying27 rc_zero (by decide) (by decide) rfl ?_; have HK9 := Lib.hid (HK8.out.alloc HK8.out.size (.cells (rcA r) 52)))
            | (at_builtin; refine pl_wpList_app _ rfl (.tmp 31) (.tmp 33) _ rfl (g + 1) 52 i0 _ 6 48 Try.underlying27 hi0 hz0 hz1 hz2 rfl (by omega) _ k _ rfl (own_under (HP.out.own.kept HG7.out (by have hv := HP.out.own.lt; cases hv2 : Value.ownBlock _ with | none => exact .inl rfl | some j => exact .inr (fun e => by have := hv j hv2; injection e with e; omega))) HK9.out (Nat.le_refl _)) _ 1 1 (rcL r) rfl rfl (fun j u hu => by rw [add_plain, Nat.zero_add]; exact new_cells r hu) (by exact rcsL_one r ▸ rcsL_cell [r]) (by simp only [maxLen]; omega) (by omega) (Nat.le_trans (Nat.succ_le_of_lt HR7.out.lt) HK9.out.size) ?_; intro v2 w9 ho9 hg9; have HN : Hid (RpR w g (s4 p) (k + 1) v2 w9) := HP.out.put HOK.out HR7.out HG7.out HK9.out hg9 (by rw [HRR.out]; exact ho9); clear ho9 hg9))
          go_round
          case rel => exact ⟨k + 1, by omega, by go_num, rfl, rfl, HN⟩
          case measure => simp [intOf]; omega
        · rw [show Rr wr g (qs (s4 p) k) = RrNo wr g (qs (s4 p) k) by funext e z; unfold Rr; rw [if_neg hok]] at HC0
          have HC := Lib.hid HC0
          have HE : Hid (rdOk p = false) := by
            show _ = _
            rw [hK.out]
            unfold rdAll
            rw [List.all_eq_false]
            exact ⟨k, by rw [HCN.out]; exact List.mem_range.2 hlt, hok⟩
          clear hok HC0
          go_wp2_with (first
            | (go_at_call 52; refine HC.out.mono ?_; rintro e w7 ⟨rfl, hr7, hg7⟩; rw [rcA_lit]; have HB7 := Lib.hid (below_grown HP.out.below hg7 HP.out.below.size HG.out); clear hr7 hg7)
            | (refine wpList_store_new 52 (.tmp 7) (.tmp 27) rfl rfl rfl w7.heap.size w7 rfl rfl (rcA zrc) _ 6 rfl str25 rfl rfl (rcA_one zrc) rfl ?_; have HB8 := Lib.hid (HB7.out.alloc HB7.out.size (.cells (rcA zrc) 52)); generalize w7.alloc (.cells (rcA zrc) 52) = w8 at HB8 ⊢))
          exact bodyPost_ret (results4 (by first | rfl | exact Try.results37) _ _ _) rfl ⟨HB8.out, .inr ⟨HE.out, rfl⟩⟩
      · obtain rfl : k = cnt := by omega
        have HE : Hid (rdOk p = true) := by
          show _ = _
          rw [hK.out]
          unfold rdAll
          rw [List.all_eq_true]
          intro j hj
          rw [HCN.out] at hj
          exact HP.out.oks j (List.mem_range.1 hj)
        go_wp2_with fail
        obtain ⟨A, c, rfl, _, _⟩ := pl_own_slice HP.out.own
        exact bodyPost_ret (results4 (by first | rfl | exact Try.results37) _ _ _) rfl ⟨HP.out.below, .inl ⟨HE.out, A, k, c, rfl, by unfold rdRecs; rw [HCN.out]; exact own_base HP.out.own (by have := HG.out; omega)⟩⟩
  · have HE : Hid (rdOk p = false) := by show _ = _; unfold rdOk rdKind; rw [show (vl 1 (pS p) == 66) = false by simpa using h66]; rfl
    have hne : ¬ ((vl 1 (pS p) : Int) = 66) := by omega
    go_wp2_with (go_at_call 51; refine (num_st g 1 (pS p) w2 HR2.out N0.out).mono ?_; rintro e w3 ⟨rfl, hr3, hg3⟩; have HB3 := Lib.hid (below_grown HB2.out hg3 HB2.out.size HG.out); clear hr3 hg3)
    exact bodyPost_ret (results4 (by first | rfl | exact Try.results37) _ _ _) rfl ⟨HB3.out, .inr ⟨HE.out, rfl⟩⟩
end Go.Proofs.Ytpffnjnncgmgnaa
