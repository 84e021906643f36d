/-
  pageOf.
  Conditions: at most five records, of at most 15 bytes; numbers below 256.
-/
import Derived.Test.YtpffnjnncgmgnaaB14
import Derived.Test.YtpffnjnncgmgnaaB12
namespace Go.Proofs.Ytpffnjnncgmgnaa
open Go.RowKit
attribute [local go_sem] Oper.semAt_some
set_option maxRecDepth 20000

/-- Records that fit a page. -/
def Fits (l : List Rc) : Prop := l.length ≤ 5 ∧ ∀ r ∈ l, r.ok ∧ r.val.length ≤ 15
def recsB (l : List Rc) : List UInt8 := l.flatMap recL
theorem recsB_append (a b : List Rc) : recsB (a ++ b) = recsB a ++ recsB b := by simp [recsB]
theorem recsB_one (r : Rc) : recsB [r] = recL r := by simp [recsB]
theorem recsB_length : ∀ (l : List Rc), (∀ r ∈ l, r.ok ∧ r.val.length ≤ 15) → (recsB l).length = l.length * 41
  | [], _ => rfl
  | a :: l, h => by
    show (recL a ++ recsB l).length = _
    rw [List.length_append, recL_length a (h a (by simp)).2, recsB_length l (fun r hr => h r (by simp [hr]))]
    simp
    omega
def hdB (d n m : Nat) : List UInt8 := [66, UInt8.ofNat d, UInt8.ofNat n, UInt8.ofNat m]
def pageB8 (d n : Nat) (l : List Rc) : List UInt8 := hdB d n l.length ++ recsB l
def pageP (d n : Nat) (l : List Rc) : Pg := padPg (pageB8 d n l)
theorem BC_hdB (d n m : Nat) (hd : d < 256) (hn : n < 256) (hm : m < 256) : BC (hdB d n m) = [.int .u8 66, .int .u8 (d : Int), .int .u8 (n : Int), .int .u8 (m : Int)] := by
  simp only [hdB, BC, List.map_cons, List.map_nil, toNat_ofNat hd, toNat_ofNat hn, toNat_ofNat hm]
  rfl
/-- While a page's bytes are gathered: the header and k records; box g holds a page that is zero. -/
def PgS (w : World) (hd : List UInt8) (l : List Rc) (k : Nat) (v : Value) (wr : World) : Prop := ∃ m, (hd ++ recsB (l.take k)).length = m ∧ wr.ownsRow (w.heap.size + 1) 5 1 v m (BC (hd ++ recsB (l.take k))) ∧ Below w.heap.size w wr ∧ At wr w.heap.size 39 (pgA zpg)
theorem PgS.put {w wr w2 w3 : World} {hd : List UInt8} {l : List Rc} {k : Nat} {v v1 : Value} {m n : Nat} (hk : k < l.length) (hl : (hd ++ recsB (l.take k)).length = m) (ho : wr.ownsRow (w.heap.size + 1) 5 1 v m (BC (hd ++ recsB (l.take k)))) (hb : Below w.heap.size w wr) (ha : At wr w.heap.size 39 (pgA zpg))
    (h2 : Below wr.heap.size wr w2) (hg : w2.grownBy w3 v.ownBlock) (hn : (recL l[k]).length = n) (h3 : w3.ownsRow (w.heap.size + 1) 5 1 v1 (m + n) (BC (hd ++ recsB (l.take k)) ++ BC (recL l[k]))) : PgS w hd l (k + 1) v1 w3 := by
  have e : hd ++ recsB (l.take (k + 1)) = (hd ++ recsB (l.take k)) ++ recL l[k] := by
    rw [List.take_succ_eq_append_getElem hk, recsB_append, recsB_one, List.append_assoc]
  have hb2 := hb.trans (h2.mono hb.size)
  have hv : ∀ j, v.ownBlock = some j → w.heap.size + 1 ≤ j := fun j hj => (ho.lt j hj).1
  refine ⟨m + n, by rw [e, List.length_append, hl, hn], by rw [e, BC_append]; exact h3, hb2.grown hg hb2.size (fun j hj => by have := hv j hj; omega), (ha.under h2 ha.lt).grown hg (fun e => by have := hv _ e.symm; omega)⟩
/-- A page comes back. -/
def RetPg (w : World) (p : Pg) (e : Ending) (z : World) : Prop := e = .returned (.agg (pgA p)) ∧ Below w.heap.size w z
theorem rcA_lit (r : Rc) : (#[.int .u64 (r.id : Nat), .int .u64 (r.key : Nat), .int .u32 (r.x : Nat), .int .u32 (r.y : Nat), .string (strOf r.val), .bool r.ghost] : Array Value) = rcA r := rfl
set_option maxHeartbeats 3200000 in
theorem pageOf_any (d n : Nat) (A : Option Addr) (m c : Nat) (l : List Rc) (w : World) (h : Lz NoX w 6 A m (rcsL l)) (hf : Fits l) (hd : d < 256) (hn : n < 256) :
    Calls Try.prog 34 #[.int .i64 (d : Int), .int .i64 (n : Int), .slice A m c] w (RetPg w (pageP d n l)) := by
  have hlm := h.rclen
  have hm : m ≤ 5 := by rw [← hlm]; exact hf.1
  have HF := Lib.hid hf
  have HL := Lib.hid h
  have HLN := Lib.hid hlm
  clear h hlm hf
  have wd : IntKind.u8.wrap (d : Int) = (d : Int) := by rw [IntKind.wrap_u8]; omega
  have wn : IntKind.u8.wrap (n : Int) = (n : Int) := by rw [IntKind.wrap_u8]; omega
  have wm : IntKind.u8.wrap (m : Int) = (m : Int) := by rw [IntKind.wrap_u8]; omega
  obtain ⟨i0, hi0, hz0, hz1, hz2⟩ := info_parts u8_info
  have HA : Hid (At (w.alloc (.cells Try.zeroCells39 39)) w.heap.size 39 (pgA zpg)) := by
    have := At.new w 39 Try.zeroCells39
    rwa [zero39] at this ⊢
  have HB : Hid (Below w.heap.size w (w.alloc (.cells Try.zeroCells39 39))) := (Below.refl _ w).alloc (Nat.le_refl _) _
  have HSZ : Hid ((w.alloc (.cells Try.zeroCells39 39)).heap.size = w.heap.size + 1) := World.size_alloc _ _
  go_enter Try.func34, Try.ntmps34
  go_upto_region 2 with fail
  have HP0 : Hid (PgS w (hdB d n m) l 0 (.slice (some ⟨w.heap.size + 1, 0, none⟩) 4 4) ((w.alloc (.cells Try.zeroCells39 39)).alloc (.cells #[.int .u8 66, .int .u8 (d : Int), .int .u8 (n : Int), .int .u8 (m : Int)] 5))) := by
    refine ⟨4, rfl, ?_, HB.out.alloc HB.out.size _, HA.out.alloc _⟩
    refine ⟨rfl, .inr ⟨w.heap.size + 1, 4, #[.int .u8 66, .int .u8 (d : Int), .int .u8 (n : Int), .int .u8 (m : Int)], rfl, Nat.le_refl _, ?_, Nat.le_refl _, by simp [maxLen], rfl, ?_⟩⟩
    · have := heap_alloc_new (w.alloc (.cells Try.zeroCells39 39)) (.cells #[.int .u8 66, .int .u8 (d : Int), .int .u8 (n : Int), .int .u8 (m : Int)] 5)
      rw [HSZ.out] at this
      exact this
    · rw [List.take_zero]
      show _ = BC (hdB d n m ++ [])
      rw [List.append_nil, BC_hdB d n m hd hn (by omega)]
      rfl
  clear HA HB HSZ
  generalize ((w.alloc (.cells Try.zeroCells39 39)).alloc (.cells #[.int .u8 66, .int .u8 (d : Int), .int .u8 (n : Int), .int .u8 (m : Int)] 5)) = w2 at HP0 ⊢
  generalize Value.slice (some ⟨w.heap.size + 1, 0, none⟩) 4 4 = v2 at HP0 ⊢
  go_wp2_with fail
  go_loopw [7, 22] (fun v vi wr => ∃ k : Nat, k ≤ m ∧ vi = .int .i64 (k : Int) ∧ Hid (PgS w (hdB d n m) l k v wr)) (fun _ i _ => m - (intOf i).toNat)
  case atStart => exact ⟨0, Nat.zero_le _, by go_num, HP0⟩
  case round =>
    obtain ⟨k, hk, rfl, HK⟩ := hrel
    by_cases hlt : k < m
    · obtain ⟨g, o, hl, rfl, hb, hc⟩ := HL.out.rc hlt
      obtain ⟨q, hq, ho, hbw, ha⟩ := HK.out
      obtain ⟨hr1, hr2⟩ := HF.out.2 l[k] (List.getElem_mem hl)
      obtain ⟨r, hr⟩ : ∃ r, l[k] = r := ⟨_, rfl⟩
      rw [hr] at hc hr1 hr2
      have R1 : Hid (wr.rangeAt g (o + k * 6) (rcL r)) := pl_rangeAt_block hc (hbw.block g hb)
      have hq2 : q ≤ 1000 := by rw [← hq, List.length_append, recsB_length _ (fun r hr => HF.out.2 r (List.mem_of_mem_take hr)), List.length_take]; simp [hdB]; omega
      have HO := Lib.hid ho
      have HBW := Lib.hid hbw
      have HA := Lib.hid ha
      have HR := Lib.hid hr
      have HQ := Lib.hid hq
      have HR1 := Lib.hid hr1
      have HR2 := Lib.hid hr2
      clear hc hr ho hbw ha hq hr1 hr2
      go_wp2_with (first
        | (refine wpList_load_rc 25 (.tmp 24) rfl rfl rfl g (o + k * 6) rfl r R1.out ?_)
        | (refine wpList_store_new 52 (.tmp 9) (.tmp 25) rfl rfl rfl wr.heap.size wr rfl rfl (rcA r) _ 6 rfl str25 rfl rfl (rcA_one r) rfl ?_; have HA9 := Lib.hid (At.new wr 52 (rcA r)); have HK9 := Lib.hid ((Below.refl wr.heap.size wr).alloc (Nat.le_refl _) (.cells (rcA r) 52)); generalize wr.alloc (.cells (rcA r) 52) = w3 at HA9 HK9 ⊢)
        | (refine wpList_load_at 52 27 (.tmp 9) rfl rfl rfl wr.heap.size rfl (rcA r) 6 str25 rfl HA9.out ?_)
        | (go_at_call 46; refine (rec_any r w3 HR1.out HR2.out).mono ?_; intro e w4 hrb; obtain ⟨A4, c4, he, ho4, hb4⟩ := hrb; subst he; have HO4 := Lib.hid ho4; have HK4 := Lib.hid (HK9.out.trans (hb4.mono HK9.out.size)); clear ho4 hb4)
        | (at_builtin; refine wpList_app _ rfl (.tmp 26) (.tmp 28) _ rfl (w.heap.size + 1) 5 i0 _ 1 1 Try.underlying67 hi0 hz0 hz1 hz2 rfl (by omega) _ q _ rfl (own_under HO.out HK4.out (Nat.le_refl _)) _ A4 (recL r).length c4 (BC (recL r)) rfl (Lies.of_own HO4.out) (BC_one _) (by have := recL_length r HR2.out; simp only [maxLen]; omega) (by have := recL_length r HR2.out; omega) (Nat.le_trans (Nat.succ_le_of_lt HA.out.lt) HK4.out.size) ?_; intro v5 w5 ho5 hg5; have HP5 : Hid (PgS w (hdB d n m) l (k + 1) v5 w5) := (PgS.put hl HQ.out HO.out HBW.out HA.out HK4.out hg5 (by rw [HR.out]) (by rw [HR.out]; exact ho5)); clear ho5 hg5))
      go_round
      case rel => exact ⟨k + 1, by omega, by go_num, HP5⟩
      case measure => simp [intOf]; omega
    · obtain rfl : k = m := by omega
      obtain ⟨q, hq, ho, hbw, ha⟩ := HK.out
      rw [List.take_of_length_le (by rw [HLN.out]; omega)] at hq ho
      have hq2 : q ≤ 224 ∧ 0 < q := by
        rw [← hq, List.length_append, recsB_length _ HF.out.2, HLN.out]
        simp [hdB]
        omega
      obtain ⟨g6, cap, rfl, hgB, hcap⟩ := own_some ho hq2.2
      have HE : Hid (hdB d n k ++ recsB l = pageB8 d n l) := by show _ = _; unfold pageB8; rw [HLN.out]
      rw [HE.out] at ho
      have HO := Lib.hid (Lies.of_own ho)
      have HBW := Lib.hid hbw
      have HA := Lib.hid ha
      clear hq ho hbw ha
      go_wp2_with (first
        | (go_at_call 47; refine (Of_any _ q cap ⟨g6, 0, none⟩ (pageB8 d n l) wr HO.out (Nat.le_refl _) hq2.1).mono ?_; rintro e w7 ⟨rfl, hb7⟩; have HB7 := Lib.hid (HBW.out.trans (hb7.mono HBW.out.size)); have HA7 := Lib.hid (HA.out.under hb7 HA.out.lt); clear hb7)
        | (refine wpList_store_new 39 (.tmp 10) (.tmp 34) rfl rfl rfl w7.heap.size w7 rfl rfl (pgA (padPg (pageB8 d n l))) _ 224 rfl str49 (pgA_size _) (by rw [zero39, pgA_size]) (pgA_one _) rfl ?_; have HA8 := Lib.hid (At.new w7 39 (pgA (padPg (pageB8 d n l)))); have HB8 := Lib.hid (HB7.out.alloc HB7.out.size (.cells (pgA (padPg (pageB8 d n l))) 39)); have HA78 := Lib.hid (HA7.out.alloc (.cells (pgA (padPg (pageB8 d n l))) 39)); generalize w7.alloc (.cells (pgA (padPg (pageB8 d n l))) 39) = w8 at HA8 HB8 HA78 ⊢)
        | (refine wpList_load_at 39 36 (.tmp 10) rfl rfl rfl w7.heap.size rfl (pgA (padPg (pageB8 d n l))) 224 str49 (pgA_size _) HA8.out ?_)
        | (refine wpList_store_at 39 (.tmp 6) (.tmp 36) rfl rfl rfl w.heap.size rfl (pgA (padPg (pageB8 d n l))) (pgA zpg) 224 rfl str49 (pgA_size _) (pgA_size _) (pgA_one _) HA78.out ?_; intro w9 h9 g9; have H9 := Lib.hid h9; have HB9 := Lib.hid (HB8.out.grown g9 HB8.out.size (fun j e => by injection e with e; omega)); clear h9 g9))
      exact bodyPost_ret (results_at1 (g := w.heap.size) rfl H9.out str49 (pgA_size _) rfl) rfl ⟨rfl, HB9.out⟩
end Go.Proofs.Ytpffnjnncgmgnaa
