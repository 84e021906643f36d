/-
  The document's Page.
  Conditions: at most five records, of at most 15 bytes; numbers below 256.
-/
import Derived.Test.YtpffnjnncgmgnaaB15
namespace Go.Proofs.Ytpffnjnncgmgnaa
open Go.RowKit
attribute [local go_sem] Oper.semAt_some
set_option maxRecDepth 20000

/-- While bytes are copied one by one onto the page in box g: k are. -/
structure CpS (w : World) (g : Nat) (A : Option Addr) (q c : Nat) (bs : List UInt8) (k : Nat) (wr : World) : Prop where
  own : wr.ownsRow (w.heap.size + 1) 5 1 (.slice A q c) q (BC bs)
  below : Below w.heap.size w wr
  box : At wr w.heap.size 39 (pgA zpg)
  page : At wr g 39 (pgA (padPg (bs.take k)))
  low : w.heap.size < g
  far : (Value.slice A q c).ownBlock ≠ some g
theorem pad_step (bs : List UInt8) (k : Nat) (hk : k < bs.length) (h : bs.length ≤ 224) : (pgA (padPg (bs.take k))).setIfInBounds k (.int .u8 ((bs[k].toNat : Nat) : Int)) = pgA (padPg (bs.take (k + 1))) := by
  simp only [pgA, List.setIfInBounds_toArray]
  congr 1
  rw [padPg_toList _ (by rw [List.length_take]; omega), padPg_toList _ (by rw [List.length_take]; omega)]
  have e1 : (bs.take k).length = k := by rw [List.length_take]; omega
  have e2 : (bs.take (k + 1)).length = k + 1 := by rw [List.length_take]; omega
  rw [e1, e2, List.take_succ_eq_append_getElem hk, BC_append, BC_append, List.set_append_right _ _ (by rw [BC_length, e1]; omega), BC_length, e1, Nat.sub_self, BC_append, show 224 - k = (224 - (k + 1)) + 1 by omega, List.replicate_succ, List.append_assoc]
  rfl
theorem CpS.put {w wr : World} {g q c k : Nat} {A : Option Addr} {bs : List UInt8} (h : CpS w g A q c bs k wr) (hk : k < bs.length) (h2 : bs.length ≤ 224) : CpS w g A q c bs (k + 1) (wr.setCell ⟨g, k, none⟩ (.int .u8 ((bs[k].toNat : Nat) : Int))) := by
  have hg : wr.grownBy (wr.setCell ⟨g, k, none⟩ (.int .u8 ((bs[k].toNat : Nat) : Int))) (some g) := ⟨rfl, rfl, rfl, by simp [World.setCell], fun j _ hj => Below.heap_setCell wr ⟨g, k, none⟩ _ j (fun e => hj (by rw [e]))⟩
  refine ⟨h.own.kept hg (.inr h.far), h.below.setCell (by have := h.low; show w.heap.size ≤ g; omega) _, h.box.grown hg (fun e => by injection e with e; have := h.low; omega), ?_, h.low, h.far⟩
  have := heap_setCell_same wr g k _ 39 (.int .u8 ((bs[k].toNat : Nat) : Int)) h.page
  rw [pad_step bs k hk h2] at this
  exact this
set_option maxHeartbeats 3200000 in
theorem rPage_any (d n : Nat) (A : Option Addr) (m c : Nat) (l : List Rc) (w : World) (h : Lz NoX w 6 A m (rcsL l)) (hf : Fits l) (hd : d < 256) (hn : n < 256) :
    Calls Try.prog 17 #[.int .i64 (d : Int), .int .i64 (n : Int), .slice A m c] w (RetPg w (pageP d n l)) := by
  have hlm := h.rclen
  have hm : m ≤ 5 := by rw [← hlm]; exact hf.1
  have HF := Lib.hid hf
  have HL := Lib.hid h
  have HLN := Lib.hid hlm
  clear h hlm hf
  have wd : IntKind.u8.wrap (d : Int) = (d : Int) := by rw [IntKind.wrap_u8]; omega
  have wn : IntKind.u8.wrap (n : Int) = (n : Int) := by rw [IntKind.wrap_u8]; omega
  have wm : IntKind.u8.wrap (m : Int) = (m : Int) := by rw [IntKind.wrap_u8]; omega
  obtain ⟨i0, hi0, hz0, hz1, hz2⟩ := info_parts u8_info
  have HA : Hid (At (w.alloc (.cells Try.zeroCells39 39)) w.heap.size 39 (pgA zpg)) := by
    have := At.new w 39 Try.zeroCells39
    rwa [zero39] at this ⊢
  have HB : Hid (Below w.heap.size w (w.alloc (.cells Try.zeroCells39 39))) := (Below.refl _ w).alloc (Nat.le_refl _) _
  have HSZ : Hid ((w.alloc (.cells Try.zeroCells39 39)).heap.size = w.heap.size + 1) := World.size_alloc _ _
  go_enter Try.func17, Try.ntmps17
  go_upto_region 2 with fail
  have HP0 : Hid (PgS w (hdB d n m) l 0 (.slice (some ⟨w.heap.size + 1, 0, none⟩) 4 4) ((w.alloc (.cells Try.zeroCells39 39)).alloc (.cells #[.int .u8 66, .int .u8 (d : Int), .int .u8 (n : Int), .int .u8 (m : Int)] 5))) := by
    refine ⟨4, rfl, ?_, HB.out.alloc HB.out.size _, HA.out.alloc _⟩
    refine ⟨rfl, .inr ⟨w.heap.size + 1, 4, #[.int .u8 66, .int .u8 (d : Int), .int .u8 (n : Int), .int .u8 (m : Int)], rfl, Nat.le_refl _, ?_, Nat.le_refl _, by simp [maxLen], rfl, ?_⟩⟩
    · have := heap_alloc_new (w.alloc (.cells Try.zeroCells39 39)) (.cells #[.int .u8 66, .int .u8 (d : Int), .int .u8 (n : Int), .int .u8 (m : Int)] 5)
      rw [HSZ.out] at this
      exact this
    · rw [List.take_zero]
      show _ = BC (hdB d n m ++ [])
      rw [List.append_nil, BC_hdB d n m hd hn (by omega)]
      rfl
  clear HA HB HSZ
  generalize ((w.alloc (.cells Try.zeroCells39 39)).alloc (.cells #[.int .u8 66, .int .u8 (d : Int), .int .u8 (n : Int), .int .u8 (m : Int)] 5)) = w2 at HP0 ⊢
  generalize Value.slice (some ⟨w.heap.size + 1, 0, none⟩) 4 4 = v2 at HP0 ⊢
  go_wp2_with fail
  go_loopw [7, 8] (fun v vi wr => ∃ k : Nat, k ≤ m ∧ vi = .int .i64 (k : Int) ∧ Hid (PgS w (hdB d n m) l k v wr)) (fun _ i _ => m - (intOf i).toNat)
  case atStart => exact ⟨0, Nat.zero_le _, by go_num, HP0⟩
  case round =>
    obtain ⟨k, hk, rfl, HK⟩ := hrel
    by_cases hlt : k < m
    · obtain ⟨g, o, hl, rfl, hb, hc⟩ := HL.out.rc hlt
      obtain ⟨q, hq, ho, hbw, ha⟩ := HK.out
      obtain ⟨hr1, hr2⟩ := HF.out.2 l[k] (List.getElem_mem hl)
      obtain ⟨r, hr⟩ : ∃ r, l[k] = r := ⟨_, rfl⟩
      rw [hr] at hc hr1 hr2
      have R1 : Hid (wr.rangeAt g (o + k * 6) (rcL r)) := pl_rangeAt_block hc (hbw.block g hb)
      have hq2 : q ≤ 1000 := by rw [← hq, List.length_append, recsB_length _ (fun r hr => HF.out.2 r (List.mem_of_mem_take hr)), List.length_take]; simp [hdB]; omega
      have HO := Lib.hid ho
      have HBW := Lib.hid hbw
      have HA := Lib.hid ha
      have HR := Lib.hid hr
      have HQ := Lib.hid hq
      have HR1 := Lib.hid hr1
      have HR2 := Lib.hid hr2
      clear hc hr ho hbw ha hq hr1 hr2
      go_wp2_with (first
        | (refine wpList_load_rc 29 (.tmp 28) rfl rfl rfl g (o + k * 6) rfl r R1.out ?_)
        | (go_at_call 35; refine (refRec_any r wr HR1.out HR2.out).mono ?_; intro e w4 hrb; obtain ⟨A4, c4, he, ho4, hb4⟩ := hrb; subst he; have HO4 := Lib.hid ho4; have HK4 := Lib.hid hb4; clear ho4 hb4)
        | (at_builtin; refine wpList_app _ rfl (.tmp 25) (.tmp 30) _ rfl (w.heap.size + 1) 5 i0 _ 1 1 Try.underlying67 hi0 hz0 hz1 hz2 rfl (by omega) _ q _ rfl (own_under HO.out HK4.out (Nat.le_refl _)) _ A4 (recL r).length c4 (BC (recL r)) rfl (Lies.of_own HO4.out) (BC_one _) (by have := recL_length r HR2.out; simp only [maxLen]; omega) (by have := recL_length r HR2.out; omega) (Nat.le_trans (Nat.succ_le_of_lt HA.out.lt) HK4.out.size) ?_; intro v5 w5 ho5 hg5; have HP5 : Hid (PgS w (hdB d n m) l (k + 1) v5 w5) := (PgS.put hl HQ.out HO.out HBW.out HA.out HK4.out hg5 (by rw [HR.out]) (by rw [HR.out]; exact ho5)); clear ho5 hg5))
      go_round
      case rel => exact ⟨k + 1, by omega, by go_num, HP5⟩
      case measure => simp [intOf]; omega
    · obtain rfl : k = m := by omega
      obtain ⟨q, hq, ho, hbw, ha⟩ := HK.out
      rw [List.take_of_length_le (by rw [HLN.out]; omega)] at hq ho
      have hq2 : q ≤ 224 ∧ 0 < q := by
        rw [← hq, List.length_append, recsB_length _ HF.out.2, HLN.out]
        simp [hdB]
        omega
      obtain ⟨g6, cap, rfl, hgB, hcap⟩ := own_some ho hq2.2
      have HE : Hid (hdB d n k ++ recsB l = pageB8 d n l) := by show _ = _; unfold pageB8; rw [HLN.out]
      rw [HE.out] at ho
      have HE2 : Hid ((pageB8 d n l).length = q) := by show _ = _; rw [← hq, HE.out]
      have HO := Lib.hid ho
      have HBW := Lib.hid hbw
      have HA := Lib.hid ha
      clear hq ho hbw ha
      obtain ⟨bs, hbs⟩ : ∃ bs, pageB8 d n l = bs := ⟨_, rfl⟩
      have HG : Hid (pageP d n l = padPg bs) := by show _ = _; unfold pageP; rw [hbs]
      rw [hbs] at HO HE2
      clear hbs HE
      have HA9 : Hid (At (wr.alloc (.cells Try.zeroCells39 39)) wr.heap.size 39 (pgA (padPg (bs.take 0)))) := by
        have := At.new wr 39 Try.zeroCells39
        rw [zero39] at this ⊢
        exact this
      have HCp : Hid (CpS w wr.heap.size (some ⟨g6, 0, none⟩) q cap bs 0 (wr.alloc (.cells Try.zeroCells39 39))) := ⟨own_under HO.out ((Below.refl _ _).alloc (Nat.le_refl _) _) (Nat.le_refl _), HBW.out.alloc HBW.out.size _, HA.out.alloc _, HA9.out, HA.out.lt, by intro e; have := HO.out.lt _ e; omega⟩
      clear HA9 HO HBW HA
      go_wp2_with fail
      generalize wr.alloc (.cells Try.zeroCells39 39) = w6 at HCp ⊢
      generalize wr.heap.size = g9 at HCp ⊢
      go_loopw [10] (fun vi wr => ∃ i : Nat, i ≤ q ∧ vi = .int .i64 (i : Int) ∧ Hid (CpS w g9 (some ⟨g6, 0, none⟩) q cap bs i wr)) (fun i _ => q - (intOf i).toNat)
      case atStart => exact ⟨0, Nat.zero_le _, by go_num, HCp⟩
      case round =>
        obtain ⟨i, hi, rfl, HC⟩ := hrel
        by_cases hlt : i < q
        · have hib : i < bs.length := by rw [HE2.out]; exact hlt
          have HN := Lib.hid (HC.out.put hib (by rw [HE2.out]; exact hq2.1))
          have c1 : wr.cell? ⟨g6, i, none⟩ = some (.int .u8 ((bs[i].toNat : Nat) : Int)) := own_cell HC.out.own (by rw [BC, List.getElem?_map, List.getElem?_eq_getElem hib]; rfl)
          have c2 : (wr.cell? ⟨g9, i, none⟩).isSome = true := by rw [HC.out.page.cell, Array.getElem?_eq_getElem (by rw [pgA_size]; omega)]; rfl
          obtain ⟨u2, c2⟩ := Option.isSome_iff_exists.1 c2
          have f2 : wr.frozen? ⟨g9, i, none⟩ = false := HC.out.page.frozen i
          generalize ((bs[i].toNat : Nat) : Int) = b at HN c1
          go_wp2_with fail
          go_round
          case rel => exact ⟨i + 1, by omega, by go_num, HN⟩
          case measure => simp [intOf]; omega
        · obtain rfl : i = q := by omega
          have HD := HC.out.page
          rw [List.take_of_length_le (by rw [HE2.out]; omega)] at HD
          have HP := Lib.hid HD
          clear HD
          go_wp2_with (first
            | (refine wpList_load_at 39 44 (.tmp 9) rfl rfl rfl g9 rfl (pgA (padPg bs)) 224 str49 (pgA_size _) HP.out ?_)
            | (refine wpList_store_at 39 (.tmp 6) (.tmp 44) rfl rfl rfl w.heap.size rfl (pgA (padPg bs)) (pgA zpg) 224 rfl str49 (pgA_size _) (pgA_size _) (pgA_one _) HC.out.box ?_; intro w9 h9 g9; have H9 := Lib.hid h9; have HB9 := Lib.hid (HC.out.below.grown g9 HC.out.below.size (fun j e => by injection e with e; omega)); clear h9 g9))
          exact bodyPost_ret (results_at1 (g := w.heap.size) rfl H9.out str49 (pgA_size _) rfl) rfl ⟨by rw [HG.out], HB9.out⟩
end Go.Proofs.Ytpffnjnncgmgnaa
