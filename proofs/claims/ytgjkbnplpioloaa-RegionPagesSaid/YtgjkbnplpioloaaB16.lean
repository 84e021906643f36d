/-
  The document's Page.
  Conditions: at most eight points; a number below 256.
-/
import Derived.Test.YtgjkbnplpioloaaB15
namespace Go.Proofs.Ytgjkbnplpioloaa
open Go.RowKit
attribute [local go_sem] Oper.semAt_some
set_option maxRecDepth 20000

/-- While bytes are copied one by one onto the page in box g: k are. -/
structure CpS (w : World) (g : Nat) (A : Option Addr) (q c : Nat) (bs : List UInt8) (k : Nat) (wr : World) : Prop where
  own : wr.ownsRow (w.heap.size + 1) 5 1 (.slice A q c) q (BC bs)
  below : Below w.heap.size w wr
  box : At wr w.heap.size 62 (pgA zpg)
  page : At wr g 62 (pgA (padPg (bs.take k)))
  low : w.heap.size < g
  far : (Value.slice A q c).ownBlock ≠ some g
theorem pad_step (bs : List UInt8) (k : Nat) (hk : k < bs.length) (h : bs.length ≤ 224) : (pgA (padPg (bs.take k))).setIfInBounds k (.int .u8 ((bs[k].toNat : Nat) : Int)) = pgA (padPg (bs.take (k + 1))) := by
  simp only [pgA, List.setIfInBounds_toArray]
  congr 1
  rw [padPg_toList _ (by rw [List.length_take]; omega), padPg_toList _ (by rw [List.length_take]; omega)]
  have e1 : (bs.take k).length = k := by rw [List.length_take]; omega
  have e2 : (bs.take (k + 1)).length = k + 1 := by rw [List.length_take]; omega
  rw [e1, e2, List.take_succ_eq_append_getElem hk, BC_append, BC_append, List.set_append_right _ _ (by rw [BC_length, e1]; omega), BC_length, e1, Nat.sub_self, BC_append, show 224 - k = (224 - (k + 1)) + 1 by omega, List.replicate_succ, List.append_assoc]
  rfl
theorem CpS.put {w wr : World} {g q c k : Nat} {A : Option Addr} {bs : List UInt8} (h : CpS w g A q c bs k wr) (hk : k < bs.length) (h2 : bs.length ≤ 224) : CpS w g A q c bs (k + 1) (wr.setCell ⟨g, k, none⟩ (.int .u8 ((bs[k].toNat : Nat) : Int))) := by
  have hg : wr.grownBy (wr.setCell ⟨g, k, none⟩ (.int .u8 ((bs[k].toNat : Nat) : Int))) (some g) := ⟨rfl, rfl, rfl, by simp [World.setCell], fun j _ hj => Below.heap_setCell wr ⟨g, k, none⟩ _ j (fun e => hj (by rw [e]))⟩
  refine ⟨h.own.kept hg (.inr h.far), h.below.setCell (by have := h.low; show w.heap.size ≤ g; omega) _, h.box.grown hg (fun e => by injection e with e; have := h.low; omega), ?_, h.low, h.far⟩
  have := heap_setCell_same wr g k _ 62 (.int .u8 ((bs[k].toNat : Nat) : Int)) h.page
  rw [pad_step bs k hk h2] at this
  exact this
set_option maxHeartbeats 3200000 in
theorem rPage_any (n : Nat) (A : Option Addr) (m c : Nat) (l : List Rc) (w : World) (h : Lz NoX w 4 A m (rcsL l)) (hf : Fits l) (hn : n < 256) :
    Calls Try.prog 26 #[.int .i64 (n : Int), .slice A m c] w (RetPg w (pageP n l)) := by
  have hlm := h.rclen
  have hm : m ≤ 8 := by rw [← hlm]; exact hf.1
  have HF := Lib.hid hf
  have HL := Lib.hid h
  have HLN := Lib.hid hlm
  clear h hlm hf
  have wn : IntKind.u8.wrap (n : Int) = (n : Int) := by rw [IntKind.wrap_u8]; omega
  have wm : IntKind.u8.wrap (m : Int) = (m : Int) := by rw [IntKind.wrap_u8]; omega
  obtain ⟨i0, hi0, hz0, hz1, hz2⟩ := info_parts u8_info
  have HA : Hid (At (w.alloc (.cells (pgA zpg) 62)) w.heap.size 62 (pgA zpg)) := At.new w 62 (pgA zpg)
  have HB : Hid (Below w.heap.size w (w.alloc (.cells (pgA zpg) 62))) := (Below.refl _ w).alloc (Nat.le_refl _) _
  have HSZ : Hid ((w.alloc (.cells (pgA zpg) 62)).heap.size = w.heap.size + 1) := World.size_alloc _ _
  have hzero := (zero_of_info pg_info).1
  go_enter Try.func26, Try.ntmps26
  go_upto_region 2 with fail
  have HP0 : Hid (RwS w (hdB n m ++ recsB (l.take 0)) (.slice (some ⟨w.heap.size + 1, 0, none⟩) 3 3) ((w.alloc (.cells (pgA zpg) 62)).alloc (.cells #[.int .u8 82, .int .u8 (n : Int), .int .u8 (m : Int)] 5))) := by
    refine ⟨?_, HB.out.alloc HB.out.size _, HA.out.alloc _⟩
    refine ⟨rfl, .inr ⟨w.heap.size + 1, 3, #[.int .u8 82, .int .u8 (n : Int), .int .u8 (m : Int)], rfl, Nat.le_refl _, ?_, Nat.le_refl _, by simp [maxLen], rfl, ?_⟩⟩
    · have := heap_alloc_new (w.alloc (.cells (pgA zpg) 62)) (.cells #[.int .u8 82, .int .u8 (n : Int), .int .u8 (m : Int)] 5)
      rw [HSZ.out] at this
      exact this
    · rw [List.take_zero]
      show _ = BC (hdB n m ++ [])
      rw [List.append_nil, BC_hdB n m hn (by omega)]
      rfl
  clear HA HB HSZ
  generalize ((w.alloc (.cells (pgA zpg) 62)).alloc (.cells #[.int .u8 82, .int .u8 (n : Int), .int .u8 (m : Int)] 5)) = w2 at HP0 ⊢
  generalize Value.slice (some ⟨w.heap.size + 1, 0, none⟩) 3 3 = v2 at HP0 ⊢
  go_wp2_with fail
  go_loopw [5, 6] (fun v vi wr => ∃ k : Nat, k ≤ m ∧ vi = .int .i64 (k : Int) ∧ Hid (RwS w (hdB n m ++ recsB (l.take k)) v wr)) (fun _ i _ => m - (intOf i).toNat)
  case atStart => exact ⟨0, Nat.zero_le _, by go_num, HP0⟩
  case round =>
    obtain ⟨k, hk, rfl, HK⟩ := hrel
    have hgl := gather_len n m l k (by rw [HLN.out]; exact hk)
    by_cases hlt : k < m
    · obtain ⟨g, o, hl, rfl, hb, hc⟩ := HL.out.rc hlt
      have HG := Lib.hid (gather n m l k hl)
      obtain ⟨bs, hbs⟩ : ∃ bs, hdB n m ++ recsB (l.take k) = bs := ⟨_, rfl⟩
      rw [hbs] at hgl HK HG
      obtain ⟨r, hr⟩ : ∃ r, l[k] = r := ⟨_, rfl⟩
      have HRO : Hid r.ok := by show r.ok; rw [← hr]; exact HF.out.2 l[k] (List.getElem_mem hl)
      rw [hr] at hc HG
      have HC := Lib.hid hc
      have HBG := Lib.hid hb
      obtain ⟨q, hq⟩ : ∃ q, bs.length = q := ⟨_, rfl⟩
      have hqb : q ≤ 200 := by omega
      have HQ0 := Lib.hid hq
      have HR0 := HK
      have HX : Hid (r.x < 18446744073709551616) := Nat.lt_trans HRO.out.x (by omega)
      have HY : Hid (r.y < 18446744073709551616) := Nat.lt_trans HRO.out.y (by omega)
      have wx : IntKind.u64.wrap (r.x : Int) = (r.x : Int) := by have := HX.out; rw [IntKind.wrap_u64]; omega
      have wy : IntKind.u64.wrap (r.y : Int) = (r.y : Int) := by have := HY.out; rw [IntKind.wrap_u64]; omega
      have d0 : wr.cell? ⟨g, o + k * 4, none⟩ = some (.int .u32 (r.x : Int)) := (HK.out.below.cell (p := ⟨g, o + k * 4, none⟩) hb).trans (hc 0 _ rfl)
      clear hc hr hbs hgl hq hb
      go_wp2_with fail
      refine (wrefPut_any 4 r.x 4 wr (by omega) (by omega) (by omega) HX.out).mono ?_
      rintro e w0c hret
      have hret : RetB wr (putL r.x 4) e w0c := hret
      obtain ⟨A0c, c0c, rfl, ho, hb⟩ := hret
      rw [putL_length] at ho ⊢
      have HP0 := Lib.hid (Lies.of_own ho)
      have HR0c := Lib.hid (HR0.out.call hb)
      have HS0 : Hid (w.heap.size + 1 ≤ w0c.heap.size) := Nat.succ_le_of_lt HR0c.out.box.lt
      have HO0 : Hid (w0c.ownsRow (w.heap.size + 1) 5 1 _ (q) (BC bs)) := (by have := HR0c.out.own; rw [HQ0.out] at this; exact this)
      clear ho hb
      go_upto_region 6 with (first | (at_builtin; refine wpList_app _ rfl (.tmp 21) (.tmp 28) _ rfl (w.heap.size + 1) 5 i0 _ 1 1 Try.underlying79 hi0 hz0 hz1 hz2 rfl (by omega) _ (q) _ rfl HO0.out _ _ 4 _ (BC (putL r.x 4)) rfl HP0.out (BC_one _) (by simp only [maxLen]; omega) (by omega) HS0.out ?_; intro v1 w1b ho5 hg5; have HR1 : Hid (RwS w (bs ++ putL r.x 4) v1 w1b) := HR0c.out.app (putL_length _ _) (by rw [HQ0.out]; exact ho5) hg5; clear ho5 hg5))
      have HQ1 : Hid ((bs ++ putL r.x 4).length = q + 4) := (by show _ = _; rw [List.length_append, putL_length, HQ0.out])
      have d1 : w1b.cell? ⟨g, o + k * 4 + 1, none⟩ = some (.int .u32 (r.y : Int)) := (HR1.out.below.cell (p := ⟨g, o + k * 4 + 1, none⟩) HBG.out).trans (HC.out 1 _ rfl)
      go_wp2_with fail
      refine (wrefPut_any 4 r.y 4 w1b (by omega) (by omega) (by omega) HY.out).mono ?_
      rintro e w1c hret
      have hret : RetB w1b (putL r.y 4) e w1c := hret
      obtain ⟨A1c, c1c, rfl, ho, hb⟩ := hret
      rw [putL_length] at ho ⊢
      have HP1 := Lib.hid (Lies.of_own ho)
      have HR1c := Lib.hid (HR1.out.call hb)
      have HS1 : Hid (w.heap.size + 1 ≤ w1c.heap.size) := Nat.succ_le_of_lt HR1c.out.box.lt
      have HO1 : Hid (w1c.ownsRow (w.heap.size + 1) 5 1 _ (q + 4) (BC (bs ++ putL r.x 4))) := (by have := HR1c.out.own; rw [HQ1.out] at this; exact this)
      clear ho hb
      go_upto_region 7 with (first | (at_builtin; refine wpList_app _ rfl (.tmp 30) (.tmp 37) _ rfl (w.heap.size + 1) 5 i0 _ 1 1 Try.underlying79 hi0 hz0 hz1 hz2 rfl (by omega) _ (q + 4) _ rfl HO1.out _ _ 4 _ (BC (putL r.y 4)) rfl HP1.out (BC_one _) (by simp only [maxLen]; omega) (by omega) HS1.out ?_; intro v2 w2b ho5 hg5; have HR2 : Hid (RwS w ((bs ++ putL r.x 4) ++ putL r.y 4) v2 w2b) := HR1c.out.app (putL_length _ _) (by rw [HQ1.out]; exact ho5) hg5; clear ho5 hg5))
      have HQ2 : Hid (((bs ++ putL r.x 4) ++ putL r.y 4).length = q + 4 + 4) := (by show _ = _; rw [List.length_append, putL_length, HQ1.out])
      have d2 : w2b.cell? ⟨g, o + k * 4 + 2, none⟩ = some (.int .u64 (r.id : Int)) := (HR2.out.below.cell (p := ⟨g, o + k * 4 + 2, none⟩) HBG.out).trans (HC.out 2 _ rfl)
      go_wp2_with fail
      refine (wrefPut_any 8 r.id 8 w2b (by omega) (by omega) (by omega) HRO.out.id).mono ?_
      rintro e w2c hret
      have hret : RetB w2b (putL r.id 8) e w2c := hret
      obtain ⟨A2c, c2c, rfl, ho, hb⟩ := hret
      rw [putL_length] at ho ⊢
      have HP2 := Lib.hid (Lies.of_own ho)
      have HR2c := Lib.hid (HR2.out.call hb)
      have HS2 : Hid (w.heap.size + 1 ≤ w2c.heap.size) := Nat.succ_le_of_lt HR2c.out.box.lt
      have HO2 : Hid (w2c.ownsRow (w.heap.size + 1) 5 1 _ (q + 4 + 4) (BC ((bs ++ putL r.x 4) ++ putL r.y 4))) := (by have := HR2c.out.own; rw [HQ2.out] at this; exact this)
      clear ho hb
      go_upto_region 8 with (first | (at_builtin; refine wpList_app _ rfl (.tmp 39) (.tmp 45) _ rfl (w.heap.size + 1) 5 i0 _ 1 1 Try.underlying79 hi0 hz0 hz1 hz2 rfl (by omega) _ (q + 4 + 4) _ rfl HO2.out _ _ 8 _ (BC (putL r.id 8)) rfl HP2.out (BC_one _) (by simp only [maxLen]; omega) (by omega) HS2.out ?_; intro v3 w3b ho5 hg5; have HR3 : Hid (RwS w (((bs ++ putL r.x 4) ++ putL r.y 4) ++ putL r.id 8) v3 w3b) := HR2c.out.app (putL_length _ _) (by rw [HQ2.out]; exact ho5) hg5; clear ho5 hg5))
      have HQ3 : Hid ((((bs ++ putL r.x 4) ++ putL r.y 4) ++ putL r.id 8).length = q + 4 + 4 + 8) := (by show _ = _; rw [List.length_append, putL_length, HQ2.out])
      have d3 : w3b.cell? ⟨g, o + k * 4 + 3, none⟩ = some (.int .u64 (r.key : Int)) := (HR3.out.below.cell (p := ⟨g, o + k * 4 + 3, none⟩) HBG.out).trans (HC.out 3 _ rfl)
      go_wp2_with fail
      refine (wrefPut_any 8 r.key 8 w3b (by omega) (by omega) (by omega) HRO.out.key).mono ?_
      rintro e w3c hret
      have hret : RetB w3b (putL r.key 8) e w3c := hret
      obtain ⟨A3c, c3c, rfl, ho, hb⟩ := hret
      rw [putL_length] at ho ⊢
      have HP3 := Lib.hid (Lies.of_own ho)
      have HR3c := Lib.hid (HR3.out.call hb)
      have HS3 : Hid (w.heap.size + 1 ≤ w3c.heap.size) := Nat.succ_le_of_lt HR3c.out.box.lt
      have HO3 : Hid (w3c.ownsRow (w.heap.size + 1) 5 1 _ (q + 4 + 4 + 8) (BC (((bs ++ putL r.x 4) ++ putL r.y 4) ++ putL r.id 8))) := (by have := HR3c.out.own; rw [HQ3.out] at this; exact this)
      clear ho hb
      go_wp2_with (first | (at_builtin; refine wpList_app _ rfl (.tmp 47) (.tmp 53) _ rfl (w.heap.size + 1) 5 i0 _ 1 1 Try.underlying79 hi0 hz0 hz1 hz2 rfl (by omega) _ (q + 4 + 4 + 8) _ rfl HO3.out _ _ 8 _ (BC (putL r.key 8)) rfl HP3.out (BC_one _) (by simp only [maxLen]; omega) (by omega) HS3.out ?_; intro v4 w4b ho5 hg5; have HR4 : Hid (RwS w ((((bs ++ putL r.x 4) ++ putL r.y 4) ++ putL r.id 8) ++ putL r.key 8) v4 w4b) := HR3c.out.app (putL_length _ _) (by rw [HQ3.out]; exact ho5) hg5; clear ho5 hg5))
      have HQ4 : Hid (((((bs ++ putL r.x 4) ++ putL r.y 4) ++ putL r.id 8) ++ putL r.key 8).length = q + 4 + 4 + 8 + 8) := (by show _ = _; rw [List.length_append, putL_length, HQ3.out])
      rw [HG.out] at HR4
      go_round
      case rel => exact ⟨k + 1, by omega, by go_num, HR4⟩
      case measure => simp [intOf]; omega
    · obtain rfl : k = m := by omega
      have HE : Hid (hdB n k ++ recsB (l.take k) = pageB8 n l) := by show _ = _; unfold pageB8; rw [HLN.out, List.take_of_length_le (by rw [HLN.out]; omega)]
      obtain ⟨q, hq⟩ : ∃ q, (hdB n k ++ recsB (l.take k)).length = q := ⟨_, rfl⟩
      have hq2 : q ≤ 224 ∧ 0 < q := by omega
      have ho := HK.out.own
      rw [hq] at ho
      obtain ⟨g6, cap, rfl, hgB, hcap⟩ := own_some ho hq2.2
      rw [HE.out] at ho hq
      have HE2 : Hid ((pageB8 n l).length = q) := hq
      have HO := Lib.hid ho
      have HBW := Lib.hid HK.out.below
      have HA := Lib.hid HK.out.box
      clear ho hq hgl HK
      obtain ⟨bs, hbs⟩ : ∃ bs, pageB8 n l = bs := ⟨_, rfl⟩
      have HG : Hid (pageP n l = padPg bs) := by show _ = _; unfold pageP; rw [hbs]
      rw [hbs] at HO HE2
      clear hbs HE
      have HA9 : Hid (At (wr.alloc (.cells (pgA zpg) 62)) wr.heap.size 62 (pgA (padPg (bs.take 0)))) := by
        have := At.new wr 62 (pgA zpg)
        exact this
      have HCp : Hid (CpS w wr.heap.size (some ⟨g6, 0, none⟩) q cap bs 0 (wr.alloc (.cells (pgA zpg) 62))) := ⟨own_under HO.out ((Below.refl _ _).alloc (Nat.le_refl _) _) (Nat.le_refl _), HBW.out.alloc HBW.out.size _, HA.out.alloc _, HA9.out, HA.out.lt, by intro e; have := HO.out.lt _ e; omega⟩
      clear HA9 HO HBW HA
      have hzero := (zero_of_info pg_info).1
      go_wp2_with fail
      generalize wr.alloc (.cells (pgA zpg) 62) = w6 at HCp ⊢
      generalize wr.heap.size = g9 at HCp ⊢
      go_loopw [8] (fun vi wr => ∃ i : Nat, i ≤ q ∧ vi = .int .i64 (i : Int) ∧ Hid (CpS w g9 (some ⟨g6, 0, none⟩) q cap bs i wr)) (fun i _ => q - (intOf i).toNat)
      case atStart => exact ⟨0, Nat.zero_le _, by go_num, HCp⟩
      case round =>
        obtain ⟨i, hi, rfl, HC⟩ := hrel
        by_cases hlt : i < q
        · have hib : i < bs.length := by rw [HE2.out]; exact hlt
          have HN := Lib.hid (HC.out.put hib (by rw [HE2.out]; exact hq2.1))
          have c1 : wr.cell? ⟨g6, i, none⟩ = some (.int .u8 ((bs[i].toNat : Nat) : Int)) := own_cell HC.out.own (by rw [BC, List.getElem?_map, List.getElem?_eq_getElem hib]; rfl)
          have c2 : (wr.cell? ⟨g9, i, none⟩).isSome = true := by rw [HC.out.page.cell, Array.getElem?_eq_getElem (by rw [pgA_size]; omega)]; rfl
          obtain ⟨u2, c2⟩ := Option.isSome_iff_exists.1 c2
          have f2 : wr.frozen? ⟨g9, i, none⟩ = false := HC.out.page.frozen i
          generalize ((bs[i].toNat : Nat) : Int) = b at HN c1
          go_wp2_with fail
          go_round
          case rel => exact ⟨i + 1, by omega, by go_num, HN⟩
          case measure => simp [intOf]; omega
        · obtain rfl : i = q := by omega
          have HD := HC.out.page
          rw [List.take_of_length_le (by rw [HE2.out]; omega)] at HD
          have HP := Lib.hid HD
          clear HD
          go_wp2_with (first
            | (refine wpList_load_at 62 67 (.tmp 7) rfl rfl rfl g9 rfl (pgA (padPg bs)) 224 str49 (pgA_size _) HP.out ?_)
            | (refine wpList_store_at 62 (.tmp 4) (.tmp 67) rfl rfl rfl w.heap.size rfl (pgA (padPg bs)) (pgA zpg) 224 rfl str49 (pgA_size _) (pgA_size _) (pgA_one _) HC.out.box ?_; intro w9 h9 g9; have H9 := Lib.hid h9; have HB9 := Lib.hid (HC.out.below.grown g9 HC.out.below.size (fun j e => by injection e with e; omega)); clear h9 g9))
          exact bodyPost_ret (results_at1 (g := w.heap.size) rfl H9.out str49 (pgA_size _) rfl) rfl ⟨by rw [HG.out], HB9.out⟩
end Go.Proofs.Ytgjkbnplpioloaa
