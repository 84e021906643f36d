/-
  pageOf.
  Conditions: at most eight points; a number below 256.
-/
import Derived.Test.YtgjkbnplpioloaaB14
import Derived.Test.YtgjkbnplpioloaaB12
namespace Go.Proofs.Ytgjkbnplpioloaa
open Go.RowKit
attribute [local go_sem] Oper.semAt_some
set_option maxRecDepth 20000

theorem own_some {w : World} {B n : Nat} {e : TypeId} {size : Nat} {v : Value} {xs : List Value} (h : w.ownsRow B e size v n xs) (hn : 0 < n) : ∃ g cap, v = .slice (some ⟨g, 0, none⟩) n cap ∧ B ≤ g ∧ n ≤ cap := by
  rcases h.2 with ⟨_, rfl⟩ | ⟨g, cap, cur, rfl, h1, _, h2, _⟩
  · omega
  · exact ⟨g, cap, rfl, h1, h2⟩
theorem own_cell {w : World} {B n : Nat} {e : TypeId} {size g cap : Nat} {xs : List Value} (h : w.ownsRow B e size (.slice (some ⟨g, 0, none⟩) n cap) n xs) {j : Nat} {u : Value} (hu : xs[j]? = some u) : w.cell? ⟨g, j, none⟩ = some u := by
  have := h.cells (g := g) rfl j u hu
  rwa [add_plain, Nat.zero_add] at this
/-- Points that fit a page. -/
def Fits (l : List Rc) : Prop := l.length ≤ 8 ∧ ∀ r ∈ l, r.ok
def recsB (l : List Rc) : List UInt8 := l.flatMap recL
theorem recsB_append (a b : List Rc) : recsB (a ++ b) = recsB a ++ recsB b := by simp [recsB]
theorem recsB_one (r : Rc) : recsB [r] = recL r := by simp [recsB]
theorem recsB_length : ∀ (l : List Rc), (recsB l).length = l.length * 24
  | [] => rfl
  | a :: l => by
    show (recL a ++ recsB l).length = _
    rw [List.length_append, recL_length a, recsB_length l]
    simp
    omega
def hdB (n m : Nat) : List UInt8 := [82, UInt8.ofNat n, UInt8.ofNat m]
def pageB8 (n : Nat) (l : List Rc) : List UInt8 := hdB n l.length ++ recsB l
def pageP (n : Nat) (l : List Rc) : Pg := padPg (pageB8 n l)
theorem BC_hdB (n m : Nat) (hn : n < 256) (hm : m < 256) : BC (hdB n m) = [.int .u8 82, .int .u8 (n : Int), .int .u8 (m : Int)] := by
  simp only [hdB, BC, List.map_cons, List.map_nil, toNat_ofNat hn, toNat_ofNat hm]
  rfl
/-- A row of bytes of the call's own, behind a box with a page that is zero. -/
structure RwS (w : World) (bs : List UInt8) (v : Value) (wr : World) : Prop where
  own : wr.ownsRow (w.heap.size + 1) 5 1 v bs.length (BC bs)
  below : Below w.heap.size w wr
  box : At wr w.heap.size 62 (pgA zpg)
theorem RwS.call {w wr w2 : World} {bs : List UInt8} {v : Value} (h : RwS w bs v wr) (hb : Below wr.heap.size wr w2) : RwS w bs v w2 :=
  ⟨own_under h.own hb (Nat.le_refl _), h.below.trans (hb.mono h.below.size), h.box.under hb h.box.lt⟩
theorem RwS.new {w wr w2 : World} {bs l : List UInt8} {v v2 : Value} (h : RwS w bs v wr) (ho : w2.ownsRow wr.heap.size 5 1 v2 l.length (BC l)) (hb : Below wr.heap.size wr w2) : RwS w l v2 w2 :=
  ⟨own_base ho (Nat.succ_le_of_lt h.box.lt), h.below.trans (hb.mono h.below.size), h.box.under hb h.box.lt⟩
theorem RwS.app {w wr w2 : World} {bs l : List UInt8} {v v2 : Value} {n : Nat} (h : RwS w bs v wr) (hn : l.length = n) (ho : w2.ownsRow (w.heap.size + 1) 5 1 v2 (bs.length + n) (BC bs ++ BC l)) (hg : wr.grownBy w2 v.ownBlock) : RwS w (bs ++ l) v2 w2 := by
  have hv : ∀ j, v.ownBlock = some j → w.heap.size + 1 ≤ j := fun j hj => (h.own.lt j hj).1
  refine ⟨by rw [List.length_append, hn, BC_append]; exact ho, h.below.grown hg h.below.size (fun j hj => by have := hv j hj; omega), h.box.grown hg (fun e => by have := hv _ e.symm; omega)⟩
theorem gather (n m : Nat) (l : List Rc) (k : Nat) (hk : k < l.length) : ((((hdB n m ++ recsB (l.take k)) ++ putL l[k].x 4) ++ putL l[k].y 4) ++ putL l[k].id 8) ++ putL l[k].key 8 = hdB n m ++ recsB (l.take (k + 1)) := by
  rw [List.take_succ_eq_append_getElem hk, recsB_append, recsB_one]
  simp [recL]
theorem gather_len (n m : Nat) (l : List Rc) (k : Nat) (hk : k ≤ l.length) : (hdB n m ++ recsB (l.take k)).length = 3 + k * 24 := by
  rw [List.length_append, recsB_length, List.length_take, Nat.min_eq_left hk]
  rfl
/-- A page comes back. -/
def RetPg (w : World) (p : Pg) (e : Ending) (z : World) : Prop := e = .returned (.agg (pgA p)) ∧ Below w.heap.size w z
set_option maxHeartbeats 3200000 in
theorem pageOf_any (n : Nat) (A : Option Addr) (m c : Nat) (l : List Rc) (w : World) (h : Lz NoX w 4 A m (rcsL l)) (hf : Fits l) (hn : n < 256) :
    Calls Try.prog 42 #[.int .i64 (n : Int), .slice A m c] w (RetPg w (pageP n l)) := by
  have hlm := h.rclen
  have hm : m ≤ 8 := by rw [← hlm]; exact hf.1
  have HF := Lib.hid hf
  have HL := Lib.hid h
  have HLN := Lib.hid hlm
  clear h hlm hf
  have wn : IntKind.u8.wrap (n : Int) = (n : Int) := by rw [IntKind.wrap_u8]; omega
  have wm : IntKind.u8.wrap (m : Int) = (m : Int) := by rw [IntKind.wrap_u8]; omega
  have HA : Hid (At (w.alloc (.cells (pgA zpg) 62)) w.heap.size 62 (pgA zpg)) := by
    have := At.new w 62 (pgA zpg)
    exact this
  have HB : Hid (Below w.heap.size w (w.alloc (.cells (pgA zpg) 62))) := (Below.refl _ w).alloc (Nat.le_refl _) _
  have HSZ : Hid ((w.alloc (.cells (pgA zpg) 62)).heap.size = w.heap.size + 1) := World.size_alloc _ _
  have hzero := (zero_of_info pg_info).1
  go_enter Try.func42, Try.ntmps42
  go_upto_region 2 with fail
  have HP0 : Hid (RwS w (hdB n m ++ recsB (l.take 0)) (.slice (some ⟨w.heap.size + 1, 0, none⟩) 3 3) ((w.alloc (.cells (pgA zpg) 62)).alloc (.cells #[.int .u8 82, .int .u8 (n : Int), .int .u8 (m : Int)] 5))) := by
    refine ⟨?_, HB.out.alloc HB.out.size _, HA.out.alloc _⟩
    refine ⟨rfl, .inr ⟨w.heap.size + 1, 3, #[.int .u8 82, .int .u8 (n : Int), .int .u8 (m : Int)], rfl, Nat.le_refl _, ?_, Nat.le_refl _, by simp [maxLen], rfl, ?_⟩⟩
    · have := heap_alloc_new (w.alloc (.cells (pgA zpg) 62)) (.cells #[.int .u8 82, .int .u8 (n : Int), .int .u8 (m : Int)] 5)
      rw [HSZ.out] at this
      exact this
    · rw [List.take_zero]
      show _ = BC (hdB n m ++ [])
      rw [List.append_nil, BC_hdB n m hn (by omega)]
      rfl
  clear HA HB HSZ
  generalize ((w.alloc (.cells (pgA zpg) 62)).alloc (.cells #[.int .u8 82, .int .u8 (n : Int), .int .u8 (m : Int)] 5)) = w2 at HP0 ⊢
  generalize Value.slice (some ⟨w.heap.size + 1, 0, none⟩) 3 3 = v2 at HP0 ⊢
  go_wp2_with fail
  go_loopw [5, 18] (fun v vi wr => ∃ k : Nat, k ≤ m ∧ vi = .int .i64 (k : Int) ∧ Hid (RwS w (hdB n m ++ recsB (l.take k)) v wr)) (fun _ i _ => m - (intOf i).toNat)
  case atStart => exact ⟨0, Nat.zero_le _, by go_num, HP0⟩
  case round =>
    obtain ⟨k, hk, rfl, HK⟩ := hrel
    have hgl := gather_len n m l k (by rw [HLN.out]; exact hk)
    obtain ⟨A0, c0, hu, hc0, _⟩ := pl_own_slice HK.out.own
    by_cases hlt : k < m
    · obtain ⟨g, o, hl, rfl, hb, hc⟩ := HL.out.rc hlt
      have HG := Lib.hid (gather n m l k hl)
      obtain ⟨bs, hbs⟩ : ∃ bs, hdB n m ++ recsB (l.take k) = bs := ⟨_, rfl⟩
      rw [hbs] at hgl HK HG hu hc0
      obtain ⟨r, hr⟩ : ∃ r, l[k] = r := ⟨_, rfl⟩
      have HRO : Hid r.ok := by show r.ok; rw [← hr]; exact HF.out.2 l[k] (List.getElem_mem hl)
      rw [hr] at hc HG
      have R1 : Hid (wr.rangeAt g (o + k * 4) (rcL r)) := pl_rangeAt_block hc (HK.out.below.block g hb)
      obtain ⟨q, hq⟩ : ∃ q, bs.length = q := ⟨_, rfl⟩
      have hqb : q ≤ 200 := by omega
      subst hu
      rw [hq] at hc0 ⊢
      have HQ3 := Lib.hid hq
      clear hc hr hbs hgl hq
      go_wp2_with (first
        | (refine wpList_load_rc 21 (.tmp 20) rfl rfl rfl g (o + k * 4) rfl r R1.out ?_)
        | (refine wpList_store_new 50 (.tmp 7) (.tmp 21) rfl rfl rfl wr.heap.size wr rfl rfl (rcA r) _ 4 rfl str25 rfl rfl (rcA_one r) rfl ?_; have HA9 := Lib.hid (At.new wr 50 (rcA r)); have HR3 := Lib.hid (HK.out.call ((Below.refl wr.heap.size wr).alloc (Nat.le_refl _) (.cells (rcA r) 50))); have HL3 : Hid (Lies (wr.alloc (.cells (rcA r) 50)) (wr.alloc (.cells (rcA r) 50)).heap.size 1 A0 q (BC bs)) := (by have := HR3.out.own; rw [HQ3.out] at this; exact Lies.of_own this); generalize wr.alloc (.cells (rcA r) 50) = w3 at HA9 HR3 HL3 ⊢; have d0 : w3.cell? ⟨wr.heap.size, 0, none⟩ = some (.int .u32 (r.x : Int)) := HA9.out.cell 0))
      refine (wput32_any _ (q) c0 r.x A0 bs 4 w3 HL3.out (Nat.le_refl _) (by omega) HRO.out.x (by omega) (by omega)).mono ?_
      rintro e w4 hret
      have hret : RetB w3 (bs ++ putL r.x 4) e w4 := hret
      obtain ⟨A4, c4, rfl, ho, hb⟩ := hret
      have HR4 : Hid (RwS w (bs ++ putL r.x 4) (.slice A4 (bs ++ putL r.x 4).length c4) w4) := HR3.out.new ho hb
      have hlen : (bs ++ putL r.x 4).length = q + 4 := by rw [List.length_append, putL_length, HQ3.out]
      have HQ4 := Lib.hid hlen
      rw [hlen] at HR4
      have HL4 : Hid (Lies w4 w4.heap.size 1 A4 (q + 4) (BC (bs ++ putL r.x 4))) := (by have := HR4.out.own; rw [hlen] at this; exact Lies.of_own this)
      have HA10 := Lib.hid (HA9.out.under hb HA9.out.lt)
      have d1 : w4.cell? ⟨wr.heap.size, 1, none⟩ = some (.int .u32 (r.y : Int)) := HA10.out.cell 1
      rw [hlen]
      clear hlen ho hb
      go_wp2_with fail
      refine (wput32_any _ (q + 4) c4 r.y A4 (bs ++ putL r.x 4) 4 w4 HL4.out (Nat.le_refl _) (by omega) HRO.out.y (by omega) (by omega)).mono ?_
      rintro e w5 hret
      have hret : RetB w4 ((bs ++ putL r.x 4) ++ putL r.y 4) e w5 := hret
      obtain ⟨A5, c5, rfl, ho, hb⟩ := hret
      have HR5 : Hid (RwS w ((bs ++ putL r.x 4) ++ putL r.y 4) (.slice A5 ((bs ++ putL r.x 4) ++ putL r.y 4).length c5) w5) := HR4.out.new ho hb
      have hlen : ((bs ++ putL r.x 4) ++ putL r.y 4).length = q + 4 + 4 := by rw [List.length_append, putL_length, HQ4.out]
      have HQ5 := Lib.hid hlen
      rw [hlen] at HR5
      have HL5 : Hid (Lies w5 w5.heap.size 1 A5 (q + 4 + 4) (BC ((bs ++ putL r.x 4) ++ putL r.y 4))) := (by have := HR5.out.own; rw [hlen] at this; exact Lies.of_own this)
      have HA11 := Lib.hid (HA10.out.under hb HA10.out.lt)
      have d2 : w5.cell? ⟨wr.heap.size, 2, none⟩ = some (.int .u64 (r.id : Int)) := HA11.out.cell 2
      rw [hlen]
      clear hlen ho hb
      go_wp2_with fail
      refine (wput_any _ (q + 4 + 4) c5 r.id A5 ((bs ++ putL r.x 4) ++ putL r.y 4) 8 w5 HL5.out (Nat.le_refl _) (by omega) HRO.out.id (by omega) (by omega)).mono ?_
      rintro e w6 hret
      have hret : RetB w5 (((bs ++ putL r.x 4) ++ putL r.y 4) ++ putL r.id 8) e w6 := hret
      obtain ⟨A6, c6, rfl, ho, hb⟩ := hret
      have HR6 : Hid (RwS w (((bs ++ putL r.x 4) ++ putL r.y 4) ++ putL r.id 8) (.slice A6 (((bs ++ putL r.x 4) ++ putL r.y 4) ++ putL r.id 8).length c6) w6) := HR5.out.new ho hb
      have hlen : (((bs ++ putL r.x 4) ++ putL r.y 4) ++ putL r.id 8).length = q + 4 + 4 + 8 := by rw [List.length_append, putL_length, HQ5.out]
      have HQ6 := Lib.hid hlen
      rw [hlen] at HR6
      have HL6 : Hid (Lies w6 w6.heap.size 1 A6 (q + 4 + 4 + 8) (BC (((bs ++ putL r.x 4) ++ putL r.y 4) ++ putL r.id 8))) := (by have := HR6.out.own; rw [hlen] at this; exact Lies.of_own this)
      have HA12 := Lib.hid (HA11.out.under hb HA11.out.lt)
      have d3 : w6.cell? ⟨wr.heap.size, 3, none⟩ = some (.int .u64 (r.key : Int)) := HA12.out.cell 3
      rw [hlen]
      clear hlen ho hb
      go_wp2_with fail
      refine (wput_any _ (q + 4 + 4 + 8) c6 r.key A6 (((bs ++ putL r.x 4) ++ putL r.y 4) ++ putL r.id 8) 8 w6 HL6.out (Nat.le_refl _) (by omega) HRO.out.key (by omega) (by omega)).mono ?_
      rintro e w7 hret
      have hret : RetB w6 ((((bs ++ putL r.x 4) ++ putL r.y 4) ++ putL r.id 8) ++ putL r.key 8) e w7 := hret
      obtain ⟨A7, c7, rfl, ho, hb⟩ := hret
      have HR7 : Hid (RwS w ((((bs ++ putL r.x 4) ++ putL r.y 4) ++ putL r.id 8) ++ putL r.key 8) (.slice A7 ((((bs ++ putL r.x 4) ++ putL r.y 4) ++ putL r.id 8) ++ putL r.key 8).length c7) w7) := HR6.out.new ho hb
      have hlen : ((((bs ++ putL r.x 4) ++ putL r.y 4) ++ putL r.id 8) ++ putL r.key 8).length = q + 4 + 4 + 8 + 8 := by rw [List.length_append, putL_length, HQ6.out]
      have HQ7 := Lib.hid hlen
      rw [hlen] at HR7
      have HL7 : Hid (Lies w7 w7.heap.size 1 A7 (q + 4 + 4 + 8 + 8) (BC ((((bs ++ putL r.x 4) ++ putL r.y 4) ++ putL r.id 8) ++ putL r.key 8))) := (by have := HR7.out.own; rw [hlen] at this; exact Lies.of_own this)
      have HA13 := Lib.hid (HA12.out.under hb HA12.out.lt)
      rw [hlen]
      clear hlen ho hb
      go_wp2_with fail
      rw [HG.out] at HR7
      go_round
      case rel => exact ⟨k + 1, by omega, by go_num, by first | exact HR7 | (rw [HQ7.out]; exact HR7) | skip⟩
      case measure => simp [intOf]; omega
    · obtain rfl : k = m := by omega
      have HE : Hid (hdB n k ++ recsB (l.take k) = pageB8 n l) := by show _ = _; unfold pageB8; rw [HLN.out, List.take_of_length_le (by rw [HLN.out]; omega)]
      obtain ⟨q, hq⟩ : ∃ q, (hdB n k ++ recsB (l.take k)).length = q := ⟨_, rfl⟩
      have hq0 : 0 < q ∧ q ≤ 224 := by omega
      subst hu
      have ho := HK.out.own
      rw [hq] at ho ⊢
      obtain ⟨g6, cap, he, hgB, hcap⟩ := own_some ho hq0.1
      rw [HE.out] at ho
      have HO := Lib.hid (Lies.of_own ho)
      have HBW := Lib.hid HK.out.below
      have HA := Lib.hid HK.out.box
      injection he with he1 he2 he3
      subst he1 he3
      clear ho hq hgl
      have hzero := (zero_of_info pg_info).1
      go_wp2_with (first
        | (go_at_call 54; refine (Of_any _ q c0 ⟨g6, 0, none⟩ (pageB8 n l) wr HO.out (Nat.le_refl _) hq0.2).mono ?_; rintro e w7 ⟨rfl, hb7⟩; have HB7 := Lib.hid (HBW.out.trans (hb7.mono HBW.out.size)); have HA7 := Lib.hid (HA.out.under hb7 HA.out.lt); clear hb7)
        | (refine wpList_store_new 62 (.tmp 8) (.tmp 42) rfl rfl rfl w7.heap.size w7 rfl rfl (pgA (padPg (pageB8 n l))) _ 224 rfl str49 (pgA_size _) (pgA_size _) (pgA_one _) rfl ?_; have HA8 := Lib.hid (At.new w7 62 (pgA (padPg (pageB8 n l)))); have HB8 := Lib.hid (HB7.out.alloc HB7.out.size (.cells (pgA (padPg (pageB8 n l))) 62)); have HA78 := Lib.hid (HA7.out.alloc (.cells (pgA (padPg (pageB8 n l))) 62)); generalize w7.alloc (.cells (pgA (padPg (pageB8 n l))) 62) = w8 at HA8 HB8 HA78 ⊢)
        | (refine wpList_load_at 62 44 (.tmp 8) rfl rfl rfl w7.heap.size rfl (pgA (padPg (pageB8 n l))) 224 str49 (pgA_size _) HA8.out ?_)
        | (refine wpList_store_at 62 (.tmp 4) (.tmp 44) rfl rfl rfl w.heap.size rfl (pgA (padPg (pageB8 n l))) (pgA zpg) 224 rfl str49 (pgA_size _) (pgA_size _) (pgA_one _) HA78.out ?_; intro w9 h9 g9; have H9 := Lib.hid h9; have HB9 := Lib.hid (HB8.out.grown g9 HB8.out.size (fun j e => by injection e with e; omega)); clear h9 g9))
      exact bodyPost_ret (results_at1 (g := w.heap.size) rfl H9.out str49 (pgA_size _) rfl) rfl ⟨rfl, HB9.out⟩
end Go.Proofs.Ytgjkbnplpioloaa
