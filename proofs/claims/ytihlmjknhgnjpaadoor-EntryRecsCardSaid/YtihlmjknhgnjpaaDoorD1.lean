/-
  Walks: bytes.TrimRight of the byte 0, putPage, the reference's length.
  Conditions: none beyond those that each theorem names.
-/
import Derived.Test.YtihlmjknhgnjpaaDoorC2
import Derived.Test.YtihlmjknhgnjpaaDoorSGet
namespace Go.Proofs.YtihlmjknhgnjpaaDoor
open Go.RowKit
set_option maxRecDepth 8000

theorem u8_zero {b : UInt8} : ((b.toNat : Int) == 0) = decide (b = 0) := by
  rw [Bool.eq_iff_iff, beq_iff_eq, decide_eq_true_eq]
  constructor
  · intro h
    apply UInt8.toNat_inj.1
    simpa using h
  · rintro rfl; rfl

theorem lies_k (w : World) (cs : List Value) (t : TypeId) (n k : Nat) (hn : cs.length = n) (hk : k = w.heap.size) : Lies (w.alloc (.cells cs.toArray t)) (w.heap.size + 1) 1 (some ⟨k, 0, none⟩) n cs := by
  subst hk
  exact lies_new' w cs t n hn

set_option maxHeartbeats 400000 in
theorem trimByte_any (B n c : Nat) (A : Option Addr) (l : List UInt8) (w : World) (h : Lies w B 1 A n (BC l)) (hn : n ≤ 1000) (hc : n ≤ c) :
    Calls Tryd.prog 52 #[.slice A n c, .int .u8 0] w fun e w' => e = .returned (.slice A (sN l n) c) ∧ w = w' := by
  have hl : l.length = n := by have := h.len; rw [BC_length] at this; omega
  have HL := Lib.hid hl
  have HH := Lib.hid h
  clear hl h
  go_enter Tryd.func52, Tryd.ntmps52
  go_wp2_with fail
  go_loop [0] (fun s => ∃ m : Nat, m ≤ n ∧ s = .slice A m c ∧ Hid (sN l m = sN l n)) (fun s => lenOf s)
  case atStart => exact ⟨n, Nat.le_refl _, rfl, Lib.hid rfl⟩
  case round =>
    obtain ⟨m, hm, rfl, hs⟩ := hrel
    cases m with
    | zero =>
      go_wp2_with fail
      go_ret
      exact ⟨by rw [← hs.out]; rfl, rfl⟩
    | succ m =>
      obtain ⟨a, u, rfl, hb, hx, hcell⟩ := HH.out.get (k := m) (by omega)
      have hml : m < l.length := by rw [HL.out]; omega
      rw [BC_get l m hml] at hx
      injection hx with hx
      subst hx
      have hD := Lib.hid (show l.getD m 0 = l[m] by rw [List.getD_eq_getElem?_getD, List.getElem?_eq_getElem hml]; rfl)
      have rh := fun W => run_head (P := Tryd.prog) 32 5 Tryd.underlying32 u8_size (some a) (m + 1) c m (by omega) W
      have hz := u8_zero (b := l[m])
      generalize l[m] = y at *
      by_cases h0 : y = 0
      · have hd : decide (y = 0) = true := by simpa using h0
        rw [hd] at hz
        have H0 := Lib.hid h0
        clear h0 hd
        go_wp2_with fail
        go_round
        case rel => exact ⟨m, by omega, rfl, Lib.hid (by rw [← hs.out, sN, if_pos (by rw [hD.out]; exact H0.out)])⟩
        case measure => simp only [lenOf]; omega
      · have hd : decide (y = 0) = false := by simpa using h0
        rw [hd] at hz
        have H0 := Lib.hid h0
        clear h0 hd
        go_wp2_with fail
        go_ret
        refine ⟨?_, rfl⟩
        rw [← hs.out, sN, if_neg (by rw [hD.out]; exact H0.out)]
        rfl

set_option maxHeartbeats 400000 in
theorem trimRight_any (B n c : Nat) (A : Option Addr) (l : List UInt8) (w : World) (h : Lies w B 1 A n (BC l)) (h0 : 0 < n) (hn : n ≤ 1000) (hc : n ≤ c) :
    Calls Tryd.prog 43 #[.slice A n c, .string ⟨#[0]⟩] w fun e w' => e = .returned (.slice A (sN l n) c) ∧ w = w' := by
  have TB := Lib.hid (trimByte_any B n c A l w h hn hc)
  clear h
  have hne : ((n : Int) == 0) = false := by rw [beq_eq_false_iff_ne]; omega
  go_enter Tryd.func43, Tryd.ntmps43
  go_wp2_with (go_at_call 52; refine TB.out.mono ?_; rintro e w' ⟨rfl, rfl⟩)
  go_ret
  exact ⟨rfl, rfl⟩

set_option maxHeartbeats 800000 in
theorem putPage_any (base n c : Nat) (A : Option Addr) (l : List UInt8) (im : Im) (w : World) (ho : w.ownsRow base 5 1 (.slice A n c) n (BC l)) (hbase : base ≤ w.heap.size) (hn : n ≤ 10000) (h0 : 0 ≤ im.page) (h1 : im.page ≤ 255) :
    Calls Tryd.prog 22 #[.slice A n c, .agg (imA im)] w (RetO w base (l ++ pageL im)) := by
  obtain ⟨i0, hi0, hz0, hz1, hz2⟩ := info_parts u8_info
  have AT := Lib.hid (At.new w 51 (imA im))
  have OW := Lib.hid (ho.alloc (.cells (imA im) 51))
  have hst := stN_le im.p
  have hwp : IntKind.u8.wrap im.page = im.page := by rw [IntKind.wrap_u8]; omega
  have LI0 : Hid (Lies (w.alloc (.cells (imA im) 51)) (w.heap.size + 1) 1 (some ⟨w.heap.size, 1, none⟩) 224 (BC im.p.toList)) := by
    refine ⟨by rw [BC_length, Vector.length_toList], fun _ => ⟨_, rfl, Nat.lt_succ_self _, fun j u hu => ?_⟩⟩
    rw [Addr.add_mid, AT.out.cell, imA, List.getElem?_toArray, Nat.add_comm, imL, List.getElem?_cons_succ]
    exact hu
  have TR := Lib.hid (trimRight_any _ 224 224 _ _ _ LI0.out (by omega) (by omega) (by omega))
  have hsn : sN im.p.toList 224 = stN im.p := rfl
  rw [hsn] at TR
  clear hsn
  have hws : IntKind.u8.wrap (stN im.p : Int) = (stN im.p : Int) := by rw [IntKind.wrap_u8]; omega
  have HLT := Lib.hid (show ∀ k, (Value.slice A n c).ownBlock = some k → k < w.heap.size from fun k hk => (ho.lt k hk).2)
  have hl : l.length = n := by have := ho.1; rw [BC_length] at this; omega
  have HL := Lib.hid hl
  clear hl ho
  have LST : Hid (Lies (w.alloc (.cells (imA im) 51)) (w.heap.size + 1) 1 (some ⟨w.heap.size, 1, none⟩) (stN im.p) (BC (stored im.p))) := by
    have := LI0.out.head (k := stN im.p) hst
    rw [BC_take] at this
    exact this
  clear LI0
  have hbb : BC [UInt8.ofNat im.page.toNat, UInt8.ofNat (stN im.p)] = [.int .u8 im.page, .int .u8 (stN im.p : Int)] := by
    simp only [BC, List.map_cons, List.map_nil, toNat_ofNat (show im.page.toNat < 256 by omega), toNat_ofNat (show stN im.p < 256 by omega)]
    rw [show ((im.page.toNat : Nat) : Int) = im.page by omega]
  have HBB := Lib.hid hbb
  clear hbb
  have B0 := Lib.hid ((Below.refl base w).alloc hbase (.cells (imA im) 51))
  have cp : (w.alloc (.cells (imA im) 51)).cell? ⟨w.heap.size, 0, none⟩ = some (.int .i64 im.page) := AT.out.cell 0
  go_enter Tryd.func22, Tryd.ntmps22
  go_wp2_with fail
  refine TR.out.mono ?_
  rintro e1 w1 ⟨rfl, rfl⟩
  go_wp2_with (first
    | (at_builtin; refine wpList_app _ rfl (.tmp 9) (.tmp 16) _ rfl base 5 i0 _ 1 1 Tryd.underlying32 hi0 hz0 hz1 hz2 rfl (by omega) _ _ _ rfl (OW.out.alloc _) _ _ _ _ [.int .u8 im.page, .int .u8 (stN im.p : Int)] rfl (lies_k _ [.int .u8 im.page, .int .u8 (stN im.p : Int)] _ 2 _ rfl (by simp)) (by intro u hu; simp at hu; rcases hu with rfl | rfl <;> rfl) (by simp only [maxLen]; omega) (by omega) (by simp; omega) ?_
       intro v2 w2 ho2 hg2
       have O2 := Lib.hid ho2
       have L2 := Lib.hid (((LST.out.alloc (by simp) (.cells #[.int .u8 im.page, .int .u8 (stN im.p : Int)] 5)).grown (v := .slice A n c) hg2 (by intro _ k a hk ha; injection ha with ha; subst ha; have := HLT.out k hk; simp; omega)))
       have B2 := Lib.hid (below_own (B0.out.alloc (by simp; omega) _) (OW.out.alloc _) hg2 (Nat.le_refl _) (by simp; omega))
       have s2 := hg2.size
       clear ho2 hg2)
    | (at_builtin; refine wpList_app _ rfl (.tmp 18) (.tmp 19) _ rfl base 5 i0 _ 1 1 Tryd.underlying32 hi0 hz0 hz1 hz2 rfl (by omega) _ _ _ rfl O2.out _ _ _ _ _ rfl L2.out (BC_one _) (by simp only [maxLen]; omega) (by omega) (by simp at s2; omega) ?_
       intro v3 w3 ho3 hg3))
  go_ret
  refine RetO.mk (own_len ho3 ?_) (below_own B2.out O2.out hg3 (Nat.le_refl _) (by simp at s2; omega))
  rw [← HBB.out]
  simp [pageL, BC_append]
  rfl
end Go.Proofs.YtihlmjknhgnjpaaDoor
