/-
  The reference's Of, without.
  Conditions: at most 100000 claims.
-/
import Derived.Test.YthbifccankfngaaGreatDoorY3
namespace Go.Proofs.YthbifccankfngaaGreatDoor
open Go.RowKit Go.Shelf
attribute [local go_sem] Oper.semAt_some
set_option maxRecDepth 20000

def zcC : Value := .agg #[.int .i64 0, .int .u64 0, .int .u64 0, .int .i64 0]
theorem rc_info : ∃ i, Tryz.prog.info? 72 = some i ∧ i.zero = some zcC ∧ i.size = 4 ∧ i.bytes = 32 := ⟨_, rfl, rfl, rfl, rfl⟩
theorem lies_rc {w : World} {b : Nat} {c : Cl} (h : At w b 72 (rcA c)) : Lies w w.heap.size 4 (some ⟨b, 0, none⟩) 1 (rcL [c]) := ⟨rfl, fun _ => ⟨_, rfl, h.lt, fun j u hu => by
  rw [add_plain, Nat.zero_add, h.cell]
  simpa [rcA, rcL_one, rcV] using hu⟩⟩
theorem rc_one1 (l : List Cl) : ∀ u ∈ rcL l, u.oneCell' = true := fun u hu => by
  obtain ⟨c, _, hc⟩ := List.mem_flatMap.1 hu
  simp [rcV] at hc
  rcases hc with rfl | rfl | rfl | rfl <;> rfl
/-- Claims gathered: begun at w; E: what else is kept. -/
structure BuS (w : World) (E : World → Prop) (F : List Cl) (v : Value) (z : World) : Prop where
  below : Below w.heap.size w z
  own : z.ownsRow w.heap.size 72 4 v F.length (rcL F)
  keep : E z
def BuL (w : World) (E : World → Prop) (f : Nat → List Cl) (n : Nat) (v i : Value) (z : World) : Prop :=
  ∃ (k : Nat) (F : List Cl) (A : Option Addr) (c : Nat), k ≤ n ∧ v = .slice A F.length c ∧ i = .int .i64 (k : Int) ∧ Hid (F = f k) ∧ Hid (BuS w E F (.slice A F.length c) z)
/-- Claims handed back, in a row of the call's own. -/
def BuR (w : World) (L : List Cl) (e : Ending) (w' : World) : Prop := ∃ A c, e = .returned (.slice A L.length c) ∧ w'.ownsRow w.heap.size 72 4 (.slice A L.length c) L.length (rcL L) ∧ Below w.heap.size w w'
theorem BuS.app {w z w5 : World} {E : World → Prop} {F : List Cl} {v v5 : Value} {x : Cl} {N : Nat} (h : BuS w E F v z) (hE : ∀ z', z.grownBy z' v.ownBlock → E z') (ho : w5.ownsRow w.heap.size 72 4 v5 N (rcL F ++ rcL [x])) (hN : N = (F ++ [x]).length)
    (hg : (z.alloc (.cells (rcA x) 72)).grownBy w5 v.ownBlock) : BuS w E (F ++ [x]) v5 w5 := by
  subst hN
  have hg2 : z.grownBy w5 v.ownBlock := (World.grownBy_alloc z _ _).andThen hg (fun j hj => .inr hj)
  refine ⟨below_own h.below h.own hg2 (Nat.le_refl _) h.below.size, ?_, hE w5 hg2⟩
  rw [rcL_append]
  exact ho
theorem filt_take {p : Cl → Bool} {l : List Cl} {k : Nat} (hk : k < l.length) : (l.take (k + 1)).filter p = if p l[k] then (l.take k).filter p ++ [l[k]] else (l.take k).filter p := by
  rw [List.take_add_one, List.getElem?_eq_getElem hk, List.filter_append]
  by_cases h : p l[k] = true <;> simp [h]
set_option maxHeartbeats 3200000 in
theorem rWithout_any (A : Option Addr) (n c : Nat) (l : List Cl) (t : Nat) (w : World) (h : Lz (fun _ => False) w 4 A n (rcL l)) (hn : n ≤ 100000) :
    Calls Tryz.prog 56 #[.slice A n c, .int .u64 (t : Int)] w (BuR w (withoutR l t)) := by
  have HL := Lib.hid h
  have hlen := h.rclen
  have ST : Hid (BuS w (fun _ => True) [] (.slice none 0 0) w) := ⟨Below.refl _ w, World.ownsRow_nil w _ 72 4, trivial⟩
  clear h
  go_enter Tryz.func56, Tryz.ntmps56
  go_wp2_with fail
  go_loopw [5, 6] (fun v i wr => BuL w (fun _ => True) (fun k => withoutR (l.take k) t) n v i wr) (fun _ i _ => n - (intOf i).toNat)
  case atStart => exact ⟨0, [], none, 0, Nat.zero_le _, rfl, rfl, Lib.hid rfl, ST⟩
  case round =>
    obtain ⟨k, F, AF, cF, hk, rfl, rfl, HF, HS⟩ := hrel
    have hFn : F.length ≤ n := by
      rw [HF.out]
      exact Nat.le_trans (List.length_filter_le _ _) (by rw [List.length_take]; omega)
    obtain ⟨nF, hnF⟩ : ∃ nF, F.length = nF := ⟨_, rfl⟩
    have HNF := Lib.hid hnF
    rw [hnF] at hFn HS ⊢
    clear hnF
    by_cases hlt : k < n
    · obtain ⟨b, o, hl, rfl, hb, hr⟩ := HL.out.rc hlt
      have R1 : Hid (wr.rangeAt b (o + k * 4) (rcV l[k])) := fun j v hv => (HS.out.below.cell (p := ⟨b, o + k * 4 + j, none⟩) hb).trans (hr j v hv)
      obtain ⟨x, hx⟩ : ∃ x, l[k] = x := ⟨_, rfl⟩
      rw [hx] at R1
      have q2 : wr.cell? ⟨b, o + k * 4 + 2, none⟩ = some (.int .u64 (x.2.1 : Int)) := R1.out 2 _ rfl
      have HX := Lib.hid hx
      clear hr hx
      obtain ⟨bq, hbq⟩ : ∃ bq, ((x.2.1 : Int) != (t : Int)) = bq := ⟨_, rfl⟩
      have HBQ := Lib.hid (show (x.2.1 != t) = bq by rw [← hbq, nat_bne])
      cases bq
      · go_wp2_with fail
        refine ⟨⟨k + 1, F, AF, cF, by omega, by rw [HNF.out], by go_num, Lib.hid ?_, by rw [HNF.out]; exact HS⟩, by simp [intOf]; omega⟩
        show F = List.filter _ _
        rw [filt_take hl, HX.out, HBQ.out]
        exact HF.out
      · have OWN := Lib.hid (own_under HS.out.own ((Below.refl _ wr).alloc (Nat.le_refl _) (.cells (rcA x) 72)) (Nat.le_refl _))
        have LN := Lib.hid (lies_rc (At.new wr 72 (rcA x)))
        have HSZ : Hid (w.heap.size ≤ (wr.alloc (.cells (rcA x) 72)).heap.size) := by have := HS.out.below.size; show _ ≤ _; simp; omega
        rw [HNF.out] at OWN
        obtain ⟨i0, hi0, hz0, hz1, hz2⟩ := rc_info
        go_wp2_with (first
            | refine wpList_load_in 72 24 (.tmp 23) rfl rfl rfl b (o + k * 4) rfl (rcV x) 4 strrC rfl R1.out ?_
            | refine wpList_lit1r rfl 25 (.tmp 24) 26 72 4 zcC (rcA x) rfl rfl rfl Tryz.underlying26 (by kernel_rfl) (by omega) (by omega) rfl ?_
            | (at_builtin; refine wpList_app _ rfl (.tmp 20) (.tmp 25) 26 rfl w.heap.size 72 i0 zcC 4 32 Tryz.underlying26 hi0 hz0 hz1 hz2 rfl (by omega) (.slice AF nF cF) nF (rcL F) rfl OWN.out _ (some ⟨wr.heap.size, 0, none⟩) 1 1 (rcL [x]) rfl LN.out (rc_one1 [x]) (by simp only [maxLen]; omega) (by omega) HSZ.out ?_; intro v5 w5 ho5 hg5))
        obtain ⟨A5, c5, rfl, _⟩ := own_slice ho5
        have hl5 : nF + 1 = (F ++ [x]).length := by rw [List.length_append, HNF.out]; rfl
        have hB := HS.out.app (x := x) (fun _ _ => trivial) ho5 hl5 hg5
        rw [hl5] at hB ⊢
        refine ⟨⟨k + 1, F ++ [x], A5, c5, by omega, rfl, by go_num, Lib.hid ?_, hB⟩, by simp [intOf]; omega⟩
        show F ++ [x] = List.filter _ _
        rw [filt_take hl, HX.out, HBQ.out, HF.out]
        rfl
    · obtain rfl : k = n := by omega
      go_wp2_with fail
      go_ret
      have e : withoutR l t = F := by rw [HF.out, ← hlen, List.take_length]
      refine ⟨AF, cF, ?_, ?_, HS.out.below⟩
      · rw [e, HNF.out]
        rfl
      · rw [e, HNF.out]
        have := HS.out.own
        rw [HNF.out] at this
        exact this
theorem own_ne4 {w : World} {base : Nat} {e : TypeId} {size : Nat} {v : Value} {n : Nat} {xs : List Value} (h : w.ownsRow base e size v n xs) {g : Nat} {t : TypeId} {cs : Array Value} (ha : At w g t cs) (ht : t ≠ e) : some g ≠ v.ownBlock := own_ne h ha ht
theorem BuS.under {w z z' : World} {E : World → Prop} {F : List Cl} {v : Value} (h : BuS w E F v z) (hb : Below z.heap.size z z') (hE : E z') : BuS w E F v z' := ⟨h.below.trans (hb.mono h.below.size), own_under h.own hb (Nat.le_refl _), hE⟩
set_option maxHeartbeats 3200000 in
theorem rOf_any (A : Option Addr) (n c : Nat) (l : List Cl) (r : Rs) (w : World) (h : Lz (fun _ => False) w 4 A n (rcL l)) (hn : n ≤ 100000) :
    Calls Tryz.prog 30 #[.slice A n c, .agg (rsA r)] w (BuR w (ofR l r)) := by
  have hlen := h.rclen
  obtain ⟨b3, hb3⟩ : ∃ b3, w.heap.size = b3 := ⟨_, rfl⟩
  have HB := Lib.hid (show Below w.heap.size w (w.alloc (.cells (rsA r) 33)) from (Below.refl _ w).alloc (Nat.le_refl _) _)
  have A3 := At.new w 33 (rsA r)
  rw [hb3] at A3
  have HL := Lib.hid h
  have ST : Hid (BuS w (fun z => At z b3 33 (rsA r)) [] (.slice none 0 0) (w.alloc (.cells (rsA r) 33))) := ⟨HB.out, World.ownsRow_nil _ _ 72 4, A3⟩
  clear h A3
  go_enter Tryz.func30, Tryz.ntmps30
  go_upto_region 1 with fail
  generalize w.alloc (.cells (rsA r) 33) = z0 at HB ST ⊢
  clear hb3
  go_wp2_with fail
  go_loopw [5, 6] (fun v i wr => BuL w (fun z => At z b3 33 (rsA r)) (fun k => ofR (l.take k) r) n v i wr) (fun _ i _ => n - (intOf i).toNat)
  case atStart => exact ⟨0, [], none, 0, Nat.zero_le _, rfl, rfl, Lib.hid rfl, ST⟩
  case round =>
    obtain ⟨k, F, AF, cF, hk, rfl, rfl, HF, HS⟩ := hrel
    have hFn : F.length ≤ n := by
      rw [HF.out]
      exact Nat.le_trans (List.length_filter_le _ _) (by rw [List.length_take]; omega)
    obtain ⟨nF, hnF⟩ : ∃ nF, F.length = nF := ⟨_, rfl⟩
    have HNF := Lib.hid hnF
    rw [hnF] at hFn HS ⊢
    clear hnF
    by_cases hlt : k < n
    · obtain ⟨b, o, hl, rfl, hb, hr⟩ := HL.out.rc hlt
      have hbw : b < wr.heap.size := Nat.lt_of_lt_of_le hb HS.out.below.size
      have R1 : Hid (wr.rangeAt b (o + k * 4) (rcV l[k])) := fun j v hv => (HS.out.below.cell (p := ⟨b, o + k * 4 + j, none⟩) hb).trans (hr j v hv)
      obtain ⟨x, hx⟩ : ∃ x, l[k] = x := ⟨_, rfl⟩
      rw [hx] at R1
      have R0 : Hid (wr.rangeAt b (o + k * 4) (encR x.1)) := fun j v hv => R1.out j v (by
        match j, hv with
        | 0, hv => exact hv
        | 1, hv => exact hv)
      have HX := Lib.hid hx
      clear hr hx
      obtain ⟨bq, hbq⟩ : ∃ bq, (x.1 == r) = bq := ⟨_, rfl⟩
      have HBQ := Lib.hid hbq
      clear hbq
      have A3R := Lib.hid HS.out.keep
      go_upto_region 5 with fail
      refine wp_region_held_drew (S := Below wr.heap.size wr) (by kernel_rfl) ((Below.refl _ wr).drew) (fun hS => ?_)
      refine tk 0 hS ?_
      refine tk 1 hS ?_
      refine tk 2 hS ?_
      refine tk 3 hS ?_
      refine tk (v := .agg (rsA x.1)) 4 hS ?_ (hy := by intro wz hz; exact exec_load_in 33 (.tmp 16) rfl b (o + k * 4) rfl (encR x.1) 2 strR rfl (fun j v hv => (hz.cell (p := ⟨b, o + k * 4 + j, none⟩) hbw).trans (R0.out j v hv)))
      refine tk (v := .agg (rsA r)) 5 hS ?_ (hy := by intro wz hz; exact exec_load_at 33 (.tmp 3) rfl b3 rfl (rsA r) 2 strR rfl (A3R.out.under hz A3R.out.lt))
      refine tk (v := .bool bq) 6 hS ?_ (hy := by intro wz hz; rw [← HBQ.out]; exact exec_eqR (.tmp 17) (.tmp 18) rfl x.1 r rfl rfl)
      refine wpAnyH_done (by kernel_rfl) ?_ _
      have HD := Lib.hid (HS.out.under hS (A3R.out.under hS A3R.out.lt))
      have R2 : Hid (wr.drew.rangeAt b (o + k * 4) (rcV x)) := fun j v hv => (hS.cell (p := ⟨b, o + k * 4 + j, none⟩) hbw).trans (R1.out j v hv)
      generalize wr.drew = wd at HD R2 ⊢
      clear hS HS R1 R0 A3R
      cases bq
      · go_wp2_with fail
        refine ⟨⟨k + 1, F, AF, cF, by omega, by rw [HNF.out], by go_num, Lib.hid ?_, by rw [HNF.out]; exact HD⟩, by simp [intOf]; omega⟩
        show F = List.filter _ _
        rw [filt_take hl, HX.out, HBQ.out]
        exact HF.out
      · have OWN := Lib.hid (own_under HD.out.own ((Below.refl _ wd).alloc (Nat.le_refl _) (.cells (rcA x) 72)) (Nat.le_refl _))
        have LN := Lib.hid (lies_rc (At.new wd 72 (rcA x)))
        have HSZ : Hid (w.heap.size ≤ (wd.alloc (.cells (rcA x) 72)).heap.size) := by have := HD.out.below.size; show _ ≤ _; simp; omega
        rw [HNF.out] at OWN
        obtain ⟨i0, hi0, hz0, hz1, hz2⟩ := rc_info
        go_wp2_with (first
            | refine wpList_load_in 72 24 (.tmp 23) rfl rfl rfl b (o + k * 4) rfl (rcV x) 4 strrC rfl R2.out ?_
            | refine wpList_lit1r rfl 25 (.tmp 24) 26 72 4 zcC (rcA x) rfl rfl rfl Tryz.underlying26 (by kernel_rfl) (by omega) (by omega) rfl ?_
            | (at_builtin; refine wpList_app _ rfl (.tmp 20) (.tmp 25) 26 rfl w.heap.size 72 i0 zcC 4 32 Tryz.underlying26 hi0 hz0 hz1 hz2 rfl (by omega) (.slice AF nF cF) nF (rcL F) rfl OWN.out _ (some ⟨wd.heap.size, 0, none⟩) 1 1 (rcL [x]) rfl LN.out (rc_one1 [x]) (by simp only [maxLen]; omega) (by omega) HSZ.out ?_; intro v5 w5 ho5 hg5))
        obtain ⟨A5, c5, rfl, _⟩ := own_slice ho5
        have hl5 : nF + 1 = (F ++ [x]).length := by rw [List.length_append, HNF.out]; rfl
        have hB := HD.out.app (x := x) (fun z' hg => HD.out.keep.grown hg (own_ne4 HD.out.own HD.out.keep (by decide))) ho5 hl5 hg5
        rw [hl5] at hB ⊢
        refine ⟨⟨k + 1, F ++ [x], A5, c5, by omega, rfl, by go_num, Lib.hid ?_, hB⟩, by simp [intOf]; omega⟩
        show F ++ [x] = List.filter _ _
        rw [filt_take hl, HX.out, HBQ.out, HF.out]
        rfl
    · obtain rfl : k = n := by omega
      go_wp2_with fail
      go_ret
      have e : ofR l r = F := by rw [HF.out, ← hlen, List.take_length]
      refine ⟨AF, cF, ?_, ?_, HS.out.below⟩
      · rw [e, HNF.out]
        rfl
      · rw [e, HNF.out]
        have := HS.out.own
        rw [HNF.out] at this
        exact this
end Go.Proofs.YthbifccankfngaaGreatDoor
