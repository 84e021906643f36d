/-
  The document's Add and Drop.
  Conditions: at most 90000 points and pages.
-/
import Derived.Test.YtgjkbnplpioloaaB3
import Derived.Test.YtgjkbnplpioloaaLit
namespace Go.Proofs.Ytgjkbnplpioloaa
open Go.RowKit
attribute [local go_sem] Oper.semAt_some
set_option maxRecDepth 20000

theorem Lz.lies {X : Nat → Prop} {w : World} {size n : Nat} {A : Option Addr} {xs : List Value} (h : Lz X w size A n xs) : Lies w w.heap.size size A n xs := ⟨h.len, fun hn => by
  obtain ⟨b, o, h1, _, h3, h4⟩ := h.spot hn
  exact ⟨⟨b, o, none⟩, h1, h3, fun j u hu => by rw [add_plain]; exact h4 j u hu⟩⟩
theorem idxP_cases (p : Rc → Bool) (l : List Rc) : idxP p l = -1 ∨ ∃ j, j < l.length ∧ idxP p l = (j : Int) := by
  unfold idxP
  cases h : l.findIdx? p with
  | none => exact .inl rfl
  | some k =>
    obtain ⟨hk, _⟩ := List.findIdx?_eq_some_iff_getElem.1 h
    exact .inr ⟨k, hk, rfl⟩
theorem idxE_cases (r : Rc) (l : List Rc) : idxE r l = -1 ∨ ∃ j, j < l.length ∧ idxE r l = (j : Int) := idxP_cases (fun x => sameR x r) l
/-- Points with one more, and the code. -/
def addR (pn : Nat) (l : List Rc) (r : Rc) : List Rc × Int :=
  if 8 * pn ≤ l.length then (l, 6) else if 0 ≤ idxE r l then (l, 8) else (l ++ [r], 0)
/-- Records and a code come back, readable. -/
def RetRA (w : World) (l : List Rc) (x : Value) (e : Ending) (z : World) : Prop := ∃ A c, e = .returned (.tuple #[.slice A l.length c, x]) ∧ Lz NoX z 4 A l.length (rcsL l) ∧ l.length ≤ c ∧ Below w.heap.size w z
theorem RetRA.mk {w z : World} {l : List Rc} {x : Value} {A : Option Addr} {n c : Nat} (h : Lz NoX w 4 A n (rcsL l)) (hb : Below w.heap.size w z) (hc : n ≤ c) : RetRA w l x (.returned (.tuple #[.slice A n c, x])) z := by
  have := h.rclen
  subst this
  exact ⟨A, c, rfl, h.below hb, hc, hb⟩
theorem RetRA.own {w z : World} {l : List Rc} {x v : Value} {B n : Nat} (h : z.ownsRow B 50 4 v n (rcsL l)) (hb : Below w.heap.size w z) : RetRA w l x (.returned (.tuple #[v, x])) z := by
  obtain ⟨A, c, rfl, hc, _⟩ := pl_own_slice h
  have h2 : Lz NoX z 4 A n (rcsL l) := Lz.of_own h (fun _ h => h.elim)
  have := h2.rclen
  subst this
  exact ⟨A, c, rfl, h2, hc, hb⟩
theorem rc_zero : (Try.prog.info? 50).map (fun i => (i.zero, i.size)) = some (some (.agg (rcA zrc)), 4) := by kernel_rfl
theorem new_own {w w1 w2 w3 : World} {l : List Rc} {r : Rc} {v v' : Value} {n : Nat} (hb : Below w.heap.size w w1) (h1 : w1.ownsRow w.heap.size 50 4 v n (rcsL l)) (h2 : Below w1.heap.size w1 w2) (h3 : w3.ownsRow w.heap.size 50 4 v' (n + 1) (rcsL l ++ rcL r)) (hg : w2.grownBy w3 v.ownBlock) : Below w.heap.size w w3 ∧ w3.ownsRow w.heap.size 50 4 v' (n + 1) (rcsL (l ++ [r])) := by
  have hb2 := hb.trans (h2.mono hb.size)
  refine ⟨hb2.grown hg hb2.size fun k hk => ?_, by rw [rcsL_append, rcsL_one]; exact h3⟩
  exact (h1.lt k hk).1
theorem new_cells {w : World} (r : Rc) {j : Nat} {u : Value} (hu : (rcL r)[j]? = some u) : (w.alloc (.cells (rcA r) 50)).cell? ⟨w.heap.size, j, none⟩ = some u := by
  have := (At.new w 50 (rcA r)).cell j
  rw [this]
  simpa [rcA] using hu
set_option maxHeartbeats 3200000 in
theorem rAdd_any (A : Option Addr) (n c : Nat) (l : List Rc) (pn : Nat) (r : Rc) (w : World) (h : Lz NoX w 4 A n (rcsL l)) (hn : n ≤ 90000) (hpn : pn ≤ 90000) (hc : n ≤ c) :
    Calls Try.prog 22 #[.slice A n c, .int .i64 (pn : Int), .agg (rcA r)] w (RetRA w (addR pn l r).1 (.int .i64 (addR pn l r).2)) := by
  have HL := Lib.hid h
  have HLN := Lib.hid h.rclen
  have hw2 : wrap64 (8 * (pn : Int)) = 8 * (pn : Int) := by unfold wrap64; omega
  have hw3 : IntKind.i64.wrap (8 * (pn : Int)) = 8 * (pn : Int) := by rw [IntKind.wrap_i64]; omega
  clear h
  have HA5 : Hid (At (w.alloc (.cells (rcA r) 50)) w.heap.size 50 (rcA r)) := At.new w 50 (rcA r)
  have HB : Hid (Below w.heap.size w (w.alloc (.cells (rcA r) 50))) := (Below.refl _ w).alloc (Nat.le_refl _) _
  by_cases h1 : 8 * pn ≤ n
  · have HE : Hid (addR pn l r = (l, 6)) := by show _ = _; unfold addR; rw [if_pos (by rw [HLN.out]; exact h1)]
    go_enter Try.func22, Try.ntmps22
    go_wp2_with fail
    go_ret2
    rw [HE.out]
    exact RetRA.mk HL.out HB.out hc
  · obtain ⟨q, hq⟩ : ∃ q, idxE r l = q := ⟨_, rfl⟩
    have HQ := Lib.hid hq
    by_cases h2 : 0 ≤ q
    · have HE : Hid (addR pn l r = (l, 8)) := by show _ = _; unfold addR; rw [if_neg (by rw [HLN.out]; exact h1), if_pos (by rw [hq]; exact h2)]
      clear hq
      go_enter Try.func22, Try.ntmps22
      go_wp2_with (first
        | (refine wpList_load_at 50 16 (.tmp 5) rfl rfl rfl w.heap.size rfl (rcA r) 4 str25 rfl ?_ ?_; · exact HA5.out)
        | (go_at_call 39; refine (rFind_any A n c l r _ (HL.out.below HB.out) (by omega)).mono ?_; rintro e z ⟨rfl, hz⟩; have HZ := Lib.hid (HB.out.trans (hz.mono HB.out.size)); have HA6 := Lib.hid (HA5.out.under hz HA5.out.lt); clear hz; rw [HQ.out]))
      go_ret2
      rw [HE.out]
      exact RetRA.mk HL.out HZ.out hc
    · have HE : Hid (addR pn l r = (l ++ [r], 0)) := by show _ = _; unfold addR; rw [if_neg (by rw [HLN.out]; exact h1), if_neg (by rw [hq]; exact h2)]
      clear hq
      obtain ⟨i0, hi0, hz0, hz1, hz2⟩ := rc_info
      go_enter Try.func22, Try.ntmps22
      go_wp2_with (first
          | (refine wpList_load_at 50 16 (.tmp 5) rfl rfl rfl w.heap.size rfl (rcA r) 4 str25 rfl ?_ ?_; · exact HA5.out)
          | (go_at_call 39; refine (rFind_any A n c l r _ (HL.out.below HB.out) (by omega)).mono ?_; rintro e z ⟨rfl, hz⟩; have HZ := Lib.hid (HB.out.trans (hz.mono HB.out.size)); have HA6 := Lib.hid (HA5.out.under hz HA5.out.lt); clear hz; rw [HQ.out])
          | (refine wpList_load_at 50 24 (.tmp 5) rfl rfl rfl w.heap.size rfl (rcA r) 4 str25 rfl ?_ ?_; · exact HA7.out)
          | (refine wpList_lit1 rfl (.tmp 24) 40 50 4 (.agg (rcA zrc)) (rcA r) rfl rfl Try.underlying40 rc_zero (by decide) (by decide) rfl ?_)
          | (at_builtin; refine wpList_app _ rfl (.tmp 20) (.tmp 21) _ rfl w.heap.size 50 i0 _ 4 24 Try.underlying40 hi0 hz0 hz1 hz2 rfl (by omega) _ 0 [] rfl (World.ownsRow_nil _ _ _ _) _ A n c (rcsL l) rfl (HL.out.below HZ.out).lies (rcsL_cell l) (by simp only [maxLen]; omega) (by omega) HZ.out.size ?_; intro v1 w1 hown hg; have HO1 : Hid (w1.ownsRow w.heap.size 50 4 v1 n (rcsL l)) := (by have := hown; rw [Nat.zero_add, List.nil_append] at this; exact this); have HB1 := Lib.hid (HZ.out.grown hg HZ.out.size (fun k hk => by cases hk)); have HA7 := Lib.hid (HA6.out.grown hg (fun e => by cases e)); clear hown hg)
          | (at_builtin; refine pl_wpList_app _ rfl (.tmp 23) (.tmp 25) _ rfl w.heap.size 50 i0 _ 4 24 Try.underlying40 hi0 hz0 hz1 hz2 rfl (by omega) _ n _ rfl (own_under HO1.out ((Below.refl _ _).alloc (Nat.le_refl _) _) (Nat.le_refl _)) _ 1 1 (rcL r) rfl rfl (fun j u hu => by rw [add_plain, Nat.zero_add]; exact new_cells r hu) (by exact rcsL_one r ▸ rcsL_cell [r]) (by simp only [maxLen]; omega) (by omega) (Nat.le_trans HB1.out.size (by simp)) ?_; intro v2 w2 ho2 hg2; have HN := Lib.hid (new_own HB1.out HO1.out ((Below.refl _ _).alloc (Nat.le_refl _) _) ho2 hg2); clear ho2 hg2))
      go_ret2
      rw [HE.out]
      exact RetRA.own HN.out.2 HN.out.1
/-- Records without the one at k. -/
def dropAt (l : List Rc) (k : Nat) : List Rc := l.eraseIdx k
def dropR (l : List Rc) (r : Rc) : List Rc × Bool := if 0 ≤ idxE r l then (dropAt l (idxE r l).toNat, true) else (l, false)
theorem erase_before (l : List Rc) (q k : Nat) (hk : k < l.length) (h : k < q) : (l.take (k + 1)).eraseIdx q = l.take k ++ [l[k]] := by
  rw [List.eraseIdx_of_length_le (by simp; omega), List.take_succ_eq_append_getElem hk]
theorem erase_at (l : List Rc) (k : Nat) (hk : k < l.length) : (l.take (k + 1)).eraseIdx k = l.take k := by
  rw [List.take_succ_eq_append_getElem hk, List.eraseIdx_append_of_length_le (by simp; omega)]
  have : k - (l.take k).length = 0 := by simp; omega
  rw [this]
  simp
theorem erase_after (l : List Rc) (q k : Nat) (hk : k < l.length) (h : q < k) : (l.take (k + 1)).eraseIdx q = (l.take k).eraseIdx q ++ [l[k]] := by
  rw [List.take_succ_eq_append_getElem hk, List.eraseIdx_append_of_lt_length (by simp; omega)]
theorem erase_old (l : List Rc) (q k : Nat) (h : k ≤ q) : (l.take k).eraseIdx q = l.take k := List.eraseIdx_of_length_le (by simp; omega)
/-- What has been kept so far of the first k points, the q-th left out: new memory. -/
def KeptR (w : World) (l : List Rc) (q k : Nat) (v : Value) (wr : World) : Prop := ∃ m, m ≤ k ∧ wr.ownsRow w.heap.size 50 4 v m (rcsL ((l.take k).eraseIdx q)) ∧ Below w.heap.size w wr
set_option maxHeartbeats 3200000 in
theorem rDrop_any (A : Option Addr) (n c : Nat) (l : List Rc) (r : Rc) (w : World) (h : Lz NoX w 4 A n (rcsL l)) (hn : n ≤ 90000) (hc : n ≤ c) :
    Calls Try.prog 20 #[.slice A n c, .agg (rcA r)] w (RetRA w (dropR l r).1 (.bool (dropR l r).2)) := by
  have HL := Lib.hid h
  have HLN := Lib.hid h.rclen
  clear h
  have HA5 : Hid (At (w.alloc (.cells (rcA r) 50)) w.heap.size 50 (rcA r)) := At.new w 50 (rcA r)
  have HB : Hid (Below w.heap.size w (w.alloc (.cells (rcA r) 50))) := (Below.refl _ w).alloc (Nat.le_refl _) _
  obtain ⟨q, hq⟩ : ∃ q, idxE r l = q := ⟨_, rfl⟩
  have HQ := Lib.hid hq
  rcases idxE_cases r l with h2 | ⟨q, hql, h2⟩
  · have HE : Hid (dropR l r = (l, false)) := by show _ = _; unfold dropR; rw [h2]; rfl
    have HQ := Lib.hid h2
    clear h2 hq
    go_enter Try.func20, Try.ntmps20
    go_wp2_with (first | (refine wpList_load_at 50 10 (.tmp 3) rfl rfl rfl w.heap.size rfl (rcA r) 4 str25 rfl ?_ ?_; · exact HA5.out) | (go_at_call 39; refine (rFind_any A n c l r _ (HL.out.below HB.out) (by omega)).mono ?_; rintro e z ⟨rfl, hz⟩; have HZ := Lib.hid (HB.out.trans (hz.mono HB.out.size)); clear hz; rw [show idxE r l = _ from HQ.out]))
    go_ret2
    rw [HE.out]
    exact RetRA.mk HL.out HZ.out hc
  · have HE : Hid (dropR l r = (dropAt l q, true)) := by show _ = _; unfold dropR; rw [h2, if_pos (by omega)]; rfl
    have HQ := Lib.hid h2
    clear h2 hq
    rw [HLN.out] at hql
    obtain ⟨i0, hi0, hz0, hz1, hz2⟩ := rc_info
    go_enter Try.func20, Try.ntmps20
    go_wp2_with (first | (refine wpList_load_at 50 10 (.tmp 3) rfl rfl rfl w.heap.size rfl (rcA r) 4 str25 rfl ?_ ?_; · exact HA5.out) | (go_at_call 39; refine (rFind_any A n c l r _ (HL.out.below HB.out) (by omega)).mono ?_; rintro e z ⟨rfl, hz⟩; have HZ := Lib.hid (HB.out.trans (hz.mono HB.out.size)); clear hz; rw [show idxE r l = _ from HQ.out]))
    go_loopw [7, 8] (fun v vi wr => ∃ k : Nat, k ≤ n ∧ vi = .int .i64 (k : Int) ∧ Hid (KeptR w l q k v wr)) (fun _ i _ => n - (intOf i).toNat)
    case atStart => exact ⟨0, Nat.zero_le _, by go_num, Lib.hid ⟨0, Nat.le_refl _, World.ownsRow_nil _ _ _ _, HZ.out⟩⟩
    case round =>
      obtain ⟨k, hk, rfl, HK⟩ := hrel
      by_cases hlt : k < n
      · obtain ⟨g, o, hl, rfl, hb, hc⟩ := HL.out.rc hlt
        obtain ⟨m, hm, ho, hbw⟩ := HK.out
        obtain ⟨t, hr⟩ : ∃ t, l[k] = t := ⟨_, rfl⟩
        rw [hr] at hc
        have R1 : Hid (wr.rangeAt g (o + k * 4) (rcL t)) := pl_rangeAt_block hc (hbw.block g hb)
        have HO := Lib.hid ho
        have HBW := Lib.hid hbw
        have HR := Lib.hid hr
        clear hc hr ho hbw
        by_cases e : k = q
        · have HK2 : Hid (KeptR w l q (k + 1) u7 wr) := ⟨m, by omega, by subst e; have := HO.out; rw [erase_old l k k (Nat.le_refl _)] at this; rw [erase_at l k hl]; exact this, HBW.out⟩
          go_wp2_with fail
          go_round
          case rel => exact ⟨k + 1, by omega, by go_num, HK2⟩
          case measure => simp [intOf]; omega
        · have e' : ¬ ((k : Int) = (q : Int)) := by omega
          go_wp2_with (first
            | (refine wpList_load_rc 28 (.tmp 27) rfl rfl rfl g (o + k * 4) rfl t R1.out ?_)
            | (refine wpList_lit1 rfl (.tmp 28) 40 50 4 (.agg (rcA zrc)) (rcA t) rfl rfl Try.underlying40 rc_zero (by decide) (by decide) rfl ?_)
            | (at_builtin; refine pl_wpList_app _ rfl (.tmp 24) (.tmp 29) _ rfl w.heap.size 50 i0 _ 4 24 Try.underlying40 hi0 hz0 hz1 hz2 rfl (by omega) _ m _ rfl (own_under HO.out ((Below.refl _ _).alloc (Nat.le_refl _) _) (Nat.le_refl _)) _ 1 1 (rcL t) rfl rfl (fun j u hu => by rw [add_plain, Nat.zero_add]; exact new_cells t hu) (by exact rcsL_one t ▸ rcsL_cell [t]) (by simp only [maxLen]; omega) (by omega) (Nat.le_trans HBW.out.size (by simp)) ?_; intro v2 w2 ho2 hg2; have HN := Lib.hid (new_own HBW.out HO.out ((Below.refl _ _).alloc (Nat.le_refl _) _) ho2 hg2); clear ho2 hg2))
          go_round
          case rel => exact ⟨k + 1, by omega, by go_num, Lib.hid ⟨m + 1, by omega, by
            have := HN.out.2
            have hr := HR.out
            by_cases hkq : k < q
            · rw [erase_old l q k (Nat.le_of_lt hkq)] at this
              rw [erase_before l q k hl hkq, hr]
              exact this
            · rw [erase_after l q k hl (by omega), hr]
              exact this, HN.out.1⟩⟩
          case measure => simp [intOf]; omega
      · obtain rfl : k = n := by omega
        obtain ⟨m, hm, ho, hbw⟩ := HK.out
        have HO := Lib.hid ho
        have HBW := Lib.hid hbw
        clear ho hbw
        go_wp2_with fail
        go_ret2
        rw [HE.out]
        exact RetRA.own (by have := HO.out; rw [List.take_of_length_le (by rw [HLN.out]; omega)] at this; exact this) HBW.out
end Go.Proofs.Ytgjkbnplpioloaa
