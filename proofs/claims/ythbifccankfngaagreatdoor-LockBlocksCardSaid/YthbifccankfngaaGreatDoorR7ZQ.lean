/-
  The reference's Things.
  Conditions: at most 1000 claims of each kind.
-/
import Derived.Test.YthbifccankfngaaGreatDoorR6ZQ
namespace Go.Proofs.YthbifccankfngaaGreatDoor
open Go.RowKit Go.Shelf
attribute [local go_sem] Oper.semAt_some
set_option maxRecDepth 20000

theorem Lz.lies {X : Nat → Prop} {w : World} {size n : Nat} {A : Option Addr} {xs : List Value} (h : Lz X w size A n xs) : Lies w w.heap.size size A n xs := ⟨h.len, fun hn => by
  obtain ⟨b, o, h1, _, h3, h4⟩ := h.spot hn
  exact ⟨_, h1, h3, fun j u hu => by rw [add_plain]; exact h4 j u hu⟩⟩
theorem putF_len (r : Rs) : ∀ (d : Bool) (l : List Rs), (putF r d l).length ≤ l.length + 1
  | true, l => by rw [putF_true]; omega
  | false, [] => by simp [putF]
  | false, x :: l => by
    rw [putF]
    split
    · rw [putF_true]; simp
    · have := putF_len r (false || x == r) l
      simp only [List.length_cons]
      omega
theorem fold_len : ∀ (l : List Cl) (o : List Rs), (l.foldl (fun o c => putR o c.1) o).length ≤ o.length + l.length
  | [], o => by simp
  | c :: l, o => by
    have h1 := fold_len l (putR o c.1)
    have h2 : (putR o c.1).length ≤ o.length + 1 := putF_len c.1 false o
    simp only [List.foldl_cons, List.length_cons]
    omega
def thF (l : List Cl) : List Rs := l.foldl (fun o c => putR o c.1) []
def ThL (w : World) (l : List Cl) (n : Nat) (v i : Value) (z : World) : Prop :=
  ∃ (k : Nat) (F : List Rs) (A : Option Addr) (c : Nat), k ≤ n ∧ v = .slice A F.length c ∧ i = .int .i64 (k : Int) ∧ Hid (F = thF (l.take k)) ∧ Hid (BuT w F (.slice A F.length c) z)
set_option maxHeartbeats 6400000 in
theorem rThings_any (A1 A2 : Option Addr) (n1 c1 n2 c2 : Nat) (u : TR) (w : World) (h1 : Lz (fun _ => False) w 4 A1 n1 (rcL u.held)) (h2 : Lz (fun _ => False) w 4 A2 n2 (rcL u.queue)) (hn1 : n1 ≤ 1000) (hn2 : n2 ≤ 1000) :
    Calls Tryz.prog 28 #[.agg (rtA A1 A2 n1 c1 n2 c2)] w (PuR w (thingsR u)) := by
  have hl1 := h1.rclen
  have hl2 := h2.rclen
  obtain ⟨b1, hb1⟩ : ∃ b1, w.heap.size = b1 := ⟨_, rfl⟩
  have HB := Lib.hid (show Below w.heap.size w (w.alloc (.cells (rtA A1 A2 n1 c1 n2 c2) 28)) from (Below.refl _ w).alloc (Nat.le_refl _) _)
  have AB := Lib.hid (At.new w 28 (rtA A1 A2 n1 c1 n2 c2))
  rw [hb1] at AB
  have H1 := Lib.hid (h1.below HB.out)
  have H2 := Lib.hid (h2.below HB.out)
  clear h1 h2
  go_enter Tryz.func28, Tryz.ntmps28
  go_upto_region 1 with fail
  generalize w.alloc (.cells (rtA A1 A2 n1 c1 n2 c2) 28) = z0 at HB AB H1 H2 ⊢
  clear hb1
  have p0 : z0.cell? ⟨b1, 0, none⟩ = some (.slice A1 n1 c1) := AB.out.cell 0
  have L1 := Lib.hid H1.out.lies
  have O0 := Lib.hid (World.ownsRow_nil z0 z0.heap.size 72 4)
  obtain ⟨i0, hi0, hz0, hz1, hz2⟩ := rc_info
  go_upto_region 4 with (at_builtin; refine wpList_app _ rfl (.tmp 6) (.tmp 8) 26 rfl z0.heap.size 72 i0 zcC 4 32 Tryz.underlying26 hi0 hz0 hz1 hz2 rfl (by omega) (.slice none 0 0) 0 [] rfl O0.out _ A1 n1 c1 (rcL u.held) rfl L1.out (rc_one1 _) (by simp only [maxLen]; omega) (by omega) (Nat.le_refl _) ?_; intro v4 w4 ho4 hg4)
  rw [Nat.zero_add, List.nil_append] at ho4
  obtain ⟨A4, c4, rfl, _⟩ := own_slice ho4
  have hb4 := below_own (Below.refl z0.heap.size z0) O0.out hg4 (Nat.le_refl _) (Nat.le_refl _)
  have HB4 := Lib.hid hb4
  have O4 := Lib.hid ho4
  have AB4 := AB.out.under hb4 AB.out.lt
  have p1 : w4.cell? ⟨b1, 1, none⟩ = some (.slice A2 n2 c2) := AB4.cell 1
  have L2 := Lib.hid (H2.out.below hb4).lies
  have hs4 : z0.heap.size ≤ w4.heap.size := hb4.size
  have HS4 := Lib.hid hs4
  clear ho4 hg4 hb4 AB4 p0 hs4
  go_upto_region 5 with (at_builtin; refine wpList_app _ rfl (.tmp 10) (.tmp 12) 26 rfl z0.heap.size 72 i0 zcC 4 32 Tryz.underlying26 hi0 hz0 hz1 hz2 rfl (by omega) (.slice A4 n1 c4) n1 (rcL u.held) rfl O4.out _ A2 n2 c2 (rcL u.queue) rfl L2.out (rc_one1 _) (by simp only [maxLen]; omega) (by omega) HS4.out ?_; intro v5 w5 ho5 hg5)
  rw [← rcL_append] at ho5
  obtain ⟨A5, c5, rfl, _⟩ := own_slice ho5
  have HB5 := Lib.hid (below_own HB4.out O4.out hg5 (Nat.le_refl _) HS4.out)
  obtain ⟨l, hl⟩ : ∃ l, u.held ++ u.queue = l := ⟨_, rfl⟩
  obtain ⟨n, hn⟩ : ∃ n, n1 + n2 = n := ⟨_, rfl⟩
  have hlen : l.length = n := by rw [← hl, List.length_append]; omega
  rw [hl, hn] at ho5
  rw [hn]
  have HLL := Lib.hid (show thingsR u = thF l by rw [← hl]; rfl)
  have HL := Lib.hid (Lz.of_own ho5 (fun _ h => h.elim) : Lz (fun _ => False) w5 4 A5 n (rcL l))
  have hn2k : n ≤ 2000 := by omega
  have ST : Hid (BuT w5 [] (.slice none 0 0) w5) := ⟨Below.refl _ w5, World.ownsRow_nil _ _ 33 2⟩
  clear ho5 hg5 HB4 O4 L2 HS4 p1 hl hn
  go_wp2_with fail
  go_loopw [3, 5] (fun v i wr => ThL w5 l n v i wr) (fun _ i _ => n - (intOf i).toNat)
  case atStart => exact ⟨0, [], none, 0, Nat.zero_le _, rfl, rfl, Lib.hid rfl, ST⟩
  case round =>
    obtain ⟨k, F, AF, cF, hk, rfl, rfl, HF, HS⟩ := hrel
    have hFn : F.length ≤ n := by
      have := fold_len (l.take k) []
      rw [HF.out]
      show (thF (l.take k)).length ≤ n
      unfold thF
      rw [List.length_take] at this
      simp only [List.length_nil] at this
      omega
    by_cases hlt : k < n
    · obtain ⟨b, o, hl, rfl, hb, hr⟩ := HL.out.rc hlt
      obtain ⟨x, hx⟩ : ∃ x, l[k] = x := ⟨_, rfl⟩
      have HTK := Lib.hid (show l.take (k + 1) = l.take k ++ [x] by rw [List.take_add_one, List.getElem?_eq_getElem hl, hx]; rfl)
      rw [hx] at hr
      have R0 : Hid (wr.rangeAt b (o + k * 4) (encR x.1)) := fun j v hv => (HS.out.below.cell (p := ⟨b, o + k * 4 + j, none⟩) hb).trans (hr j v (by
        match j, hv with
        | 0, hv => exact hv
        | 1, hv => exact hv))
      have LF := Lib.hid (Lz.of_own HS.out.own (fun _ h => h.elim) : Lz (fun _ => False) wr 2 AF F.length (rsL F))
      have HPUT := Lib.hid (rPut_any AF F.length cF F x.1 wr LF.out (by omega))
      obtain ⟨nF, hnF⟩ : ∃ nF, F.length = nF := ⟨_, rfl⟩
      rw [hnF] at HPUT ⊢
      clear hr hx hnF
      go_wp2_with (first
        | refine wpList_load_in 33 25 (.tmp 24) rfl rfl rfl b (o + k * 4) rfl (encR x.1) 2 strR rfl R0.out ?_
        | (refine HPUT.out.mono ?_; rintro e y ⟨A6, c6, rfl, ho6, hb6⟩; have O6 := Lib.hid ho6; have B6 := Lib.hid hb6; clear ho6 hb6))
      refine ⟨⟨k + 1, putR F x.1, A6, c6, by omega, rfl, by go_num, Lib.hid ?_, ⟨HS.out.below.trans (B6.out.mono HS.out.below.size), own_base O6.out HS.out.below.size⟩⟩, by simp [intOf]; omega⟩
      show putR F x.1 = thF _
      rw [HTK.out]
      unfold thF
      rw [List.foldl_append, HF.out]
      rfl
    · obtain rfl : k = n := by omega
      obtain ⟨nF, hnF⟩ : ∃ nF, F.length = nF := ⟨_, rfl⟩
      have HNF := Lib.hid hnF
      rw [hnF]
      clear hnF
      have hT : l.take k = l := by rw [← hlen, List.take_length]
      have HE : Hid (thingsR u = F) := by show _ = _; rw [HLL.out, HF.out, hT]
      clear hT
      go_wp2_with fail
      go_ret
      refine PuR.from HB.out (PuR.from HB5.out ⟨AF, cF, ?_, ?_, HS.out.below⟩)
      · rw [HE.out, HNF.out]
        rfl
      · rw [HE.out]
        exact HS.out.own
end Go.Proofs.YthbifccankfngaaGreatDoor
