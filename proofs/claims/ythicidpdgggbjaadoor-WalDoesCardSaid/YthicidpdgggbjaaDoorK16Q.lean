/-
  The reference: which entries are whole.
  Conditions: lists of at most 1000 entries; 400 sectors told of.
-/
import Derived.Test.YthicidpdgggbjaaDoorK15Q
namespace Go.Proofs.YthicidpdgggbjaaDoor
open Go.RowKit
set_option maxRecDepth 8000

/-- Which sectors last. -/
def kfW (dn : Nat) (keep : List Bool) (k : Nat) : Bool := decide (k < dn) || keep.getD (k - dn) false
theorem kfW_lo {dn k : Nat} (keep : List Bool) (h : k < dn) : kfW dn keep k = true := by simp [kfW, h]
theorem kfW_in {dn k : Nat} {keep : List Bool} (h : dn ≤ k) (j : Nat) (hj : j = k - dn) (hl : j < keep.length) : kfW dn keep k = keep[j] := by
  subst hj
  simp [kfW, Nat.not_lt.2 h, List.getD_eq_getElem?_getD, List.getElem?_eq_getElem hl]
theorem kfW_out {dn k : Nat} {keep : List Bool} (h : dn ≤ k) (hl : keep.length ≤ k - dn) : kfW dn keep k = false := by
  simp [kfW, Nat.not_lt.2 h, List.getD_eq_getElem?_getD, List.getElem?_eq_none hl]

/-- What Whole has so far. -/
structure WhS (w : World) (size n : Nat) (A : Option Addr) (c us dn : Nat) (rs : List Er) (m : Nat) (v : Value) (z : World) : Prop where
  box : At z w.heap.size 34 #[.int .i64 (size : Int), .slice A n c, .int .i64 (us : Int), .int .i64 (dn : Int)]
  own : z.ownsRow w.heap.size 42 13 v m (flatE (rs.take m))
  low : Below w.heap.size w z
section
variable {w z z' : World} {size n c us dn m : Nat} {A : Option Addr} {rs : List Er} {v v' : Value}
theorem WhS.call (h : WhS w size n A c us dn rs m v z) (hb : Below z.heap.size z z') : WhS w size n A c us dn rs m v z' :=
  ⟨h.box.under hb h.box.lt, own_under h.own hb (Nat.le_refl _), h.low.trans (hb.mono h.low.size)⟩
theorem WhS.push (h : WhS w size n A c us dn rs m v z) (hm : m < rs.length) (ho : z'.ownsRow w.heap.size 42 13 v' (m + 1) (flatE (rs.take m) ++ erL rs[m])) (hg : z.grownBy z' v.ownBlock) : WhS w size n A c us dn rs (m + 1) v' z' :=
  ⟨h.box.grown hg (own_ne h.own h.box (by decide)), by rw [List.take_succ_eq_append_getElem hm, flatE_append, flatE_single]; exact ho, h.low.grown hg h.low.size fun g hg => (own_cells h.own hg).1⟩
theorem WhS.cells (h : WhS w size n A c us dn rs m v z) : z.cell? ⟨w.heap.size, 0, none⟩ = some (.int .i64 (size : Int)) ∧ z.cell? ⟨w.heap.size, 1, none⟩ = some (.slice A n c) ∧ z.cell? ⟨w.heap.size, 2, none⟩ = some (.int .i64 (us : Int)) ∧ z.cell? ⟨w.heap.size, 3, none⟩ = some (.int .i64 (dn : Int)) :=
  ⟨h.box.cell 0, h.box.cell 1, h.box.cell 2, h.box.cell 3⟩
end
/-- What Whole returns. -/
def WholeR (w : World) (rs : List Er) (kept : Nat → Bool) (e : Ending) (w' : World) : Prop :=
  ∃ (m p : Nat) (v : Value), IsWhole (rs.map (·.e)) kept m ∧ p = pos ((rs.map (·.e)).take m) ∧ e = .returned (.tuple #[v, .int .i64 (p : Int)]) ∧ w'.ownsRow w.heap.size 42 13 v m (flatE (rs.take m)) ∧ Below w.heap.size w w'
structure WhP (rs : List Er) (kept : Nat → Bool) (m p : Nat) : Prop where
  pe : p = pos ((rs.map (·.e)).take m)
  all : ∀ k, k < p → kept k = true
def WhR (w : World) (size n : Nat) (A : Option Addr) (c us dn : Nat) (rs : List Er) (keep : List Bool) (o a i : Value) (z : World) : Prop :=
  ∃ (m p : Nat) (Ao : Option Addr) (co : Nat), m ≤ n ∧ p ≤ 112 * m ∧ o = .slice Ao m co ∧ a = .int .i64 (p : Int) ∧ i = .int .i64 (m : Int) ∧ Hid (WhP rs (kfW dn keep) m p) ∧ Hid (WhS w size n A c us dn rs m (.slice Ao m co) z)
def WhI (dn : Nat) (keep : List Bool) (p pe : Nat) (z1 : World) (kv : Value) (z : World) : Prop :=
  z = z1 ∧ ∃ k : Nat, p ≤ k ∧ k ≤ pe ∧ kv = .int .i64 (k : Int) ∧ Hid (∀ i, i < k → kfW dn keep i = true)

set_option maxRecDepth 100000 in
set_option maxHeartbeats 3200000 in
theorem whole_any (X Y : Nat → Prop) (A K : Option Addr) (n c kn kc size us dn : Nat) (rs : List Er) (keep : List Bool) (w : World) (h : LEz X w A n rs) (hk : Lz Y w 1 K kn (BL keep)) (hn : n ≤ 1000) (hkn : kn ≤ 1000) (hdn : dn ≤ 100000) (hg : ∀ r ∈ rs, Gd r.e) :
    Calls Tryd.prog 14 #[.agg #[.int .i64 (size : Int), .slice A n c, .int .i64 (us : Int), .int .i64 (dn : Int)], .slice K kn kc] w (WholeR w rs (kfW dn keep)) := by
  have hl := h.len
  have kl : keep.length = kn := by have := hk.len; rw [BL_length] at this; omega
  obtain ⟨i1, hi1, hy0, hy1, hy2⟩ := info_parts ent_info
  have HH := Lib.hid h
  have HK := Lib.hid hk
  have HL := Lib.hid hl
  have KL := Lib.hid kl
  have HG := Lib.hid hg
  have H0 := Lib.hid (WhS.mk (size := size) (n := n) (A := A) (c := c) (us := us) (dn := dn) (rs := rs) (m := 0) (v := .slice none 0 0) (At.new w 34 #[.int .i64 (size : Int), .slice A n c, .int .i64 (us : Int), .int .i64 (dn : Int)]) (World.ownsRow_nil _ _ _ _) ((Below.refl _ w).alloc (Nat.le_refl _) _))
  clear h hk hl kl hg
  go_enter Tryd.func14, Tryd.ntmps14
  go_wp2_with fail
  go_loopw [6, 7, 8] (fun o a i z => WhR w size n A c us dn rs keep o a i z) (fun _ _ i _ => n - (intOf i).toNat)
  case atStart => exact ⟨0, 0, none, 0, Nat.zero_le _, Nat.zero_le _, rfl, rfl, rfl, ⟨rfl, fun k hk => absurd hk (Nat.not_lt_zero _)⟩, H0⟩
  case round =>
    clear H0
    obtain ⟨m, p, Ao, co, hm0, hp0, rfl, rfl, rfl, HP, HS⟩ := hrel
    obtain ⟨c0, c1, c2, c3⟩ := HS.out.cells
    by_cases hlt : m < n
    · obtain ⟨b, o, hl, rfl, _, hbl, hR, hel⟩ := (HH.out.below HS.out.low).at hlt
      have E1 := Lib.hid hel
      have R1 := Lib.hid hR
      have G1 := Lib.hid (HG.out _ (List.getElem_mem hl))
      obtain ⟨r, hr⟩ : ∃ r, rs[m] = r := ⟨_, rfl⟩
      rw [hr] at R1 E1 G1
      have HRM := Lib.hid hr
      have HML := Lib.hid hl
      obtain ⟨wd, hwd⟩ : ∃ wd, wd = wid r.e := ⟨_, rfl⟩
      have hw1 : wd ≤ 112 := by rw [hwd]; exact (wid_ok G1.out).2
      have HW := Lib.hid hwd
      obtain ⟨pe, hpe⟩ : ∃ pe, pe = p + wd := ⟨_, rfl⟩
      have e1 : (p : Int) + (wd : Int) = (pe : Int) := by omega
      have hpe2 : pe ≤ 112000 := by omega
      have HPE := Lib.hid hpe
      have hpp : p ≤ pe := by omega
      clear hR hel hr hwd hpe
      go_wp2_with (first
        | refine wpList_load_er 22 (.tmp 21) rfl rfl rfl b (o + m * 13) rfl r R1.out ?_
        | (go_at_call 38; refine (width_any _ r _ E1.out G1.out).mono ?_; rintro e z1 ⟨rfl, hb1⟩; rw [← HW.out]; have HS1 := Lib.hid (HS.out.call hb1); have R2 := Lib.hid (pl_rangeAt_block R1.out (hb1.block b hbl)); clear hb1))
      go_loopw [10] (fun kv z => WhI dn keep p pe z1 kv z) (fun kv _ => pe - (intOf kv).toNat)
      case atStart => exact ⟨rfl, p, Nat.le_refl _, hpp, rfl, HP.out.all⟩
      case round =>
        obtain ⟨hz, k, hpk, hkp, rfl, HA⟩ := hrel
        subst hz
        clear c0 c1 c2 c3
        obtain ⟨c0, c1, c2, c3⟩ := HS1.out.cells
        by_cases hk1 : k < pe
        · have hwh : kfW dn keep k = false → IsWhole (rs.map (·.e)) (kfW dn keep) m := fun hf => isWhole_of (j := k - p) (by rw [List.length_map, HL.out]; exact hm0) (by rw [← HP.out.pe, show p + (k - p) = k by omega]; exact HA.out)
            (fun h => by
              rw [← HP.out.pe, show p + (k - p) = k by omega]
              refine ⟨?_, hf⟩
              rw [List.getElem_map, HRM.out, ← HW.out]
              have := HPE.out
              omega)
          have hnx : kfW dn keep k = true → Hid (∀ i, i < k + 1 → kfW dn keep i = true) := fun ht i hi => by
            by_cases e : i = k
            · rw [e]; exact ht
            · exact HA.out i (by omega)
          by_cases hd1 : k < dn
          · have g0 : decide ((dn : Int) ≤ (k : Int)) = false := decide_eq_false (by omega)
            have HN := hnx (kfW_lo keep hd1)
            clear hnx hwh
            go_wp2_with fail
            exact ⟨⟨rfl, k + 1, by omega, hk1, by go_num, HN⟩, by simp [intOf]; omega⟩
          · have g0 : decide ((dn : Int) ≤ (k : Int)) = true := decide_eq_true (by omega)
            obtain ⟨j, hj⟩ : ∃ j, j = k - dn := ⟨_, rfl⟩
            have e2 : (k : Int) - (dn : Int) = (j : Int) := by omega
            by_cases hjk : j < kn
            · have g1 : decide ((kn : Int) ≤ (j : Int)) = false := decide_eq_false (by omega)
              obtain ⟨kb, ko, u, rfl, _, _, hu, hcell⟩ := (HK.out.below HS1.out.low).get hjk
              rw [BL_get keep j (by rw [KL.out]; exact hjk)] at hu
              injection hu with hu
              subst hu
              have hkf := kfW_in (Nat.le_of_not_lt hd1) j hj (by rw [KL.out]; exact hjk)
              cases hkj : keep[j]'(by rw [KL.out]; exact hjk) with
              | true =>
                rw [hkj] at hkf hcell
                have HN := hnx hkf
                clear hnx hwh hkf hkj hj
                go_wp2_with fail
                exact ⟨⟨rfl, k + 1, by omega, hk1, by go_num, HN⟩, by simp [intOf]; omega⟩
              | false =>
                rw [hkj] at hkf hcell
                have HWH := Lib.hid (hwh hkf)
                clear hnx hwh hkf hkj hj
                go_wp2_with fail
                go_ret2
                exact ⟨m, p, _, HWH.out, HP.out.pe, rfl, HS1.out.own, HS1.out.low⟩
            · have g1 : decide ((kn : Int) ≤ (j : Int)) = true := decide_eq_true (by omega)
              have HWH := Lib.hid (hwh (kfW_out (Nat.le_of_not_lt hd1) (by rw [KL.out, ← hj]; exact Nat.le_of_not_lt hjk)))
              clear hnx hwh hj
              go_wp2_with fail
              go_ret2
              exact ⟨m, p, _, HWH.out, HP.out.pe, rfl, HS1.out.own, HS1.out.low⟩
        · obtain rfl : k = pe := by omega
          have HWP := Lib.hid (WhP.mk (rs := rs) (kept := kfW dn keep) (m := m + 1) (p := k) (by
            rw [HPE.out, pos_take_succ (by rw [List.length_map]; exact HML.out), List.getElem_map, HRM.out, ← HW.out, ← HP.out.pe]) HA.out)
          have HS2 := Lib.hid (HS1.out.call ((Below.refl _ _).alloc (Nat.le_refl _) (.cells (erA r) 42)))
          go_wp2_with (first
            | refine wpList_load_er 62 (.tmp 61) rfl rfl rfl b (o + m * 13) rfl r R2.out ?_
            | refine wpList_lit1 rfl (.tmp 62) 32 42 13 _ (erA r) rfl rfl Tryd.underlying32 ent_info2 (by omega) (by omega) rfl ?_
            | (at_builtin; refine wpList_app2 _ rfl (.tmp 57) (.tmp 63) _ rfl w.heap.size 42 i1 _ 13 136 Tryd.underlying32 hi1 hy0 hy1 hy2 rfl (by omega) _ _ _ rfl HS2.out.own _ _ 1 _ _ rfl (lies_newC _ (erL r) 42 13 rfl) (erL_one _) (by omega) (by simp only [maxLen]; omega) (by omega) HS2.out.low.size ?_
               intro v6 z6 ho6 hg6 _
               have HS6 := Lib.hid (HS2.out.push HML.out (by rw [HRM.out]; exact ho6) hg6)
               clear hg6 ho6))
          obtain ⟨A6, c6, h6, _⟩ := own_slice HS6.out.own
          subst h6
          exact ⟨⟨m + 1, k, A6, c6, by omega, by have := HPE.out; omega, rfl, by go_num, by go_num, HWP, HS6⟩, by simp [intOf]; omega⟩
    · obtain rfl : m = n := by omega
      go_wp2_with fail
      go_ret2
      exact ⟨m, p, _, ⟨by rw [List.length_map, HL.out]; exact Nat.le_refl _, by rw [← HP.out.pe]; exact HP.out.all, fun h => by rw [List.length_map, HL.out] at h; omega⟩, HP.out.pe, rfl, HS.out.own, HS.out.low⟩
end Go.Proofs.YthicidpdgggbjaaDoor
