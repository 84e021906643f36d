/-
  A slice of acts in memory; the walk of the law's own light: acts that are not more than is waited for.
  Conditions: none beyond those that each theorem names.
-/
import Derived.Test.YthicidpdgggbjaaDoorK30Q
namespace Go.Proofs.YthicidpdgggbjaaDoor
open Go.RowKit
set_option maxRecDepth 20000

def flatO : List Ao → List Value
  | [] => []
  | o :: l => aoL o ++ flatO l
theorem flatO_length : ∀ l : List Ao, (flatO l).length = l.length * 16
  | [] => rfl
  | o :: l => by rw [flatO, List.length_append, aoL_length, flatO_length l, List.length_cons]; omega
theorem flatO_append : ∀ l m : List Ao, flatO (l ++ m) = flatO l ++ flatO m
  | [], _ => rfl
  | r :: l, m => by rw [List.cons_append, flatO, flatO, flatO_append l m, List.append_assoc]
theorem flatO_range {w : World} {b o : Nat} {l : List Ao} {k : Nat} (h : w.rangeAt b o (flatO l)) (hk : k < l.length) : w.rangeAt b (o + k * 16) (aoL l[k]) := fun j v hv => by
  have hj : j < 16 := by
    have := (List.getElem?_eq_some_iff.1 hv).1
    rwa [aoL_length] at this
  rw [Nat.add_assoc]
  refine h _ v ?_
  have e : l = l.take k ++ ([l[k]] ++ l.drop (k + 1)) := by simp
  have e1 : flatO [l[k]] = aoL l[k] := by simp [flatO]
  rw [e, flatO_append, flatO_append, List.getElem?_append_right (by rw [flatO_length, List.length_take]; omega), List.getElem?_append_left (by rw [flatO_length, flatO_length, List.length_take]; simp; omega), e1, flatO_length, List.length_take, Nat.min_eq_left (by omega), show k * 16 + j - k * 16 = j from by omega]
  exact hv
/-- A slice of acts: its row and the slices in it lie outside X. -/
structure AOz (X : Nat → Prop) (w : World) (A : Option Addr) (n : Nat) (l : List Ao) : Prop where
  row : Lz X w 16 A n (flatO l)
  els : ∀ o ∈ l, AoZ X w o
theorem AOz.kept {X : Nat → Prop} {w w' : World} {A : Option Addr} {n : Nat} {l : List Ao} (h : AOz X w A n l) (hm : Mod X w w') : AOz X w' A n l := ⟨h.row.kept hm, fun o ho => (h.els o ho).kept hm⟩
theorem AOz.below {X : Nat → Prop} {w w' : World} {A : Option Addr} {n : Nat} {l : List Ao} (h : AOz X w A n l) (hb : Below w.heap.size w w') : AOz X w' A n l := h.kept (Mod.of_below hb X)
theorem AOz.len {X : Nat → Prop} {w : World} {A : Option Addr} {n : Nat} {l : List Ao} (h : AOz X w A n l) : l.length = n := by have := h.row.len; rw [flatO_length] at this; omega
theorem AOz.at {X : Nat → Prop} {w : World} {A : Option Addr} {n : Nat} {l : List Ao} {k : Nat} (h : AOz X w A n l) (hk : k < n) : ∃ b o, ∃ hl : k < l.length, A = some ⟨b, o, none⟩ ∧ ¬ X b ∧ b < w.heap.size ∧ w.rangeAt b (o + k * 16) (aoL (l[k]'hl)) ∧ AoZ X w (l[k]'hl) := by
  obtain ⟨b, o, ha, hx, hb, hr⟩ := h.row.spot (by omega)
  have hl : k < l.length := by rw [h.len]; exact hk
  exact ⟨b, o, hl, ha, hx, hb, flatO_range hr hl, h.els _ (List.getElem_mem hl)⟩
theorem ao_er {w : World} {b o : Nat} {a : Ao} (h : w.rangeAt b o (aoL a)) : w.rangeAt b (o + 1) (erL a.er) := fun j v hv => by
  have hj : j < 13 := (List.getElem?_eq_some_iff.1 hv).1
  rw [show o + 1 + j = o + (j + 1) by omega]
  refine h (j + 1) v ?_
  show (.int .i64 a.k :: (erL a.er ++ [.slice a.KA a.keep.length a.kc, .slice a.MA a.more.length a.mc]) : List Value)[j + 1]? = some v
  rw [List.getElem?_cons_succ, List.getElem?_append_left (by rw [erL_length]; exact hj)]
  exact hv
/-- An act that is not more than is waited for. -/
structure SmO (o : Ao) : Prop where
  er : lightI o.er.e.rc.val.length o.er.np o.er.na = 0
  keep : o.keep.length ≤ 400
  more : o.more.length ≤ 4
  each : ∀ (k : Nat) (h : k < o.more.length), o.more[k].l.length ≤ 400
def LightR (w : World) (n : Nat) (os : List Ao) (e : Ending) (w' : World) : Prop :=
  ∃ b : Bool, e = .returned (.bool b) ∧ Below w.heap.size w w' ∧ (b = true → n ≤ 30 ∧ ∀ (k : Nat) (h : k < os.length), SmO os[k])
def LiO (w : World) (n : Nat) (os : List Ao) (i : Value) (z : World) : Prop :=
  ∃ k : Nat, k ≤ n ∧ i = .int .i64 (k : Int) ∧ Hid (Below w.heap.size w z) ∧ Hid (∀ (j : Nat) (h : j < os.length), j < k → SmO os[j])
def LiI (y : World) (m : Nat) (o : Ao) (i : Value) (z : World) : Prop :=
  z = y ∧ ∃ k : Nat, k ≤ m ∧ i = .int .i64 (k : Int) ∧ Hid (∀ (j : Nat) (h : j < o.more.length), j < k → o.more[j].l.length ≤ 400)

set_option maxHeartbeats 6400000 in
theorem lightO_any (X : Nat → Prop) (A : Option Addr) (n c : Nat) (os : List Ao) (w : World) (h : AOz X w A n os) (hi : ∀ o ∈ os, AoIn o) (hn : n ≤ maxLen) :
    Calls Tryd.prog 6 #[.slice A n c] w (LightR w n os) := by
  unfold maxLen at hn
  by_cases hb : 30 < n
  · have d1 : decide ((30 : Int) < (n : Int)) = true := by simp; omega
    go_enter Tryd.func6, Tryd.ntmps6
    go_wp2_with fail
    go_ret
    exact ⟨false, rfl, Below.refl _ _, fun h => by cases h⟩
  · have d1 : decide ((30 : Int) < (n : Int)) = false := by simp; omega
    have HH := Lib.hid h
    have HI := Lib.hid hi
    have FN := Lib.hid (show ∀ z, Below w.heap.size w z → LightR w n os (.returned (.bool false)) z from fun z hz => ⟨false, rfl, hz, fun h => by cases h⟩)
    clear h hi hn
    go_enter Tryd.func6, Tryd.ntmps6
    go_wp2_with fail
    go_loopw [3] (fun i z => LiO w n os i z) (fun i _ => n - (intOf i).toNat)
    case atStart => exact ⟨0, Nat.zero_le _, rfl, Below.refl _ _, fun j _ hj => absurd hj (Nat.not_lt_zero _)⟩
    case round =>
      obtain ⟨k, hk, rfl, HB, HS⟩ := hrel
      by_cases hlt : k < n
      · obtain ⟨bL, oL, hl, rfl, _, hbl, hR, hO⟩ := (HH.out.below HB.out).at hlt
        obtain ⟨o, ho⟩ : ∃ o, os[k] = o := ⟨_, rfl⟩
        have I1 := Lib.hid (HI.out _ (List.getElem_mem hl))
        rw [ho] at hR hO I1
        have HOE := Lib.hid ho
        have HL := Lib.hid hl
        have R1 := Lib.hid (ao_er hR)
        have O1 := Lib.hid hO
        have RC := Lib.hid hR
        clear hR hO ho
        go_wp2_with (refine wpList_load_er 18 (.tmp 17) rfl rfl rfl bL (oL + k * 16 + 1) rfl o.er R1.out ?_)
        refine (light_er o.er ⟨I1.out.er, I1.out.val, I1.out.np, I1.out.na⟩ wr).mono ?_
        rintro e y1 ⟨rfl, hb1⟩
        have HB1 := Lib.hid (HB.out.trans (hb1.mono HB.out.size))
        have RC1 := Lib.hid (range_below RC.out hb1 hbl)
        have O2 := Lib.hid (O1.out.below hb1)
        have hbl1 : bL < y1.heap.size := Nat.lt_of_lt_of_le hbl hb1.size
        clear hb1 RC O1 R1 HB
        have c14 : y1.cell? ⟨bL, oL + k * 16 + 14, none⟩ = some (.slice o.KA o.keep.length o.kc) := RC1.out 14 _ (aoL_14 o)
        have c15 : y1.cell? ⟨bL, oL + k * 16 + 15, none⟩ = some (.slice o.MA o.more.length o.mc) := RC1.out 15 _ (aoL_15 o)
        by_cases g1 : lightI o.er.e.rc.val.length o.er.np o.er.na = 0
        · rw [g1]
          have G1 := Lib.hid g1
          clear g1
          by_cases g2 : 400 < o.keep.length
          · have d2 : decide ((400 : Int) < (o.keep.length : Int)) = true := by simp; omega
            go_wp2_with fail
            go_ret
            exact FN.out _ HB1.out
          · have d2 : decide ((400 : Int) < (o.keep.length : Int)) = false := by simp; omega
            by_cases g3 : 4 < o.more.length
            · have d3 : decide ((4 : Int) < (o.more.length : Int)) = true := by simp; omega
              go_wp2_with fail
              go_ret
              exact FN.out _ HB1.out
            · have d3 : decide ((4 : Int) < (o.more.length : Int)) = false := by simp; omega
              go_wp2_with fail
              go_loopw [4] (fun i z => LiI y1 o.more.length o i z) (fun i _ => o.more.length - (intOf i).toNat)
              case atStart => exact ⟨rfl, 0, Nat.zero_le _, rfl, fun j _ hj => absurd hj (Nat.not_lt_zero _)⟩
              case round =>
                obtain ⟨rfl, q, hq, rfl, HQ⟩ := hrel
                by_cases hql : q < o.more.length
                · obtain ⟨bM, oM, uM, hMA, _, hbM, huM, hcM⟩ := O2.out.rows.get hql
                  rw [moL_get o.more q hql] at huM
                  injection huM with huM
                  subst huM
                  rw [hMA] at c15
                  have CM := Lib.hid (I1.out.each _ (List.getElem_mem hql))
                  obtain ⟨mo, hmo⟩ : ∃ mo, o.more[q] = mo := ⟨_, rfl⟩
                  have HMO := Lib.hid hmo
                  rw [hmo] at hcM
                  clear hMA hmo
                  by_cases g4 : 400 < mo.l.length
                  · have d4 : decide ((400 : Int) < (mo.l.length : Int)) = true := by simp; omega
                    go_wp2_with fail
                    go_ret
                    exact FN.out _ HB1.out
                  · have d4 : decide ((400 : Int) < (mo.l.length : Int)) = false := by simp; omega
                    go_wp2_with fail
                    refine ⟨⟨rfl, q + 1, by omega, by go_num, ?_⟩, by simp [intOf]; omega⟩
                    show ∀ (j : Nat) (h : j < o.more.length), j < q + 1 → o.more[j].l.length ≤ 400
                    intro j hj hj2
                    by_cases hjq : j = q
                    · subst hjq; rw [HMO.out]; omega
                    · exact HQ.out j hj (by omega)
                · obtain rfl : q = o.more.length := by omega
                  have SO : Hid (SmO o) := ⟨G1.out, by omega, by omega, fun j hj => HQ.out j hj hj⟩
                  go_wp2_with fail
                  refine ⟨⟨k + 1, by omega, by go_num, HB1, ?_⟩, by simp [intOf]; omega⟩
                  show ∀ (j : Nat) (h : j < os.length), j < k + 1 → SmO os[j]
                  intro j hj hj2
                  by_cases hjk : j = k
                  · subst hjk; rw [HOE.out]; exact SO.out
                  · exact HS.out j hj (by omega)
        · have g1' : lightI o.er.e.rc.val.length o.er.np o.er.na = 1 := by
            unfold lightI at g1 ⊢
            split
            · rfl
            · rename_i h; rw [if_neg h] at g1; exact absurd rfl g1
          rw [g1']
          clear g1 g1'
          go_wp2_with fail
          go_ret
          exact FN.out _ HB1.out
      · obtain rfl : k = n := by omega
        go_wp2_with fail
        go_ret
        exact ⟨true, rfl, HB.out, fun _ => ⟨by omega, fun j hj => HS.out j hj (by rw [← HH.out.len]; exact hj)⟩⟩
end Go.Proofs.YthicidpdgggbjaaDoor
