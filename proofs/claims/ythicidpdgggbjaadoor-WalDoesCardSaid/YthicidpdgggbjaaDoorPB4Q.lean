/-
  The walk of tear.
  Conditions: disks of at most 100000 sectors.
-/
import Derived.Test.YthicidpdgggbjaaDoorPB3Q
import Derived.Test.YthicidpdgggbjaaDoorQ1
namespace Go.Proofs.YthicidpdgggbjaaDoor
open Go.RowKit

section
variable {X Y : Nat → Prop} {w : World} {g gs cap c : Nat} {sp : List Value} {A : Option Addr} {S : List Sect} {wr fu : Int} {kp : List Bool} {dn : Bool}
theorem PlatAt.lay (h : PlatAt X w g gs cap sp A c S wr fu kp dn) (p : Nat) (l : List Sect) (hi : p + l.length ≤ S.length) : PlatAt X (w.setCells gs (p * 64) (flat l)) g gs cap sp A c (splice S p l) wr fu kp dn := by
  have hm : Mod (fun b => b = gs) w (w.setCells gs (p * 64) (flat l)) := Mod.setCells (X := fun b => b = gs) (Mod.refl _ w) (.inl rfl) _ _
  have hl : (splice S p l).length = S.length := length_splice S p l hi
  refine ⟨?_, ?_, h.ne, by rw [hl]; exact h.cap1, h.cap2, h.lies.keptY hm fun k _ e => .inr (.inl e), h.c1, h.c2⟩
  · rw [hl, hm.block g h.lt h.ne]
    exact h.box
  · rw [pl_setCells_row gs 68 (flat l) (p * 64) (flat S ++ sp) w h.row (by rw [flat_length, List.length_append, flat_length]; omega), splice_flat _ _ _ _ hi]
theorem PlatAt.there (h : PlatAt X w g gs cap sp A c S wr fu kp dn) (p n : Nat) (hi : p + n ≤ S.length) : w.there gs (p * 64) (n * 64) :=
  there_row h.row (by rw [List.length_append, flat_length]; omega)
end

theorem wpList_load_sec {ops : Array Oper} {rest : List Oper} {op : Oper} {a : Act} {w : World} {Q : Exit → Act → World → Prop} (d : Nat) (x : Operand) (hop : op.dst = some d) (hgd : op.guard = none) (ho : op.op = .load 68 x)
    (b o : Nat) (hx : a.eval x = .pointer (some ⟨b, o, none⟩)) (v : Sect) (hc : w.rangeAt b o (sec v))
    (h : wpList Tryd.prog ops Q rest (a.put (some d) (.agg (secA v))) w) : wpList Tryd.prog ops Q (op :: rest) a w := by
  refine wpList_load_mid hgd 68 x ho b o hx (sec v) _ hc Tryd.underlying68 rfl (by rw [sec_length]; exact arr_size) ?_
  rw [hop]
  exact h
theorem wpList_store_sec {ops : Array Oper} {rest : List Oper} {op : Oper} {a : Act} {w : World} {Q : Exit → Act → World → Prop} (x y : Operand) (hop : op.dst = none) (hgd : op.guard = none) (ho : op.op = .store 68 x y)
    (b o : Nat) (hx : a.eval x = .pointer (some ⟨b, o, none⟩)) (v : Sect) (hy : a.eval y = .agg (secA v)) (ht : w.there b o 64)
    (h : ∀ w', w' = w.setCells b o (sec v) → wpList Tryd.prog ops Q rest (a.put none undef) w') : wpList Tryd.prog ops Q (op :: rest) a w := by
  refine wpList_store_mid hgd 68 x y ho b o (secA v) hx hy (by rw [secA_size]; exact ht) (by rw [secA_size]; exact arr_size) (secA_one v) ?_
  rw [hop, secA_toList]
  exact h _ rfl

def TearR (X : Nat → Prop) (w : World) (g gs : Nat) (S : List Sect) (p : Nat) (l : List Sect) (wr fu : Int) (kp : List Bool) (dn : Bool) (m : Nat) (i : Value) (wq : World) : Prop :=
  ∃ k : Nat, k ≤ m ∧ i = .int .i64 k ∧ Hid (Plat X wq g gs (upd S p l (kfA kp k)) wr fu kp dn) ∧ Hid (Mod (pl_own g gs) w wq)

section
variable (X : Nat → Prop) (g gs : Nat) (S : List Sect) (wr fu : Int) (kp : List Bool) (dn : Bool) (w : World)
set_option maxHeartbeats 1600000 in
theorem tear_any (p o n c2 : Nat) (l : List Sect) (L : Option Addr) (h : Plat X w g gs S wr fu kp dn) (hn : S.length ≤ 100000) (hln : l.length = n) (hi : p + n ≤ S.length) (ho : 0 < n → o = p * 64) (hL : Lz (pl_own g gs) w 64 L n (flat l)) (hkp : kp.length ≤ 100000) (hX : ∀ k, X k → k < w.heap.size) :
    Calls Tryd.prog 62 #[.pointer (some ⟨g, 0, none⟩), .slice (some ⟨gs, o, none⟩) n n, .slice L n c2] w (Fused X w g gs (upd S p l (fun j => kp.getD j false)) wr (-1) [] true) := by
  obtain ⟨cap, sp, A, c, h⟩ := h
  have a3 := h.cell3
  obtain ⟨m, hm⟩ : ∃ m, m = min l.length kp.length := ⟨_, rfl⟩
  have HS : Hid (Plat X w g gs (upd S p l (kfA kp 0)) wr fu kp dn) := by
    show Plat _ _ _ _ _ _ _ _ _
    rw [upd_none S p l _ (fun j _ => by simp [kfA])]
    exact ⟨cap, sp, A, c, h⟩
  have HL := Lib.hid hL
  have HLN := Lib.hid hln
  have HO := Lib.hid ho
  have HM := Lib.hid hm
  have HX := Lib.hid hX
  have hmn : m ≤ n := by omega
  have hmk : m ≤ kp.length := by omega
  clear h hL hln ho hm hX
  go_enter Tryd.func62, Tryd.ntmps62
  go_wp2_with fail
  all_goals
    (first
      | (have e : (kp.length : Int) = (m : Int) := (by have := HM.out; have := HLN.out; omega)
         rw [e]
         clear e)
      | (have e : (n : Int) = (m : Int) := (by have := HM.out; have := HLN.out; omega)
         rw [e]
         clear e))
    go_loopw [15] (fun i wq => TearR X w g gs S p l wr fu kp dn m i wq) (fun i _ => m - (intOf i).toNat)
    case atStart => exact ⟨0, Nat.zero_le _, rfl, HS, Lib.hid (Mod.refl _ _)⟩
    case round =>
      obtain ⟨k, hk, rfl, hP, hMo⟩ := hrel
      obtain ⟨cap1, sp1, A1, c1, h1⟩ := hP.out
      have H1 := Lib.hid h1
      have b3 := h1.cell3
      clear h1
      by_cases hlt : k < m
      · have hkl : k < l.length := by rw [HLN.out]; omega
        have hkk : k < kp.length := by omega
        obtain ⟨b, ob, u, rfl, hx, hbz, hu, hc⟩ := H1.out.lies.get hkk
        rw [BL_get kp k hkk] at hu
        injection hu with hu
        subst hu
        obtain ⟨bL, oL, rfl, _, _, hR⟩ := (HL.out.kept hMo.out).spot (by omega)
        have R1 := Lib.hid (flat_range hR hkl)
        have hgd : kp.getD k false = kp[k] := by simp [List.getD, hkk]
        have ho := HO.out (by omega)
        subst ho
        cases hkv : kp[k] with
        | true =>
          rw [hkv] at hgd hc
          have ST := Lib.hid (upd_step S p l kp k hkl (by rw [HLN.out]; exact hi) hgd)
          have TH := Lib.hid (show wr.there gs (p * 64 + k * 64) 64 by have := H1.out.there (p + k) 1 (by rw [upd_length]; omega); rwa [Nat.add_mul] at this)
          have LAY := Lib.hid (H1.out.lay (p + k) [l[k]] (by rw [upd_length]; simp; omega))
          generalize l[k] = x at *
          clear hR hgd hkv
          go_wp2_with (first
            | refine wpList_load_sec 30 (.tmp 29) rfl rfl rfl bL (oL + k * 64) rfl x R1.out ?_
            | (refine wpList_store_sec (.tmp 31) (.tmp 30) rfl rfl rfl gs (p * 64 + k * 64) rfl x rfl TH.out ?_; intro w9 hW; have HW := Lib.hid hW; clear hW))
          refine ⟨⟨k + 1, by omega, by go_num, ?_, ?_⟩, by simp [intOf]; omega⟩
          · show Plat _ _ _ _ _ _ _ _ _
            have := LAY.out
            rw [ST.out, flat_single, Nat.add_mul] at this
            rw [HW.out]
            exact ⟨_, _, _, _, this⟩
          · show Mod _ _ _
            rw [HW.out]
            exact hMo.out.setCells (.inl (.inr rfl)) _ _
        | false =>
          rw [hkv] at hgd hc
          have ST := Lib.hid (upd_same S p l kp k hgd)
          clear hR hgd hkv
          go_wp2_with fail
          refine ⟨⟨k + 1, by omega, by go_num, ?_, hMo⟩, by simp [intOf]; omega⟩
          show Plat _ _ _ _ _ _ _ _ _
          rw [← ST.out]
          exact hP.out
      · have KM := Lib.hid (show k = m by omega)
        have FU := Lib.hid (fuse_never X g gs _ _ _ _ _ _ hP.out (by rw [upd_length]; exact hn) (fun q hq => Nat.lt_of_lt_of_le (HX.out q hq) hMo.out.size))
        clear b3
        go_wp2_with (go_at_call 36; refine FU.out.mono ?_; rintro e w1 ⟨rfl, hp, hm⟩; have HP1 := Lib.hid hp; have HM1 := Lib.hid hm; clear hm; obtain ⟨c4, f4, _⟩ := box_cells hp; clear hp)
        go_end0
        have hp := put_down HP1.out true
        rw [upd_end S p l kp k (by rw [KM.out]; exact HM.out)] at hp
        exact ⟨rfl, hp, (hMo.out.trans HM1.out).setCell (.inl (.inl rfl)) _⟩
end
end Go.Proofs.YthicidpdgggbjaaDoor
