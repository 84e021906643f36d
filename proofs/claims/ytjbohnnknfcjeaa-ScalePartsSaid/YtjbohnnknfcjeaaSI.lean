/-
  Of: the scale with the given cuts.
  Conditions: none.
-/
import Derived.Test.YtjbohnnknfcjeaaSH
namespace Go.Proofs.Ytjbohnnknfcjeaa
open Go.RowKit
attribute [local go_sem] Oper.semAt_some
set_option maxRecDepth 20000

def zero7 : List Nat := [0, 0, 0, 0, 0, 0, 0]
def zS : Array Value := (scR 0 zero7).toArray
theorem scA_zero : scA [] = zS := rfl
theorem zS_size : zS.size = 8 := rfl
theorem zS_one : zS.all (·.oneCell') = true := scA_one []
theorem splice_of (l : List Nat) : splice zero7 0 l = pad7 l := by
  have e : zero7 = List.replicate 7 0 := rfl
  unfold splice pad7
  rw [e, List.take_zero, List.nil_append, Nat.zero_add, List.drop_replicate]
/-- What Of hands back. -/
noncomputable def ofV (l : List Nat) : Value := .tuple #[.agg (scA (if okB l = true then l else [])), .bool (okB l)]
theorem ofV_no {l : List Nat} (h : okB l = false) : ofV l = .tuple #[.agg zS, .bool false] := by
  unfold ofV; rw [h]; rfl
theorem ofV_yes {l : List Nat} (h : okB l = true) : ofV l = .tuple #[.agg (scA l), .bool true] := by
  unfold ofV; rw [h]; rfl
set_option maxHeartbeats 6400000 in
theorem Of_any (A : Option Addr) (n c : Nat) (l : List Nat) (w : World) (h : Lz (fun _ => False) w 1 A n (UC l)) :
    Calls Try.prog 8 #[.slice A n c] w (RetB w (ofV l)) := by
  have hlen := h.ulen
  have HB : Hid (Below w.heap.size w (w.alloc (.cells zS 27))) := (Below.refl _ w).alloc (Nat.le_refl _) _
  have HA2 : Hid (At (w.alloc (.cells zS 27)) w.heap.size 27 zS) := At.new w _ _
  have hz0 : (#[.int .i64 0, .int .u32 0, .int .u32 0, .int .u32 0, .int .u32 0, .int .u32 0, .int .u32 0, .int .u32 0] : Array Value) = zS := rfl
  have HL := Lib.hid (h.below HB.out)
  clear h
  by_cases h7 : 7 < n
  · have HV := Lib.hid (ofV_no (l := l) (okB_no (fun h => by omega)))
    have d7 : decide ((7 : Int) < (n : Int)) = true := decide_eq_true (by omega)
    go_enter Try.func8, Try.ntmps8
    go_upto_region 1 with fail
    clear hz0
    generalize w.alloc (.cells zS 27) = w1 at HB HA2 HL ⊢
    go_wp2_with (refine wpList_store_at 27 (.tmp 2) (.tmp 11) rfl rfl rfl w.heap.size rfl zS zS 8 rfl strS zS_size zS_size zS_one HA2.out ?_; intro w9 h9 g9; have H9 := Lib.hid h9; have HB9 := Lib.hid (HB.out.grown g9 HB.out.size (fun j e => by injection e with e; omega)); clear h9 g9)
    exact bodyPost_ret (results_at2 (g := w.heap.size) rfl H9.out strS zS_size rfl rfl) rfl ⟨by rw [HV.out]; rfl, HB9.out⟩
  have d7 : decide ((7 : Int) < (n : Int)) = false := decide_eq_false (by omega)
  go_enter Try.func8, Try.ntmps8
  go_upto_region 1 with fail
  clear hz0
  generalize w.alloc (.cells zS 27) = w1 at HB HA2 HL ⊢
  go_wp2_with fail
  go_loop [3, 4, 6, 14] (fun v3 v4 v6 vi => ∃ (k p : Nat), k ≤ n ∧ v3 = .bool false ∧ v4 = .int .u32 (p : Int) ∧ vi = .int .i64 (k : Int) ∧ Hid (lastK l k = p) ∧ Hid (AscK l k)) (fun _ _ _ i => n - (intOf i).toNat)
  case atStart => exact ⟨0, 0, Nat.zero_le _, rfl, rfl, by go_num, Lib.hid rfl, Lib.hid (fun i _ hi => absurd hi (Nat.not_lt_zero _))⟩
  case round =>
    obtain ⟨k, p, hk, rfl, rfl, rfl, HP, HA⟩ := hrel
    by_cases hlt : k < n
    · obtain ⟨b, o, hl, rfl, hb, hc⟩ := HL.out.uc hlt
      obtain ⟨x, hx⟩ : ∃ x, l[k] = x := ⟨_, rfl⟩
      rw [hx] at hc
      have HX := Lib.hid hx
      clear hx
      obtain ⟨cg, hcg⟩ : ∃ cg, decide ((x : Int) ≤ (p : Int)) = cg := ⟨_, rfl⟩
      have hcn : decide (x ≤ p) = cg := by rw [← hcg]; exact decide_eq_decide.2 (by omega)
      have HCN := Lib.hid hcn
      cases cg
      · have HA1 : Hid (AscK l (k + 1)) := HA.out.next hl (by rw [HX.out, HP.out]; have := of_decide_eq_false HCN.out; omega)
        go_wp2_with fail
        exact ⟨⟨k + 1, x, by omega, rfl, rfl, by go_num, Lib.hid (by rw [lastK_succ hl, HX.out]), HA1⟩, by simp [intOf]; omega⟩
      · have HV := Lib.hid (ofV_no (l := l) (okB_no (fun h => by have := h.2 k hl; rw [HX.out, HP.out] at this; have := of_decide_eq_true HCN.out; omega)))
        go_wp2_with (refine wpList_store_at 27 (.tmp 2) (.tmp 21) rfl rfl rfl w.heap.size rfl zS zS 8 rfl strS zS_size zS_size zS_one HA2.out ?_; intro w9 h9 g9; have H9 := Lib.hid h9; have HB9 := Lib.hid (HB.out.grown g9 HB.out.size (fun j e => by injection e with e; omega)); clear h9 g9)
        exact bodyPost_ret (results_at2 (g := w.heap.size) rfl H9.out strS zS_size rfl rfl) rfl ⟨by rw [HV.out]; rfl, HB9.out⟩
    · obtain rfl : k = n := by omega
      have HV := Lib.hid (ofV_yes (l := l) (okB_yes ⟨by omega, AscK.all (by rw [hlen]; exact HA.out)⟩))
      have hk7 : k ≤ 7 := by omega
      have hz0 : (#[.int .i64 0, .int .u32 0, .int .u32 0, .int .u32 0, .int .u32 0, .int .u32 0, .int .u32 0, .int .u32 0] : Array Value) = zS := rfl
      go_upto_region 12 with (refine wpList_store_new 27 (.tmp 7) (.tmp 26) rfl rfl rfl w1.heap.size w1 rfl rfl (scR k zero7).toArray zS 8 rfl strS rfl zS_size (all_oneCell_toArray (scR_one _ _)) rfl ?_)
      clear hz0
      have HB2 : Hid (Below w.heap.size w (w1.alloc (.cells (scR k zero7).toArray 27))) := HB.out.alloc HB.out.size _
      have HA3 : Hid (At (w1.alloc (.cells (scR k zero7).toArray 27)) w.heap.size 27 zS) := HA2.out.alloc _
      have HA7 : Hid (At (w1.alloc (.cells (scR k zero7).toArray 27)) w1.heap.size 27 (scR k zero7).toArray) := At.new w1 _ _
      have HL2 := Lib.hid (HL.out.alloc (.cells (scR k zero7).toArray 27))
      have HNE : Hid (w.heap.size ≠ w1.heap.size) := by have := HA2.out.lt; show _ ≠ _; omega
      have HSZ : Hid (w.heap.size ≤ w1.heap.size) := HB.out.size
      have rall := fun W => run_arr_all w1.heap.size W
      have HM : Hid (l.length = Nat.min k 7) := by show _ = _; rw [hlen]; exact (Nat.min_eq_left hk7).symm
      have HM7 : Hid (0 + l.length ≤ 7) := by show _ ≤ _; omega
      have HSP : Hid ((scR k (splice zero7 0 l)).toArray = scA l) := by show _ = _; rw [splice_of, scA, hlen]
      have HS8 : Hid ((scA l).size = 8) := scA_size (by omega)
      clear HB HA2 HL
      generalize w1.alloc (.cells (scR k zero7).toArray 27) = w2 at HB2 HA3 HA7 HL2 ⊢
      generalize w1.heap.size = g7 at HA7 HNE HSZ rall ⊢
      go_wp2_with (first
        | (refine wpList_copyS 30 (.tmp 28) (.tmp 29) rfl rfl rfl g7 k 0 7 7 k c zero7 l ⟨g7, 1, none⟩ A rfl rfl rfl HA7.out HM.out HM7.out (fun _ => rfl) (fun h0 => (by obtain ⟨b, o, h1, _, _, h2⟩ := HL2.out.spot (by omega); exact ⟨_, h1, fun j v hv => by rw [add_plain]; exact h2 j v hv⟩)) ?_; intro w3 h3 g3; rw [HSP.out] at h3; have H3 := Lib.hid h3; have HA4 := Lib.hid (HA3.out.grown g3 (fun e => HNE.out (Option.some.inj e))); have HB3 := Lib.hid (HB2.out.grown g3 HB2.out.size (fun j e => by injection e with e; have := HSZ.out; omega)); clear h3 g3)
        | (refine wpList_load_at 27 31 (.tmp 7) rfl rfl rfl g7 rfl (scA l) 8 strS HS8.out H3.out ?_)
        | (refine wpList_store_at 27 (.tmp 2) (.tmp 31) rfl rfl rfl w.heap.size rfl (scA l) zS 8 rfl strS HS8.out zS_size (scA_one _) HA4.out ?_; intro w9 h9 g9; have H9 := Lib.hid h9; have HB9 := Lib.hid (HB3.out.grown g9 HB3.out.size (fun j e => by injection e with e; omega)); clear h9 g9))
      exact bodyPost_ret (results_at2 (g := w.heap.size) rfl H9.out strS HS8.out rfl rfl) rfl ⟨by rw [HV.out]; rfl, HB9.out⟩
end Go.Proofs.Ytjbohnnknfcjeaa
