/-
  The walks of wal.shareOf (a sector that is a share of some bytes, a sector of zeros), of slices.Clone of pages and of numbers, and of wal.twin.
  Conditions: shares of at most 54 bytes; entries of at most 1000 pages and numbers.
-/
import Derived.Test.YthicidpdgggbjaaDoorK4Q
namespace Go.Proofs.YthicidpdgggbjaaDoor
open Go.RowKit
set_option maxRecDepth 8000

theorem sec_of (sh : List UInt8) (m : Nat) (f l : Bool) (h : sh.length ≤ 54) : sec (secOf sh m f l) = BC (putL m 8) ++ (.int .u8 (flagN f l : Int) :: .int .u8 (sh.length : Int) :: (BC sh ++ List.replicate (54 - sh.length) (.int .u8 0))) := by
  rw [sec, secOf_list m f l h, CL_append, BC_CL, BC_CL]
  simp only [CL_append, CL_zero]
  rfl
theorem sec_of8 (sh : List UInt8) (m : Nat) (f l : Bool) (h : sh.length ≤ 54) : (secA (secOf sh m f l))[8]? = some (.int .u8 (flagN f l : Int)) := by
  rw [secA, List.getElem?_toArray, sec_of sh m f l h, List.getElem?_append_right (by simp [BC_length, putL_length])]
  simp [BC_length, putL_length]
theorem sec_of9 (sh : List UInt8) (m : Nat) (f l : Bool) (h : sh.length ≤ 54) : (secA (secOf sh m f l))[9]? = some (.int .u8 (sh.length : Int)) := by
  rw [secA, List.getElem?_toArray, sec_of sh m f l h, List.getElem?_append_right (by simp [BC_length, putL_length])]
  simp [BC_length, putL_length]
theorem sec_of_share (sh : List UInt8) (m : Nat) (f l : Bool) (h : sh.length ≤ 54) (j : Nat) (u : Value) (hu : (BC sh)[j]? = some u) : (secA (secOf sh m f l))[10 + j]? = some u := by
  have hj : j < (BC sh).length := (List.getElem?_eq_some_iff.1 hu).1
  rw [secA, List.getElem?_toArray, sec_of sh m f l h, List.getElem?_append_right (by simp [BC_length, putL_length]; omega), BC_length, putL_length, show 10 + j - 8 = j + 1 + 1 by omega, List.getElem?_cons_succ, List.getElem?_cons_succ, List.getElem?_append_left hj]
  exact hu
theorem share_lies {w : World} {g n : Nat} {sh : List UInt8} {m : Nat} {f l : Bool} (h : sh.length = n) (hn : n ≤ 54) (ha : At w g 68 (secA (secOf sh m f l))) : Lies w w.heap.size 1 (some ⟨g, 10, none⟩) n (BC sh) := by
  refine ⟨by rw [BC_length, h]; omega, fun _ => ⟨_, rfl, ha.lt, fun j u hu => ?_⟩⟩
  rw [add_plain, ha.cell]
  exact sec_of_share sh m f l (by omega) j u hu

/-- What shareOf gives of a sector that is none of an entry. -/
def NoS (w : World) (e : Ending) (w' : World) : Prop := e = .returned (.tuple #[.slice none 0 0, .bool false, .bool false]) ∧ Below w.heap.size w w'
def YesS (w : World) (n : Nat) (sh : List UInt8) (l : Bool) (e : Ending) (w' : World) : Prop :=
  ∃ A, e = .returned (.tuple #[.slice A n 54, .bool l, .bool true]) ∧ Lies w' w'.heap.size 1 A n (BC sh) ∧ Below w.heap.size w w'

set_option maxHeartbeats 400000 in
theorem share_no (m : Nat) (f : Bool) (w : World) : Calls Tryd.prog 48 #[.agg (secA zsec), .int .u64 m, .bool f] w (NoS w) := by
  have B1 := Lib.hid ((Below.refl w.heap.size w).alloc (Nat.le_refl _) (.cells (secA zsec) 68))
  have R := At.new w 68 (secA zsec)
  have c8 := R.cell 8
  have c9 := R.cell 9
  rw [zsec_lit] at c8 c9
  simp only [Array.getElem?_replicate] at c8 c9
  rw [← zsec_lit] at c8 c9
  simp only [show (8 < 64) = True by simp, show (9 < 64) = True by simp, if_true] at c8 c9
  clear R
  go_enter Tryd.func48, Tryd.ntmps48
  go_wp2_with fail
  go_ret3
  exact ⟨rfl, B1.out⟩
set_option maxHeartbeats 800000 in
theorem share_fts (n m : Nat) (sh : List UInt8) (w : World) (hl : sh.length = n) (h1 : 1 ≤ n) (hn : n ≤ 54) (hx : n < 54) (hm : m < 18446744073709551616) :
    Calls Tryd.prog 48 #[.agg (secA (secOf sh m false true)), .int .u64 m, .bool false] w (YesS w n sh true) := by
  have B1 := Lib.hid ((Below.refl w.heap.size w).alloc (Nat.le_refl _) (.cells (secA (secOf sh m false true)) 68))
  have R := At.new w 68 (secA (secOf sh m false true))
  have c8 := R.cell 8
  have c9 := R.cell 9
  rw [sec_of8 _ _ _ _ (by omega)] at c8
  rw [sec_of9 _ _ _ _ (by omega), hl] at c9
  have HR := Lib.hid R
  have HL := Lib.hid hl
  clear R hl
  have d1 : decide ((n : Int) < 1) = false := by simp; omega
  have d2 : decide ((54 : Int) < (n : Int)) = false := by simp; omega
  have d3 : decide ((n : Int) < 54) = true := by simp; omega
  have hcut : ∀ W : World, (Instr.sliceAt 68 (.pointer (some ⟨w.heap.size, 0, none⟩)) (some (.int .i64 (10 : Int))) (some (.int .i64 (10 + (n : Int)))) none).run Tryd.prog W = .ok (.slice (some ⟨w.heap.size, 10, none⟩) n 54) W := fun W => by
    have := run_sliceAt_array_lh (P := Tryd.prog) W 68 ⟨w.heap.size, 0, none⟩ undS .i64 .i64 (10 : Int) (10 + (n : Int)) (by omega) (by omega) (by rw [alenS]; omega)
    rw [this]
    have e : (10 + (n : Int)).toNat = 10 + n := by omega
    simp [slicedAt, add_plain, e, go_sem]
  have hbits : bits BinOp.and IntKind.u8 ((flagN false true : Nat) : Int) 2 = 2 := by decide +kernel
  have LS := Lib.hid (share_lies HL.out hn HR.out)
  generalize ((flagN false true : Nat) : Int) = fg at *
  go_enter Tryd.func48, Tryd.ntmps48
  go_wp2_with fail
  refine wp_region_held_drew (S := fun z => At z w.heap.size 68 (secA (secOf sh m false true))) (by kernel_rfl) (HR.out.under (Below.refl _ _).drew HR.out.lt) (fun hS => ?_)
  have LZ := Lib.hid (LS.out.under (Below.refl _ _).drew)
  have BZ := Lib.hid B1.out.drew
  have hzs : (w.alloc (.cells (secA (secOf sh m false true)) 68)).heap.size = (w.alloc (.cells (secA (secOf sh m false true)) 68)).drew.heap.size := rfl
  rw [hzs] at LZ
  clear hzs
  generalize (w.alloc (.cells (secA (secOf sh m false true)) 68)).drew = z0 at *
  refine takeH (i := 0) (d := 34) (v := .agg (secA (secOf sh m false true))) rfl (by kernel_rfl) (by kernel_rfl) (by kernel_rfl) (fun _ _ _ h => h) rfl (by rfl) ?yfts0 hS ?rfts0
  case yfts0 => (intro wz hz; exact exec_load_at 68 (.tmp 3) rfl w.heap.size rfl _ 64 strS (secA_size _) hz)
  simp only [List.setIfInBounds_toArray, List.set_cons_zero, List.set_cons_succ]
  refine takeH (i := 1) (d := 35) (v := ?vfts1) rfl (by kernel_rfl) (by kernel_rfl) (by kernel_rfl) (fun _ _ _ h => h) rfl (by rfl) ?yfts1 hS ?rfts1
  case yfts1 => (intro wz hz; go_simp <;> with_reducible rfl)
  simp only [List.setIfInBounds_toArray, List.set_cons_zero, List.set_cons_succ]
  refine takeH (i := 2) (d := 36) (v := ?vfts2) rfl (by kernel_rfl) (by kernel_rfl) (by kernel_rfl) (fun _ _ _ h => h) rfl (by rfl) ?yfts2 hS ?rfts2
  case yfts2 => (intro wz hz; go_simp <;> with_reducible rfl)
  simp only [List.setIfInBounds_toArray, List.set_cons_zero, List.set_cons_succ]
  refine takeH (i := 3) (d := 37) (v := ?vfts3) rfl (by kernel_rfl) (by kernel_rfl) (by kernel_rfl) (fun _ _ _ h => h) rfl (by rfl) ?yfts3 hS ?rfts3
  case yfts3 => (intro wz hz; go_simp <;> with_reducible rfl)
  simp only [List.setIfInBounds_toArray, List.set_cons_zero, List.set_cons_succ]
  refine takeH (i := 4) (d := 38) (v := ?vfts4) rfl (by kernel_rfl) (by kernel_rfl) (by kernel_rfl) (fun _ _ _ h => h) rfl (by rfl) ?yfts4 hS ?rfts4
  case yfts4 => (intro wz hz; go_simp <;> with_reducible rfl)
  simp only [List.setIfInBounds_toArray, List.set_cons_zero, List.set_cons_succ]
  refine wpAnyH_ready (rs := [5]) (by kernel_rfl) (by simp) ?_
  refine AllReadyH.cons rfl (fun K hK => ?_) AllReadyH.nil
  go_simp
  refine (sectorOf_any false true _ n 54 m _ sh _ LZ.out (Nat.le_refl _) hn hm).mono ?_
  rintro e z1 ⟨rfl, hb⟩
  have L1 := Lib.hid (LZ.out.under hb)
  have B2 := Lib.hid (BZ.out.trans (hb.mono BZ.out.size))
  have hs1 := hb.size
  refine hK.out _ _ (hS.under hb hS.lt) (fun hT => ?_)
  clear hK hb hS
  have hS := hT
  clear hT
  refine takeH (i := 6) (d := 40) (v := .bool (!(secOf sh m false true == secOf sh m false true))) rfl (by kernel_rfl) (by kernel_rfl) (by kernel_rfl) (fun _ _ _ h => h) rfl (by rfl) ?yfts6 hS ?rfts6
  case yfts6 => (intro wz hz; exact exec_neq (.tmp 34) (.tmp 39) rfl (secOf sh m false true) (secOf sh m false true) _ rfl rfl)
  simp only [List.setIfInBounds_toArray, List.set_cons_zero, List.set_cons_succ]
  refine wpAnyH_done (by kernel_rfl) ?_ _
  have L2 := Lib.hid (L1.out.up hs1)
  rw [show (!(secOf sh m false true == secOf sh m false true)) = false by simp]
  clear hS hs1
  go_wp2_with fail
  go_ret3
  exact ⟨_, rfl, L2.out, B2.out⟩

set_option maxHeartbeats 800000 in
theorem share_ftl (n m : Nat) (sh : List UInt8) (w : World) (hl : sh.length = n) (h1 : 1 ≤ n) (hn : n ≤ 54) (hx : 54 ≤ n) (hm : m < 18446744073709551616) :
    Calls Tryd.prog 48 #[.agg (secA (secOf sh m false true)), .int .u64 m, .bool false] w (YesS w n sh true) := by
  have B1 := Lib.hid ((Below.refl w.heap.size w).alloc (Nat.le_refl _) (.cells (secA (secOf sh m false true)) 68))
  have R := At.new w 68 (secA (secOf sh m false true))
  have c8 := R.cell 8
  have c9 := R.cell 9
  rw [sec_of8 _ _ _ _ (by omega)] at c8
  rw [sec_of9 _ _ _ _ (by omega), hl] at c9
  have HR := Lib.hid R
  have HL := Lib.hid hl
  clear R hl
  have d1 : decide ((n : Int) < 1) = false := by simp; omega
  have d2 : decide ((54 : Int) < (n : Int)) = false := by simp; omega
  have d3 : decide ((n : Int) < 54) = false := by simp; omega
  have hcut : ∀ W : World, (Instr.sliceAt 68 (.pointer (some ⟨w.heap.size, 0, none⟩)) (some (.int .i64 (10 : Int))) (some (.int .i64 (10 + (n : Int)))) none).run Tryd.prog W = .ok (.slice (some ⟨w.heap.size, 10, none⟩) n 54) W := fun W => by
    have := run_sliceAt_array_lh (P := Tryd.prog) W 68 ⟨w.heap.size, 0, none⟩ undS .i64 .i64 (10 : Int) (10 + (n : Int)) (by omega) (by omega) (by rw [alenS]; omega)
    rw [this]
    have e : (10 + (n : Int)).toNat = 10 + n := by omega
    simp [slicedAt, add_plain, e, go_sem]
  have hbits : bits BinOp.and IntKind.u8 ((flagN false true : Nat) : Int) 2 = 2 := by decide +kernel
  have LS := Lib.hid (share_lies HL.out hn HR.out)
  generalize ((flagN false true : Nat) : Int) = fg at *
  go_enter Tryd.func48, Tryd.ntmps48
  go_wp2_with fail
  refine wp_region_held_drew (S := fun z => At z w.heap.size 68 (secA (secOf sh m false true))) (by kernel_rfl) (HR.out.under (Below.refl _ _).drew HR.out.lt) (fun hS => ?_)
  have LZ := Lib.hid (LS.out.under (Below.refl _ _).drew)
  have BZ := Lib.hid B1.out.drew
  have hzs : (w.alloc (.cells (secA (secOf sh m false true)) 68)).heap.size = (w.alloc (.cells (secA (secOf sh m false true)) 68)).drew.heap.size := rfl
  rw [hzs] at LZ
  clear hzs
  generalize (w.alloc (.cells (secA (secOf sh m false true)) 68)).drew = z0 at *
  refine takeH (i := 0) (d := 34) (v := .agg (secA (secOf sh m false true))) rfl (by kernel_rfl) (by kernel_rfl) (by kernel_rfl) (fun _ _ _ h => h) rfl (by rfl) ?yftl0 hS ?rftl0
  case yftl0 => (intro wz hz; exact exec_load_at 68 (.tmp 3) rfl w.heap.size rfl _ 64 strS (secA_size _) hz)
  simp only [List.setIfInBounds_toArray, List.set_cons_zero, List.set_cons_succ]
  refine takeH (i := 1) (d := 35) (v := ?vftl1) rfl (by kernel_rfl) (by kernel_rfl) (by kernel_rfl) (fun _ _ _ h => h) rfl (by rfl) ?yftl1 hS ?rftl1
  case yftl1 => (intro wz hz; go_simp <;> with_reducible rfl)
  simp only [List.setIfInBounds_toArray, List.set_cons_zero, List.set_cons_succ]
  refine takeH (i := 2) (d := 36) (v := ?vftl2) rfl (by kernel_rfl) (by kernel_rfl) (by kernel_rfl) (fun _ _ _ h => h) rfl (by rfl) ?yftl2 hS ?rftl2
  case yftl2 => (intro wz hz; go_simp <;> with_reducible rfl)
  simp only [List.setIfInBounds_toArray, List.set_cons_zero, List.set_cons_succ]
  refine takeH (i := 3) (d := 37) (v := ?vftl3) rfl (by kernel_rfl) (by kernel_rfl) (by kernel_rfl) (fun _ _ _ h => h) rfl (by rfl) ?yftl3 hS ?rftl3
  case yftl3 => (intro wz hz; go_simp <;> with_reducible rfl)
  simp only [List.setIfInBounds_toArray, List.set_cons_zero, List.set_cons_succ]
  refine takeH (i := 4) (d := 38) (v := ?vftl4) rfl (by kernel_rfl) (by kernel_rfl) (by kernel_rfl) (fun _ _ _ h => h) rfl (by rfl) ?yftl4 hS ?rftl4
  case yftl4 => (intro wz hz; go_simp <;> with_reducible rfl)
  simp only [List.setIfInBounds_toArray, List.set_cons_zero, List.set_cons_succ]
  refine wpAnyH_ready (rs := [5]) (by kernel_rfl) (by simp) ?_
  refine AllReadyH.cons rfl (fun K hK => ?_) AllReadyH.nil
  go_simp
  refine (sectorOf_any false true _ n 54 m _ sh _ LZ.out (Nat.le_refl _) hn hm).mono ?_
  rintro e z1 ⟨rfl, hb⟩
  have L1 := Lib.hid (LZ.out.under hb)
  have B2 := Lib.hid (BZ.out.trans (hb.mono BZ.out.size))
  have hs1 := hb.size
  refine hK.out _ _ (hS.under hb hS.lt) (fun hT => ?_)
  clear hK hb hS
  have hS := hT
  clear hT
  refine takeH (i := 6) (d := 40) (v := .bool (!(secOf sh m false true == secOf sh m false true))) rfl (by kernel_rfl) (by kernel_rfl) (by kernel_rfl) (fun _ _ _ h => h) rfl (by rfl) ?yftl6 hS ?rftl6
  case yftl6 => (intro wz hz; exact exec_neq (.tmp 34) (.tmp 39) rfl (secOf sh m false true) (secOf sh m false true) _ rfl rfl)
  simp only [List.setIfInBounds_toArray, List.set_cons_zero, List.set_cons_succ]
  refine wpAnyH_done (by kernel_rfl) ?_ _
  have L2 := Lib.hid (L1.out.up hs1)
  rw [show (!(secOf sh m false true == secOf sh m false true)) = false by simp]
  clear hS hs1
  go_wp2_with fail
  go_ret3
  exact ⟨_, rfl, L2.out, B2.out⟩

set_option maxHeartbeats 800000 in
theorem share_tts (n m : Nat) (sh : List UInt8) (w : World) (hl : sh.length = n) (h1 : 1 ≤ n) (hn : n ≤ 54) (hx : n < 54) (hm : m < 18446744073709551616) :
    Calls Tryd.prog 48 #[.agg (secA (secOf sh m true true)), .int .u64 m, .bool true] w (YesS w n sh true) := by
  have B1 := Lib.hid ((Below.refl w.heap.size w).alloc (Nat.le_refl _) (.cells (secA (secOf sh m true true)) 68))
  have R := At.new w 68 (secA (secOf sh m true true))
  have c8 := R.cell 8
  have c9 := R.cell 9
  rw [sec_of8 _ _ _ _ (by omega)] at c8
  rw [sec_of9 _ _ _ _ (by omega), hl] at c9
  have HR := Lib.hid R
  have HL := Lib.hid hl
  clear R hl
  have d1 : decide ((n : Int) < 1) = false := by simp; omega
  have d2 : decide ((54 : Int) < (n : Int)) = false := by simp; omega
  have d3 : decide ((n : Int) < 54) = true := by simp; omega
  have hcut : ∀ W : World, (Instr.sliceAt 68 (.pointer (some ⟨w.heap.size, 0, none⟩)) (some (.int .i64 (10 : Int))) (some (.int .i64 (10 + (n : Int)))) none).run Tryd.prog W = .ok (.slice (some ⟨w.heap.size, 10, none⟩) n 54) W := fun W => by
    have := run_sliceAt_array_lh (P := Tryd.prog) W 68 ⟨w.heap.size, 0, none⟩ undS .i64 .i64 (10 : Int) (10 + (n : Int)) (by omega) (by omega) (by rw [alenS]; omega)
    rw [this]
    have e : (10 + (n : Int)).toNat = 10 + n := by omega
    simp [slicedAt, add_plain, e, go_sem]
  have hbits : bits BinOp.and IntKind.u8 ((flagN true true : Nat) : Int) 2 = 2 := by decide +kernel
  have LS := Lib.hid (share_lies HL.out hn HR.out)
  generalize ((flagN true true : Nat) : Int) = fg at *
  go_enter Tryd.func48, Tryd.ntmps48
  go_wp2_with fail
  refine wp_region_held_drew (S := fun z => At z w.heap.size 68 (secA (secOf sh m true true))) (by kernel_rfl) (HR.out.under (Below.refl _ _).drew HR.out.lt) (fun hS => ?_)
  have LZ := Lib.hid (LS.out.under (Below.refl _ _).drew)
  have BZ := Lib.hid B1.out.drew
  have hzs : (w.alloc (.cells (secA (secOf sh m true true)) 68)).heap.size = (w.alloc (.cells (secA (secOf sh m true true)) 68)).drew.heap.size := rfl
  rw [hzs] at LZ
  clear hzs
  generalize (w.alloc (.cells (secA (secOf sh m true true)) 68)).drew = z0 at *
  refine takeH (i := 0) (d := 34) (v := .agg (secA (secOf sh m true true))) rfl (by kernel_rfl) (by kernel_rfl) (by kernel_rfl) (fun _ _ _ h => h) rfl (by rfl) ?ytts0 hS ?rtts0
  case ytts0 => (intro wz hz; exact exec_load_at 68 (.tmp 3) rfl w.heap.size rfl _ 64 strS (secA_size _) hz)
  simp only [List.setIfInBounds_toArray, List.set_cons_zero, List.set_cons_succ]
  refine takeH (i := 1) (d := 35) (v := ?vtts1) rfl (by kernel_rfl) (by kernel_rfl) (by kernel_rfl) (fun _ _ _ h => h) rfl (by rfl) ?ytts1 hS ?rtts1
  case ytts1 => (intro wz hz; go_simp <;> with_reducible rfl)
  simp only [List.setIfInBounds_toArray, List.set_cons_zero, List.set_cons_succ]
  refine takeH (i := 2) (d := 36) (v := ?vtts2) rfl (by kernel_rfl) (by kernel_rfl) (by kernel_rfl) (fun _ _ _ h => h) rfl (by rfl) ?ytts2 hS ?rtts2
  case ytts2 => (intro wz hz; go_simp <;> with_reducible rfl)
  simp only [List.setIfInBounds_toArray, List.set_cons_zero, List.set_cons_succ]
  refine takeH (i := 3) (d := 37) (v := ?vtts3) rfl (by kernel_rfl) (by kernel_rfl) (by kernel_rfl) (fun _ _ _ h => h) rfl (by rfl) ?ytts3 hS ?rtts3
  case ytts3 => (intro wz hz; go_simp <;> with_reducible rfl)
  simp only [List.setIfInBounds_toArray, List.set_cons_zero, List.set_cons_succ]
  refine takeH (i := 4) (d := 38) (v := ?vtts4) rfl (by kernel_rfl) (by kernel_rfl) (by kernel_rfl) (fun _ _ _ h => h) rfl (by rfl) ?ytts4 hS ?rtts4
  case ytts4 => (intro wz hz; go_simp <;> with_reducible rfl)
  simp only [List.setIfInBounds_toArray, List.set_cons_zero, List.set_cons_succ]
  refine wpAnyH_ready (rs := [5]) (by kernel_rfl) (by simp) ?_
  refine AllReadyH.cons rfl (fun K hK => ?_) AllReadyH.nil
  go_simp
  refine (sectorOf_any true true _ n 54 m _ sh _ LZ.out (Nat.le_refl _) hn hm).mono ?_
  rintro e z1 ⟨rfl, hb⟩
  have L1 := Lib.hid (LZ.out.under hb)
  have B2 := Lib.hid (BZ.out.trans (hb.mono BZ.out.size))
  have hs1 := hb.size
  refine hK.out _ _ (hS.under hb hS.lt) (fun hT => ?_)
  clear hK hb hS
  have hS := hT
  clear hT
  refine takeH (i := 6) (d := 40) (v := .bool (!(secOf sh m true true == secOf sh m true true))) rfl (by kernel_rfl) (by kernel_rfl) (by kernel_rfl) (fun _ _ _ h => h) rfl (by rfl) ?ytts6 hS ?rtts6
  case ytts6 => (intro wz hz; exact exec_neq (.tmp 34) (.tmp 39) rfl (secOf sh m true true) (secOf sh m true true) _ rfl rfl)
  simp only [List.setIfInBounds_toArray, List.set_cons_zero, List.set_cons_succ]
  refine wpAnyH_done (by kernel_rfl) ?_ _
  have L2 := Lib.hid (L1.out.up hs1)
  rw [show (!(secOf sh m true true == secOf sh m true true)) = false by simp]
  clear hS hs1
  go_wp2_with fail
  go_ret3
  exact ⟨_, rfl, L2.out, B2.out⟩

set_option maxHeartbeats 800000 in
theorem share_ttl (n m : Nat) (sh : List UInt8) (w : World) (hl : sh.length = n) (h1 : 1 ≤ n) (hn : n ≤ 54) (hx : 54 ≤ n) (hm : m < 18446744073709551616) :
    Calls Tryd.prog 48 #[.agg (secA (secOf sh m true true)), .int .u64 m, .bool true] w (YesS w n sh true) := by
  have B1 := Lib.hid ((Below.refl w.heap.size w).alloc (Nat.le_refl _) (.cells (secA (secOf sh m true true)) 68))
  have R := At.new w 68 (secA (secOf sh m true true))
  have c8 := R.cell 8
  have c9 := R.cell 9
  rw [sec_of8 _ _ _ _ (by omega)] at c8
  rw [sec_of9 _ _ _ _ (by omega), hl] at c9
  have HR := Lib.hid R
  have HL := Lib.hid hl
  clear R hl
  have d1 : decide ((n : Int) < 1) = false := by simp; omega
  have d2 : decide ((54 : Int) < (n : Int)) = false := by simp; omega
  have d3 : decide ((n : Int) < 54) = false := by simp; omega
  have hcut : ∀ W : World, (Instr.sliceAt 68 (.pointer (some ⟨w.heap.size, 0, none⟩)) (some (.int .i64 (10 : Int))) (some (.int .i64 (10 + (n : Int)))) none).run Tryd.prog W = .ok (.slice (some ⟨w.heap.size, 10, none⟩) n 54) W := fun W => by
    have := run_sliceAt_array_lh (P := Tryd.prog) W 68 ⟨w.heap.size, 0, none⟩ undS .i64 .i64 (10 : Int) (10 + (n : Int)) (by omega) (by omega) (by rw [alenS]; omega)
    rw [this]
    have e : (10 + (n : Int)).toNat = 10 + n := by omega
    simp [slicedAt, add_plain, e, go_sem]
  have hbits : bits BinOp.and IntKind.u8 ((flagN true true : Nat) : Int) 2 = 2 := by decide +kernel
  have LS := Lib.hid (share_lies HL.out hn HR.out)
  generalize ((flagN true true : Nat) : Int) = fg at *
  go_enter Tryd.func48, Tryd.ntmps48
  go_wp2_with fail
  refine wp_region_held_drew (S := fun z => At z w.heap.size 68 (secA (secOf sh m true true))) (by kernel_rfl) (HR.out.under (Below.refl _ _).drew HR.out.lt) (fun hS => ?_)
  have LZ := Lib.hid (LS.out.under (Below.refl _ _).drew)
  have BZ := Lib.hid B1.out.drew
  have hzs : (w.alloc (.cells (secA (secOf sh m true true)) 68)).heap.size = (w.alloc (.cells (secA (secOf sh m true true)) 68)).drew.heap.size := rfl
  rw [hzs] at LZ
  clear hzs
  generalize (w.alloc (.cells (secA (secOf sh m true true)) 68)).drew = z0 at *
  refine takeH (i := 0) (d := 34) (v := .agg (secA (secOf sh m true true))) rfl (by kernel_rfl) (by kernel_rfl) (by kernel_rfl) (fun _ _ _ h => h) rfl (by rfl) ?yttl0 hS ?rttl0
  case yttl0 => (intro wz hz; exact exec_load_at 68 (.tmp 3) rfl w.heap.size rfl _ 64 strS (secA_size _) hz)
  simp only [List.setIfInBounds_toArray, List.set_cons_zero, List.set_cons_succ]
  refine takeH (i := 1) (d := 35) (v := ?vttl1) rfl (by kernel_rfl) (by kernel_rfl) (by kernel_rfl) (fun _ _ _ h => h) rfl (by rfl) ?yttl1 hS ?rttl1
  case yttl1 => (intro wz hz; go_simp <;> with_reducible rfl)
  simp only [List.setIfInBounds_toArray, List.set_cons_zero, List.set_cons_succ]
  refine takeH (i := 2) (d := 36) (v := ?vttl2) rfl (by kernel_rfl) (by kernel_rfl) (by kernel_rfl) (fun _ _ _ h => h) rfl (by rfl) ?yttl2 hS ?rttl2
  case yttl2 => (intro wz hz; go_simp <;> with_reducible rfl)
  simp only [List.setIfInBounds_toArray, List.set_cons_zero, List.set_cons_succ]
  refine takeH (i := 3) (d := 37) (v := ?vttl3) rfl (by kernel_rfl) (by kernel_rfl) (by kernel_rfl) (fun _ _ _ h => h) rfl (by rfl) ?yttl3 hS ?rttl3
  case yttl3 => (intro wz hz; go_simp <;> with_reducible rfl)
  simp only [List.setIfInBounds_toArray, List.set_cons_zero, List.set_cons_succ]
  refine takeH (i := 4) (d := 38) (v := ?vttl4) rfl (by kernel_rfl) (by kernel_rfl) (by kernel_rfl) (fun _ _ _ h => h) rfl (by rfl) ?yttl4 hS ?rttl4
  case yttl4 => (intro wz hz; go_simp <;> with_reducible rfl)
  simp only [List.setIfInBounds_toArray, List.set_cons_zero, List.set_cons_succ]
  refine wpAnyH_ready (rs := [5]) (by kernel_rfl) (by simp) ?_
  refine AllReadyH.cons rfl (fun K hK => ?_) AllReadyH.nil
  go_simp
  refine (sectorOf_any true true _ n 54 m _ sh _ LZ.out (Nat.le_refl _) hn hm).mono ?_
  rintro e z1 ⟨rfl, hb⟩
  have L1 := Lib.hid (LZ.out.under hb)
  have B2 := Lib.hid (BZ.out.trans (hb.mono BZ.out.size))
  have hs1 := hb.size
  refine hK.out _ _ (hS.under hb hS.lt) (fun hT => ?_)
  clear hK hb hS
  have hS := hT
  clear hT
  refine takeH (i := 6) (d := 40) (v := .bool (!(secOf sh m true true == secOf sh m true true))) rfl (by kernel_rfl) (by kernel_rfl) (by kernel_rfl) (fun _ _ _ h => h) rfl (by rfl) ?yttl6 hS ?rttl6
  case yttl6 => (intro wz hz; exact exec_neq (.tmp 34) (.tmp 39) rfl (secOf sh m true true) (secOf sh m true true) _ rfl rfl)
  simp only [List.setIfInBounds_toArray, List.set_cons_zero, List.set_cons_succ]
  refine wpAnyH_done (by kernel_rfl) ?_ _
  have L2 := Lib.hid (L1.out.up hs1)
  rw [show (!(secOf sh m true true == secOf sh m true true)) = false by simp]
  clear hS hs1
  go_wp2_with fail
  go_ret3
  exact ⟨_, rfl, L2.out, B2.out⟩

set_option maxHeartbeats 800000 in
theorem share_ff (n m : Nat) (sh : List UInt8) (w : World) (hl : sh.length = n) (h1 : 1 ≤ n) (hn : n ≤ 54) (hx : 54 ≤ n) (hm : m < 18446744073709551616) :
    Calls Tryd.prog 48 #[.agg (secA (secOf sh m false false)), .int .u64 m, .bool false] w (YesS w n sh false) := by
  have B1 := Lib.hid ((Below.refl w.heap.size w).alloc (Nat.le_refl _) (.cells (secA (secOf sh m false false)) 68))
  have R := At.new w 68 (secA (secOf sh m false false))
  have c8 := R.cell 8
  have c9 := R.cell 9
  rw [sec_of8 _ _ _ _ (by omega)] at c8
  rw [sec_of9 _ _ _ _ (by omega), hl] at c9
  have HR := Lib.hid R
  have HL := Lib.hid hl
  clear R hl
  have d1 : decide ((n : Int) < 1) = false := by simp; omega
  have d2 : decide ((54 : Int) < (n : Int)) = false := by simp; omega
  have d3 : decide ((n : Int) < 54) = false := by simp; omega
  have hcut : ∀ W : World, (Instr.sliceAt 68 (.pointer (some ⟨w.heap.size, 0, none⟩)) (some (.int .i64 (10 : Int))) (some (.int .i64 (10 + (n : Int)))) none).run Tryd.prog W = .ok (.slice (some ⟨w.heap.size, 10, none⟩) n 54) W := fun W => by
    have := run_sliceAt_array_lh (P := Tryd.prog) W 68 ⟨w.heap.size, 0, none⟩ undS .i64 .i64 (10 : Int) (10 + (n : Int)) (by omega) (by omega) (by rw [alenS]; omega)
    rw [this]
    have e : (10 + (n : Int)).toNat = 10 + n := by omega
    simp [slicedAt, add_plain, e, go_sem]
  have hbits : bits BinOp.and IntKind.u8 ((flagN false false : Nat) : Int) 2 = 0 := by decide +kernel
  have LS := Lib.hid (share_lies HL.out hn HR.out)
  generalize ((flagN false false : Nat) : Int) = fg at *
  go_enter Tryd.func48, Tryd.ntmps48
  go_wp2_with fail
  refine wp_region_held_drew (S := fun z => At z w.heap.size 68 (secA (secOf sh m false false))) (by kernel_rfl) (HR.out.under (Below.refl _ _).drew HR.out.lt) (fun hS => ?_)
  have LZ := Lib.hid (LS.out.under (Below.refl _ _).drew)
  have BZ := Lib.hid B1.out.drew
  have hzs : (w.alloc (.cells (secA (secOf sh m false false)) 68)).heap.size = (w.alloc (.cells (secA (secOf sh m false false)) 68)).drew.heap.size := rfl
  rw [hzs] at LZ
  clear hzs
  generalize (w.alloc (.cells (secA (secOf sh m false false)) 68)).drew = z0 at *
  refine takeH (i := 0) (d := 34) (v := .agg (secA (secOf sh m false false))) rfl (by kernel_rfl) (by kernel_rfl) (by kernel_rfl) (fun _ _ _ h => h) rfl (by rfl) ?yff0 hS ?rff0
  case yff0 => (intro wz hz; exact exec_load_at 68 (.tmp 3) rfl w.heap.size rfl _ 64 strS (secA_size _) hz)
  simp only [List.setIfInBounds_toArray, List.set_cons_zero, List.set_cons_succ]
  refine takeH (i := 1) (d := 35) (v := ?vff1) rfl (by kernel_rfl) (by kernel_rfl) (by kernel_rfl) (fun _ _ _ h => h) rfl (by rfl) ?yff1 hS ?rff1
  case yff1 => (intro wz hz; go_simp <;> with_reducible rfl)
  simp only [List.setIfInBounds_toArray, List.set_cons_zero, List.set_cons_succ]
  refine takeH (i := 2) (d := 36) (v := ?vff2) rfl (by kernel_rfl) (by kernel_rfl) (by kernel_rfl) (fun _ _ _ h => h) rfl (by rfl) ?yff2 hS ?rff2
  case yff2 => (intro wz hz; go_simp <;> with_reducible rfl)
  simp only [List.setIfInBounds_toArray, List.set_cons_zero, List.set_cons_succ]
  refine takeH (i := 3) (d := 37) (v := ?vff3) rfl (by kernel_rfl) (by kernel_rfl) (by kernel_rfl) (fun _ _ _ h => h) rfl (by rfl) ?yff3 hS ?rff3
  case yff3 => (intro wz hz; go_simp <;> with_reducible rfl)
  simp only [List.setIfInBounds_toArray, List.set_cons_zero, List.set_cons_succ]
  refine takeH (i := 4) (d := 38) (v := ?vff4) rfl (by kernel_rfl) (by kernel_rfl) (by kernel_rfl) (fun _ _ _ h => h) rfl (by rfl) ?yff4 hS ?rff4
  case yff4 => (intro wz hz; go_simp <;> with_reducible rfl)
  simp only [List.setIfInBounds_toArray, List.set_cons_zero, List.set_cons_succ]
  refine wpAnyH_ready (rs := [5]) (by kernel_rfl) (by simp) ?_
  refine AllReadyH.cons rfl (fun K hK => ?_) AllReadyH.nil
  go_simp
  refine (sectorOf_any false false _ n 54 m _ sh _ LZ.out (Nat.le_refl _) hn hm).mono ?_
  rintro e z1 ⟨rfl, hb⟩
  have L1 := Lib.hid (LZ.out.under hb)
  have B2 := Lib.hid (BZ.out.trans (hb.mono BZ.out.size))
  have hs1 := hb.size
  refine hK.out _ _ (hS.under hb hS.lt) (fun hT => ?_)
  clear hK hb hS
  have hS := hT
  clear hT
  refine takeH (i := 6) (d := 40) (v := .bool (!(secOf sh m false false == secOf sh m false false))) rfl (by kernel_rfl) (by kernel_rfl) (by kernel_rfl) (fun _ _ _ h => h) rfl (by rfl) ?yff6 hS ?rff6
  case yff6 => (intro wz hz; exact exec_neq (.tmp 34) (.tmp 39) rfl (secOf sh m false false) (secOf sh m false false) _ rfl rfl)
  simp only [List.setIfInBounds_toArray, List.set_cons_zero, List.set_cons_succ]
  refine wpAnyH_done (by kernel_rfl) ?_ _
  have L2 := Lib.hid (L1.out.up hs1)
  rw [show (!(secOf sh m false false == secOf sh m false false)) = false by simp]
  clear hS hs1
  go_wp2_with fail
  go_ret3
  exact ⟨_, rfl, L2.out, B2.out⟩

set_option maxHeartbeats 800000 in
theorem share_tf (n m : Nat) (sh : List UInt8) (w : World) (hl : sh.length = n) (h1 : 1 ≤ n) (hn : n ≤ 54) (hx : 54 ≤ n) (hm : m < 18446744073709551616) :
    Calls Tryd.prog 48 #[.agg (secA (secOf sh m true false)), .int .u64 m, .bool true] w (YesS w n sh false) := by
  have B1 := Lib.hid ((Below.refl w.heap.size w).alloc (Nat.le_refl _) (.cells (secA (secOf sh m true false)) 68))
  have R := At.new w 68 (secA (secOf sh m true false))
  have c8 := R.cell 8
  have c9 := R.cell 9
  rw [sec_of8 _ _ _ _ (by omega)] at c8
  rw [sec_of9 _ _ _ _ (by omega), hl] at c9
  have HR := Lib.hid R
  have HL := Lib.hid hl
  clear R hl
  have d1 : decide ((n : Int) < 1) = false := by simp; omega
  have d2 : decide ((54 : Int) < (n : Int)) = false := by simp; omega
  have d3 : decide ((n : Int) < 54) = false := by simp; omega
  have hcut : ∀ W : World, (Instr.sliceAt 68 (.pointer (some ⟨w.heap.size, 0, none⟩)) (some (.int .i64 (10 : Int))) (some (.int .i64 (10 + (n : Int)))) none).run Tryd.prog W = .ok (.slice (some ⟨w.heap.size, 10, none⟩) n 54) W := fun W => by
    have := run_sliceAt_array_lh (P := Tryd.prog) W 68 ⟨w.heap.size, 0, none⟩ undS .i64 .i64 (10 : Int) (10 + (n : Int)) (by omega) (by omega) (by rw [alenS]; omega)
    rw [this]
    have e : (10 + (n : Int)).toNat = 10 + n := by omega
    simp [slicedAt, add_plain, e, go_sem]
  have hbits : bits BinOp.and IntKind.u8 ((flagN true false : Nat) : Int) 2 = 0 := by decide +kernel
  have LS := Lib.hid (share_lies HL.out hn HR.out)
  generalize ((flagN true false : Nat) : Int) = fg at *
  go_enter Tryd.func48, Tryd.ntmps48
  go_wp2_with fail
  refine wp_region_held_drew (S := fun z => At z w.heap.size 68 (secA (secOf sh m true false))) (by kernel_rfl) (HR.out.under (Below.refl _ _).drew HR.out.lt) (fun hS => ?_)
  have LZ := Lib.hid (LS.out.under (Below.refl _ _).drew)
  have BZ := Lib.hid B1.out.drew
  have hzs : (w.alloc (.cells (secA (secOf sh m true false)) 68)).heap.size = (w.alloc (.cells (secA (secOf sh m true false)) 68)).drew.heap.size := rfl
  rw [hzs] at LZ
  clear hzs
  generalize (w.alloc (.cells (secA (secOf sh m true false)) 68)).drew = z0 at *
  refine takeH (i := 0) (d := 34) (v := .agg (secA (secOf sh m true false))) rfl (by kernel_rfl) (by kernel_rfl) (by kernel_rfl) (fun _ _ _ h => h) rfl (by rfl) ?ytf0 hS ?rtf0
  case ytf0 => (intro wz hz; exact exec_load_at 68 (.tmp 3) rfl w.heap.size rfl _ 64 strS (secA_size _) hz)
  simp only [List.setIfInBounds_toArray, List.set_cons_zero, List.set_cons_succ]
  refine takeH (i := 1) (d := 35) (v := ?vtf1) rfl (by kernel_rfl) (by kernel_rfl) (by kernel_rfl) (fun _ _ _ h => h) rfl (by rfl) ?ytf1 hS ?rtf1
  case ytf1 => (intro wz hz; go_simp <;> with_reducible rfl)
  simp only [List.setIfInBounds_toArray, List.set_cons_zero, List.set_cons_succ]
  refine takeH (i := 2) (d := 36) (v := ?vtf2) rfl (by kernel_rfl) (by kernel_rfl) (by kernel_rfl) (fun _ _ _ h => h) rfl (by rfl) ?ytf2 hS ?rtf2
  case ytf2 => (intro wz hz; go_simp <;> with_reducible rfl)
  simp only [List.setIfInBounds_toArray, List.set_cons_zero, List.set_cons_succ]
  refine takeH (i := 3) (d := 37) (v := ?vtf3) rfl (by kernel_rfl) (by kernel_rfl) (by kernel_rfl) (fun _ _ _ h => h) rfl (by rfl) ?ytf3 hS ?rtf3
  case ytf3 => (intro wz hz; go_simp <;> with_reducible rfl)
  simp only [List.setIfInBounds_toArray, List.set_cons_zero, List.set_cons_succ]
  refine takeH (i := 4) (d := 38) (v := ?vtf4) rfl (by kernel_rfl) (by kernel_rfl) (by kernel_rfl) (fun _ _ _ h => h) rfl (by rfl) ?ytf4 hS ?rtf4
  case ytf4 => (intro wz hz; go_simp <;> with_reducible rfl)
  simp only [List.setIfInBounds_toArray, List.set_cons_zero, List.set_cons_succ]
  refine wpAnyH_ready (rs := [5]) (by kernel_rfl) (by simp) ?_
  refine AllReadyH.cons rfl (fun K hK => ?_) AllReadyH.nil
  go_simp
  refine (sectorOf_any true false _ n 54 m _ sh _ LZ.out (Nat.le_refl _) hn hm).mono ?_
  rintro e z1 ⟨rfl, hb⟩
  have L1 := Lib.hid (LZ.out.under hb)
  have B2 := Lib.hid (BZ.out.trans (hb.mono BZ.out.size))
  have hs1 := hb.size
  refine hK.out _ _ (hS.under hb hS.lt) (fun hT => ?_)
  clear hK hb hS
  have hS := hT
  clear hT
  refine takeH (i := 6) (d := 40) (v := .bool (!(secOf sh m true false == secOf sh m true false))) rfl (by kernel_rfl) (by kernel_rfl) (by kernel_rfl) (fun _ _ _ h => h) rfl (by rfl) ?ytf6 hS ?rtf6
  case ytf6 => (intro wz hz; exact exec_neq (.tmp 34) (.tmp 39) rfl (secOf sh m true false) (secOf sh m true false) _ rfl rfl)
  simp only [List.setIfInBounds_toArray, List.set_cons_zero, List.set_cons_succ]
  refine wpAnyH_done (by kernel_rfl) ?_ _
  have L2 := Lib.hid (L1.out.up hs1)
  rw [show (!(secOf sh m true false == secOf sh m true false)) = false by simp]
  clear hS hs1
  go_wp2_with fail
  go_ret3
  exact ⟨_, rfl, L2.out, B2.out⟩

theorem share_any (n m : Nat) (sh : List UInt8) (f l : Bool) (w : World) (hl : sh.length = n) (h1 : 1 ≤ n) (hn : n ≤ 54) (hx : l = false → 54 ≤ n) (hm : m < 18446744073709551616) :
    Calls Tryd.prog 48 #[.agg (secA (secOf sh m f l)), .int .u64 m, .bool f] w (YesS w n sh l) := by
  cases f <;> cases l
  · exact share_ff n m sh w hl h1 hn (hx rfl) hm
  · by_cases h : n < 54
    · exact share_fts n m sh w hl h1 hn h hm
    · exact share_ftl n m sh w hl h1 hn (by omega) hm
  · exact share_tf n m sh w hl h1 hn (hx rfl) hm
  · by_cases h : n < 54
    · exact share_tts n m sh w hl h1 hn h hm
    · exact share_ttl n m sh w hl h1 hn (by omega) hm
end Go.Proofs.YthicidpdgggbjaaDoor
