/-
  The walks of wal.Sectors and wal.sectorOf; copy of bytes and the store of one cell into a block of cells.
  Conditions: shares of at most 54 bytes, numbers below 2 to the 64.
-/
import Derived.Test.YthicidpdgggbjaaDoorQ2
import Derived.Test.YthicidpdgggbjaaDoorT7Q
import Derived.Test.YthicidpdgggbjaaDoorPB5Q
import Derived.Deep.CutRange
import Derived.Deep.DeepCutAuto
import Derived.BigQuiet
namespace Go.Proofs.YthicidpdgggbjaaDoor
open Go.RowKit
set_option maxRecDepth 8000

/-! ### Cells -/
section
variable {ops : Array Oper} {rest : List Oper} {op : Oper} {a : Act} {w : World} {K : Act → World → Prop} {Q : Exit → Act → World → Prop}
theorem run_copy_at {g off dn dc n c B : Nat} {A : Option Addr} {l : List UInt8} {cur : List Value} {t ty : TypeId} (hg : At w g t cur.toArray) (hl : Lies w B 1 A n (BC l)) (hn : n ≤ dn) (hfit : off + n ≤ cur.length) :
    ∃ w', (Builtin.copy_ #[59, 59] ty #[.slice (some ⟨g, off, none⟩) dn dc, .slice A n c]).run Tryd.prog w = .ok (goInt n) w' ∧ At w' g t (splice cur off (BC l)).toArray ∧ w.grownBy w' (some g) := by
  have hln : l.length = n := by have := hl.len; rw [BC_length] at this; omega
  cases A with
  | none =>
    have h0 : n = 0 := by
      by_cases h0 : n = 0
      · exact h0
      · obtain ⟨a, ha, _⟩ := hl.spot (by omega)
        cases ha
    subst h0
    have : l = [] := List.eq_nil_of_length_eq_zero hln
    subst this
    refine ⟨w, ?_, ?_, grown_refl w _⟩
    · simp [Builtin.copy_, go_sem, goInt]
    · rw [show splice cur off (BC []) = cur by simp [splice, BC]]
      exact hg
  | some ad =>
    have hc : ∀ j v, (BC l)[j]? = some v → w.cell? (ad.add j) = some v := by
      intro j v hv
      have hj : j < n := by
        rcases Nat.lt_or_ge j n with hj | hj
        · exact hj
        · rw [List.getElem?_eq_none (by rw [BC_length]; omega)] at hv
          cases hv
      obtain ⟨a', ha, _, hx⟩ := hl.spot (by omega)
      cases ha
      exact hx j v hv
    have hr := run_copy_cells (P := Tryd.prog) w 59 59 ty 5 g off dn dc ad n c (BC l) Tryd.underlying59 u8_size (by rw [BC_length, hln]; exact (Nat.min_eq_left hn).symm) hc
      (fun j hj => by rw [BC_length] at hj; rw [hg.cell, Array.getElem?_eq_getElem (by rw [List.size_toArray]; omega)]; rfl) (fun j hj => hg.frozen _) (BC_one l)
    rw [BC_length, hln] at hr
    exact ⟨_, hr, setCells_row g t (BC l) off cur w hg (by rw [BC_length]; omega), grown_setCells w g off _⟩
theorem wp_copy_at (r : Nat) (d s : Operand) (hop : op.dst = some r) (ho : op.op = .call { callee := .builtin .copy, args := #[d, s], argTypes := #[59, 59] })
    (g off dn dc n c B : Nat) (A : Option Addr) (l : List UInt8) (cur : List Value) (t : TypeId) (hd : a.eval d = .slice (some ⟨g, off, none⟩) dn dc) (hs : a.eval s = .slice A n c)
    (hg : At w g t cur.toArray) (hl : Lies w B 1 A n (BC l)) (hn : n ≤ dn) (hfit : off + n ≤ cur.length)
    (h : ∀ w', At w' g t (splice cur off (BC l)).toArray → w.grownBy w' (some g) → K (a.put (some r) (goInt n)) w') : Oper.wp Tryd.prog op a w K Q := by
  obtain ⟨w', hr, h1, h2⟩ := run_copy_at (dc := dc) (c := c) (ty := op.type) hg hl hn hfit
  unfold Oper.wp
  simp [execOp, ho, resolve, invoke, builtin, hd, hs, hr, Result.andThen]
  simp only [Oper.upon]
  rw [hop]
  exact h _ h1 h2
theorem wpList_copy_at (r : Nat) (d s : Operand) (hop : op.dst = some r) (hgd : op.guard = none) (ho : op.op = .call { callee := .builtin .copy, args := #[d, s], argTypes := #[59, 59] })
    (g off dn dc n c B : Nat) (A : Option Addr) (l : List UInt8) (cur : List Value) (t : TypeId) (hd : a.eval d = .slice (some ⟨g, off, none⟩) dn dc) (hs : a.eval s = .slice A n c)
    (hg : At w g t cur.toArray) (hl : Lies w B 1 A n (BC l)) (hn : n ≤ dn) (hfit : off + n ≤ cur.length)
    (h : ∀ w', At w' g t (splice cur off (BC l)).toArray → w.grownBy w' (some g) → wpList Tryd.prog ops Q rest (a.put (some r) (goInt n)) w') : wpList Tryd.prog ops Q (op :: rest) a w :=
  wpList_plain hgd fun _ hK => wp_copy_at r d s hop ho g off dn dc n c B A l cur t hd hs hg hl hn hfit fun w' h1 h2 => hK _ _ (h w' h1 h2)
theorem grown_setCell (w : World) (g k : Nat) (u : Value) : w.grownBy (w.setCell ⟨g, k, none⟩ u) (some g) :=
  ⟨rfl, rfl, rfl, by simp [World.setCell], fun j _ hj => Below.heap_setCell w ⟨g, k, none⟩ u j (fun e => hj (by rw [e]))⟩
theorem run_storeVar_cell (w : World) (b o : Nat) (ty : TypeId) (v : Value) (hc : ∃ u, w.cell? ⟨b, o, none⟩ = some u) (hf : w.frozen? ⟨b, o, none⟩ = false) (hi : (Tryd.prog.info? ty).map (·.size) = some 1) (h1 : v.oneCell' = true) :
    (storeVar ty ⟨b, o, none⟩ v).run Tryd.prog w = .ok () (w.setCell ⟨b, o, none⟩ v) := by
  obtain ⟨u, hu⟩ := hc
  have := run_storeCells_cells (P := Tryd.prog) b o [v] 0 w (fun j hj => by simp at hj; subst hj; simp [hu]) (fun j hj => by simp at hj; subst hj; simpa using hf) (fun x hx => by simp at hx; subst hx; exact h1)
  have hc : v.cells = #[v] := by cases v <;> first | rfl | cases h1
  cases hq : Tryd.prog.info? ty with
  | none => simp [hq] at hi
  | some i =>
    have hs : i.size = 1 := by simpa [hq] using hi
    simp only [Nat.add_zero] at this
    simp [storeVar, sizeOf, typeInfo, hq, hc, hs, this, World.setCells]
/-- A value of one cell goes into a cell of a block. -/
theorem wp_store_cell (ty : TypeId) (x y : Operand) (hop : op.dst = none) (ho : op.op = .store ty x y) (g k : Nat) (hx : a.eval x = .pointer (some ⟨g, k, none⟩)) (v : Value) (hy : a.eval y = v) (h1 : v.oneCell' = true) (hi : (Tryd.prog.info? ty).map (·.size) = some 1)
    (cs : Array Value) (t : TypeId) (hk : k < cs.size) (hg : At w g t cs) (h : ∀ w', At w' g t (cs.setIfInBounds k v) → w.grownBy w' (some g) → K (a.put none undef) w') : Oper.wp Tryd.prog op a w K Q := by
  unfold Oper.wp execOp
  simp only [ho, hx, hy, Instr.storeAt, Instr.sureAddr, Sem.run_bind, Sem.run_pure, Result.andThen_ok, run_storeVar_cell w g k ty v ⟨cs[k], by rw [hg.cell, Array.getElem?_eq_getElem hk]⟩ (hg.frozen k) hi h1]
  simp only [Oper.upon]
  rw [hop]
  exact h _ (hg.set k v) (grown_setCell w g k v)
theorem wpList_store_cell (ty : TypeId) (x y : Operand) (hop : op.dst = none) (hgd : op.guard = none) (ho : op.op = .store ty x y) (g k : Nat) (hx : a.eval x = .pointer (some ⟨g, k, none⟩)) (v : Value) (hy : a.eval y = v) (h1 : v.oneCell' = true) (hi : (Tryd.prog.info? ty).map (·.size) = some 1)
    (cs : Array Value) (t : TypeId) (hk : k < cs.size) (hg : At w g t cs) (h : ∀ w', At w' g t (cs.setIfInBounds k v) → w.grownBy w' (some g) → wpList Tryd.prog ops Q rest (a.put none undef) w') : wpList Tryd.prog ops Q (op :: rest) a w :=
  wpList_plain hgd fun _ hK => wp_store_cell ty x y hop ho g k hx v hy h1 hi cs t hk hg fun w' h1 h2 => hK _ _ (h w' h1 h2)
theorem grown_grown {w0 w1 w2 : World} {r : Option Nat} (h : w0.grownBy w1 r) (k : w1.grownBy w2 r) : w0.grownBy w2 r :=
  ⟨k.os.trans h.os, k.tape.trans h.tape, k.output.trans h.output, Nat.le_trans h.size k.size, fun j hj hr => (k.block j (Nat.lt_of_lt_of_le hj h.size) hr).trans (h.block j hj hr)⟩
theorem grown_ofBelow {w0 w1 : World} {r : Option Nat} (h : Below w0.heap.size w0 w1) : w0.grownBy w1 r := ⟨h.os, h.tape, h.output, h.size, fun j hj _ => h.block j hj⟩
end

/-! ### Sectors -/
set_option maxHeartbeats 400000 in
theorem sectors_any (n : Nat) (w : World) (hn : n ≤ 1000000) : Calls Tryd.prog 20 #[.int .i64 (n : Int)] w fun e w' => e = .returned (.int .i64 ((numSec n : Nat) : Int)) ∧ w = w' := by
  by_cases h0 : n = 0
  · subst h0
    go_enter Tryd.func20, Tryd.ntmps20
    go_wp2_with fail
    go_ret
    exact ⟨rfl, rfl⟩
  · obtain ⟨k, rfl⟩ : ∃ k, n = k + 1 := ⟨n - 1, by omega⟩
    have hd : decide (((k + 1 : Nat) : Int) < 1) = false := by simp; omega
    have hw : IntKind.i64.wrap (((k + 1 : Nat) : Int) - 1) = (k : Int) := by rw [IntKind.wrap_i64]; omega
    go_enter Tryd.func20, Tryd.ntmps20
    go_wp2_with fail
    go_ret
    refine ⟨?_, rfl⟩
    show Ending.returned (.int .i64 ((k : Int) / 54 + 1)) = _
    congr 2
    simp only [numSec]
    omega

/-! ### One sector -/
def S1 (m : Nat) (x y : Int) : List Value := BC (putL m 8) ++ (.int .u8 x :: .int .u8 y :: List.replicate 54 (.int .u8 0))
theorem S1_length (m : Nat) (x y : Int) : (S1 m x y).length = 64 := by simp [S1, BC_length, putL_length]
theorem S1_zero (m : Nat) : splice (sec zsec) 0 (BC (putL m 8)) = S1 m 0 0 := by
  rw [sec_zero, splice, S1, BC_length, putL_length]
  simp
theorem S1_get8 (m : Nat) (x y : Int) : (S1 m x y)[8]? = some (.int .u8 x) := by
  rw [S1, List.getElem?_append_right (by simp [BC_length, putL_length])]
  simp [BC_length, putL_length]
theorem S1_set8 (m : Nat) (x y z : Int) : (S1 m x y).set 8 (.int .u8 z) = S1 m z y := by
  rw [S1, List.set_append_right _ _ (by simp [BC_length, putL_length])]
  simp [BC_length, putL_length, S1]
theorem S1_set9 (m : Nat) (x y z : Int) : (S1 m x y).set 9 (.int .u8 z) = S1 m x z := by
  rw [S1, List.set_append_right _ _ (by simp [BC_length, putL_length])]
  simp [BC_length, putL_length, S1]
theorem S1_fin (sh : List UInt8) (m : Nat) (f l : Bool) (h : sh.length ≤ 54) : splice (S1 m (flagN f l : Int) (sh.length : Int)) 10 (BC sh) = sec (secOf sh m f l) := by
  have e : S1 m (flagN f l : Int) (sh.length : Int) = (BC (putL m 8) ++ [.int .u8 (flagN f l : Int), .int .u8 (sh.length : Int)]) ++ List.replicate 54 (.int .u8 0) := by simp [S1]
  have hl : (BC (putL m 8) ++ [Value.int .u8 (flagN f l : Int), .int .u8 (sh.length : Int)]).length = 10 := by simp [BC_length, putL_length]
  rw [e, splice, BC_length, List.take_append_of_le_length (by omega), List.take_of_length_le (by omega), List.drop_append, List.drop_of_length_le (by omega), hl, sec, secOf_list m f l h, BC_CL, BC_CL, show 10 + sh.length - 10 = sh.length from by omega, List.drop_replicate]
  simp only [CL_append, CL_zero, List.append_assoc, List.nil_append]
  rfl
theorem At.eqL {w : World} {g : Nat} {t : TypeId} {a b : List Value} (h : At w g t a.toArray) (e : a = b) : At w g t b.toArray := by subst e; exact h
theorem alenS : Tryd.prog.arrayLen 68 = 64 := by kernel_rfl
theorem elemS : Tryd.prog.elem 68 = 5 := by kernel_rfl
theorem undS : Tryd.prog.underlying 68 = some (.array (Tryd.prog.arrayLen 68) (Tryd.prog.elem 68)) := by rw [alenS, elemS]; exact Tryd.underlying68
theorem exec_cut_all {op : Oper} {a : Act} {w : World} {g o : Nat} (x : Operand) (ho : op.op = .slice 68 x none none none) (hx : a.eval x = .pointer (some ⟨g, o, none⟩)) :
    (execOp a.eval op).run Tryd.prog w = .ok (.value (.slice (some ⟨g, o, none⟩) 64 64)) w := by
  unfold execOp
  simp [ho, hx, run_sliceAt_array_all (P := Tryd.prog) w 68 ⟨g, o, none⟩ undS, alenS, elemS, slicedAt, Addr.add]
theorem strS : Str 68 64 := ⟨_, Tryd.underlying68, rfl, arr_size⟩
/-- What a function hands back that returns a struct or an array out of a cell. -/
theorem results_at1 {fn : Func} {p : Tmp} {ty : TypeId} {tmps : Array Value} {w : World} {g n : Nat} {cs : Array Value} (hp : tmps.getD p undef = .pointer (some ⟨g, 0, none⟩)) (hc : At w g ty cs) (hs : Str ty n) (hn : cs.size = n)
    (h : fn.results = #[.cell p ty]) : (results fn tmps).run Tryd.prog w = .ok (.agg cs) w := by
  obtain ⟨ds, h1, h2, h3⟩ := hs
  have hp' : tmps[p]?.getD undef = .pointer (some ⟨g, 0, none⟩) := by simpa using hp
  have hl := run_loadVar_row w g ty ty cs (0, 0) ds hc h1 (by cases ds <;> first | rfl | cases h2) (by rw [hn]; exact h3)
  simp [results, h, hp', asAddr, hl]

/-- What stands while a sector is put together in block g + 1. -/
structure SecSt (w : World) (cur : List Value) (z : World) : Prop where
  r0 : At z w.heap.size 68 (secA zsec)
  r1 : At z (w.heap.size + 1) 68 cur.toArray
  b : Below w.heap.size w z
section
variable {w z z' : World} {cur cur' : List Value} {B n : Nat} {A : Option Addr} {xs : List Value}
theorem SecSt.call (h : SecSt w cur z) (hb : Below z.heap.size z z') : SecSt w cur z' := ⟨h.r0.under hb h.r0.lt, h.r1.under hb h.r1.lt, h.b.trans (hb.mono h.b.size)⟩
theorem SecSt.put (h : SecSt w cur z) (hg : z.grownBy z' (some (w.heap.size + 1))) (h1 : At z' (w.heap.size + 1) 68 cur'.toArray) : SecSt w cur' z' :=
  ⟨h.r0.grown hg (by intro e; injection e with e; omega), h1, h.b.grown hg h.b.size (fun k hk => by injection hk with hk; omega)⟩
theorem SecSt.set (h : SecSt w cur z) (k : Nat) (u : Value) {cur' : List Value} (e : cur.set k u = cur') : SecSt w cur' (z.setCell ⟨w.heap.size + 1, k, none⟩ u) := by
  have := h.r1.set k u
  rw [List.setIfInBounds_toArray, e] at this
  exact h.put (grown_setCell _ _ _ _) this
theorem SecSt.src (h : SecSt w cur z) (hl : Lies w B 1 A n xs) (hB : B ≤ w.heap.size) : Lies z B 1 A n xs := hl.under (h.b.mono hB)
theorem SecSt.lt (h : SecSt w cur z) : w.heap.size + 1 < z.heap.size := h.r1.lt
end
theorem SecSt.new (w : World) : SecSt w (sec zsec) ((w.alloc (.cells (secA zsec) 68)).alloc (.cells (secA zsec) 68)).drew := by
  refine ⟨(At.new w 68 (secA zsec)).alloc _, ?_, (((Below.refl w.heap.size w).alloc (Nat.le_refl _) (.cells (secA zsec) 68)).alloc (by simp) (.cells (secA zsec) 68)).drew⟩
  have R1 := At.new (w.alloc (.cells (secA zsec) 68)) 68 (secA zsec)
  rw [show (w.alloc (.cells (secA zsec) 68)).heap.size = w.heap.size + 1 by simp] at R1
  exact R1

set_option maxHeartbeats 800000 in
theorem sectorOf_ff (B n c m : Nat) (A : Option Addr) (sh : List UInt8) (w : World) (h : Lies w B 1 A n (BC sh)) (hB : B ≤ w.heap.size) (hn : n ≤ 54) (hm : m < 18446744073709551616) :
    Calls Tryd.prog 42 #[.slice A n c, .int .u64 m, .bool false, .bool false] w fun e w' => e = .returned (.agg (secA (secOf sh m false false))) ∧ Below w.heap.size w w' := by
  have hl : sh.length = n := by have := h.len; rw [BC_length] at this; omega
  have hzero := (zero_of_info pl_arr_info).1
  have hinfo := Lib.hid (zero_of_info pl_arr_info).2
  have hw8 : IntKind.u8.wrap (n : Int) = (n : Int) := by rw [IntKind.wrap_u8]; omega
  have HH := Lib.hid h
  have HL := Lib.hid hl
  have N0 := Lib.hid (SecSt.new w)
  clear h hl
  go_enter Tryd.func42, Tryd.ntmps42
  go_upto_region 2 with fail
  refine wp_region_held_drew (S := fun _ => True) (by kernel_rfl) trivial (fun hS => ?_)
  refine takeH (i := 0) (d := 10) (v := .slice (some ⟨w.heap.size + 1, 0, none⟩) 64 64) rfl (by kernel_rfl) (by kernel_rfl) (by kernel_rfl) (fun _ _ _ h => h) rfl (by rfl) ?yaff0 hS ?raff0
  case yaff0 => (intro wz hz; exact exec_cut_all (.tmp 9) rfl rfl)
  simp only [List.setIfInBounds_toArray, List.set_cons_zero, List.set_cons_succ]
  refine takeH (i := 1) (d := 11) (v := ?vaff1) rfl (by kernel_rfl) (by kernel_rfl) (by kernel_rfl) (fun _ _ _ h => h) rfl (by rfl) ?yaff1 hS ?raff1
  case yaff1 => (intro wz hz; go_simp <;> with_reducible rfl)
  simp only [List.setIfInBounds_toArray, List.set_cons_zero, List.set_cons_succ]
  refine wpAnyH_ready (rs := [2]) (by kernel_rfl) (by simp) ?_
  refine AllReadyH.cons rfl (fun K hK => ?_) AllReadyH.nil
  go_simp
  refine (wput_any 0 0 0 m none [] 8 _ Lies.empty (Nat.zero_le _) (by omega) hm (by omega) (by omega)).mono ?_
  rintro e w1 hr
  obtain ⟨A1, n1, c1, rfl, ho, hb⟩ := hr.n
  have hpl := own_n ho
  rw [List.nil_append, putL_length] at hpl
  obtain rfl : n1 = 8 := hpl.symm
  rw [List.nil_append] at ho
  have HO := Lib.hid (Lies.of_own ho)
  have N1 := Lib.hid (N0.out.call hb)
  clear ho hpl hr
  refine hK.out _ _ (trivial) (fun hT => ?_)
  clear hK hb hS
  have hS := hT
  clear hT
  refine wpAnyH_ready (rs := [3]) (by kernel_rfl) (by simp) ?_
  refine AllReadyH.cons rfl (fun K hK => ?_) AllReadyH.nil
  rw [if_pos (by rfl)]
  refine wp_copy_at 13 (.tmp 10) (.tmp 12) rfl rfl (w.heap.size + 1) 0 64 64 8 c1 _ A1 (putL m 8) (sec zsec) 68 rfl rfl N1.out.r1 HO.out (by omega) (by rw [sec_length]; omega) ?_
  intro w2 h2 g2
  have H2 := Lib.hid (N1.out.put g2 (h2.eqL (S1_zero m)))
  refine hK.out _ _ trivial (fun hT => ?_)
  clear hK hS h2 g2 hT
  refine wpAnyH_done (by kernel_rfl) ?_ _
  have HFT := Lib.hid (show 10 + n ≤ (S1 m 0 (n : Int)).length by rw [S1_length]; omega)
  have HFN : Hid (splice (S1 m 0 (n : Int)) 10 (BC sh) = sec (secOf sh m false false)) := by
    have := S1_fin sh m false false (by rw [HL.out]; exact hn)
    rw [HL.out] at this
    exact this
  have b8 := H2.out.r1.cell 8
  rw [List.getElem?_toArray, S1_get8] at b8
  go_wp2_with (first
    | (refine wpList_store_cell 5 (.tmp 27) (.tmp 26) rfl rfl rfl (w.heap.size + 1) 9 rfl (.int .u8 (n : Int)) rfl rfl (by kernel_rfl) (S1 m 0 0).toArray 68 (by rw [List.size_toArray, S1_length]; omega) H2.out.r1 ?_
       intro HNw HNh HNg
       rw [List.setIfInBounds_toArray, S1_set9] at HNh
       have HN := Lib.hid (H2.out.put HNg HNh)
       clear HNh HNg)
    | (refine wpList_copy_at 30 (.tmp 28) (.tmp 29) rfl rfl rfl (w.heap.size + 1) 10 54 54 n c B A sh (S1 m 0 (n : Int)) 68 rfl rfl HN.out.r1 (HN.out.src HH.out hB) hn HFT.out ?_
       intro w3 h3 g3
       have H3 := Lib.hid (HN.out.put g3 (h3.eqL HFN.out))
       clear h3 g3)
    | (refine wpList_load_at 68 31 (.tmp 9) rfl rfl rfl (w.heap.size + 1) rfl (secA (secOf sh m false false)) 64 strS (secA_size _) H3.out.r1 ?_)
    | (refine wpList_store_at 68 (.tmp 8) (.tmp 31) rfl rfl rfl w.heap.size rfl (secA (secOf sh m false false)) (secA zsec) 64 rfl strS (secA_size _) (secA_size _) (secA_one _) H3.out.r0 ?_; intro w4 h4 g4; have H4 := Lib.hid h4; have K4 := Lib.hid (H3.out.b.grown g4 H3.out.b.size (fun k hk => by injection hk with hk; omega)); clear h4 g4))
  refine bodyPost_ret (v := .agg (secA (secOf sh m false false))) (results_at1 rfl H4.out strS (secA_size _) Tryd.results42) rfl ⟨rfl, K4.out⟩

set_option maxHeartbeats 800000 in
theorem sectorOf_ft (B n c m : Nat) (A : Option Addr) (sh : List UInt8) (w : World) (h : Lies w B 1 A n (BC sh)) (hB : B ≤ w.heap.size) (hn : n ≤ 54) (hm : m < 18446744073709551616) :
    Calls Tryd.prog 42 #[.slice A n c, .int .u64 m, .bool false, .bool true] w fun e w' => e = .returned (.agg (secA (secOf sh m false true))) ∧ Below w.heap.size w w' := by
  have hl : sh.length = n := by have := h.len; rw [BC_length] at this; omega
  have hzero := (zero_of_info pl_arr_info).1
  have hinfo := Lib.hid (zero_of_info pl_arr_info).2
  have hw8 : IntKind.u8.wrap (n : Int) = (n : Int) := by rw [IntKind.wrap_u8]; omega
  have HH := Lib.hid h
  have HL := Lib.hid hl
  have N0 := Lib.hid (SecSt.new w)
  clear h hl
  go_enter Tryd.func42, Tryd.ntmps42
  go_upto_region 2 with fail
  refine wp_region_held_drew (S := fun _ => True) (by kernel_rfl) trivial (fun hS => ?_)
  refine takeH (i := 0) (d := 10) (v := .slice (some ⟨w.heap.size + 1, 0, none⟩) 64 64) rfl (by kernel_rfl) (by kernel_rfl) (by kernel_rfl) (fun _ _ _ h => h) rfl (by rfl) ?yaft0 hS ?raft0
  case yaft0 => (intro wz hz; exact exec_cut_all (.tmp 9) rfl rfl)
  simp only [List.setIfInBounds_toArray, List.set_cons_zero, List.set_cons_succ]
  refine takeH (i := 1) (d := 11) (v := ?vaft1) rfl (by kernel_rfl) (by kernel_rfl) (by kernel_rfl) (fun _ _ _ h => h) rfl (by rfl) ?yaft1 hS ?raft1
  case yaft1 => (intro wz hz; go_simp <;> with_reducible rfl)
  simp only [List.setIfInBounds_toArray, List.set_cons_zero, List.set_cons_succ]
  refine wpAnyH_ready (rs := [2]) (by kernel_rfl) (by simp) ?_
  refine AllReadyH.cons rfl (fun K hK => ?_) AllReadyH.nil
  go_simp
  refine (wput_any 0 0 0 m none [] 8 _ Lies.empty (Nat.zero_le _) (by omega) hm (by omega) (by omega)).mono ?_
  rintro e w1 hr
  obtain ⟨A1, n1, c1, rfl, ho, hb⟩ := hr.n
  have hpl := own_n ho
  rw [List.nil_append, putL_length] at hpl
  obtain rfl : n1 = 8 := hpl.symm
  rw [List.nil_append] at ho
  have HO := Lib.hid (Lies.of_own ho)
  have N1 := Lib.hid (N0.out.call hb)
  clear ho hpl hr
  refine hK.out _ _ (trivial) (fun hT => ?_)
  clear hK hb hS
  have hS := hT
  clear hT
  refine wpAnyH_ready (rs := [3]) (by kernel_rfl) (by simp) ?_
  refine AllReadyH.cons rfl (fun K hK => ?_) AllReadyH.nil
  rw [if_pos (by rfl)]
  refine wp_copy_at 13 (.tmp 10) (.tmp 12) rfl rfl (w.heap.size + 1) 0 64 64 8 c1 _ A1 (putL m 8) (sec zsec) 68 rfl rfl N1.out.r1 HO.out (by omega) (by rw [sec_length]; omega) ?_
  intro w2 h2 g2
  have H2 := Lib.hid (N1.out.put g2 (h2.eqL (S1_zero m)))
  refine hK.out _ _ trivial (fun hT => ?_)
  clear hK hS h2 g2 hT
  refine wpAnyH_done (by kernel_rfl) ?_ _
  have HFT := Lib.hid (show 10 + n ≤ (S1 m 2 (n : Int)).length by rw [S1_length]; omega)
  have HFN : Hid (splice (S1 m 2 (n : Int)) 10 (BC sh) = sec (secOf sh m false true)) := by
    have := S1_fin sh m false true (by rw [HL.out]; exact hn)
    rw [HL.out] at this
    exact this
  have b8 := H2.out.r1.cell 8
  rw [List.getElem?_toArray, S1_get8] at b8
  go_wp2_with (first
    | (refine wpList_store_cell 5 (.tmp 23) (.tmp 22) rfl rfl rfl (w.heap.size + 1) 8 rfl (.int .u8 2) rfl rfl (by kernel_rfl) (S1 m 0 0).toArray 68 (by rw [List.size_toArray, S1_length]; omega) H2.out.r1 ?_
       intro HGw HGh HGg
       rw [List.setIfInBounds_toArray, S1_set8] at HGh
       have HG := Lib.hid (H2.out.put HGg HGh)
       clear HGh HGg
       have b8 := HG.out.r1.cell 8
       rw [List.getElem?_toArray, S1_get8] at b8)
    | (refine wpList_store_cell 5 (.tmp 27) (.tmp 26) rfl rfl rfl (w.heap.size + 1) 9 rfl (.int .u8 (n : Int)) rfl rfl (by kernel_rfl) (S1 m 2 0).toArray 68 (by rw [List.size_toArray, S1_length]; omega) HG.out.r1 ?_
       intro HNw HNh HNg
       rw [List.setIfInBounds_toArray, S1_set9] at HNh
       have HN := Lib.hid (HG.out.put HNg HNh)
       clear HNh HNg)
    | (refine wpList_copy_at 30 (.tmp 28) (.tmp 29) rfl rfl rfl (w.heap.size + 1) 10 54 54 n c B A sh (S1 m 2 (n : Int)) 68 rfl rfl HN.out.r1 (HN.out.src HH.out hB) hn HFT.out ?_
       intro w3 h3 g3
       have H3 := Lib.hid (HN.out.put g3 (h3.eqL HFN.out))
       clear h3 g3)
    | (refine wpList_load_at 68 31 (.tmp 9) rfl rfl rfl (w.heap.size + 1) rfl (secA (secOf sh m false true)) 64 strS (secA_size _) H3.out.r1 ?_)
    | (refine wpList_store_at 68 (.tmp 8) (.tmp 31) rfl rfl rfl w.heap.size rfl (secA (secOf sh m false true)) (secA zsec) 64 rfl strS (secA_size _) (secA_size _) (secA_one _) H3.out.r0 ?_; intro w4 h4 g4; have H4 := Lib.hid h4; have K4 := Lib.hid (H3.out.b.grown g4 H3.out.b.size (fun k hk => by injection hk with hk; omega)); clear h4 g4))
  refine bodyPost_ret (v := .agg (secA (secOf sh m false true))) (results_at1 rfl H4.out strS (secA_size _) Tryd.results42) rfl ⟨rfl, K4.out⟩

set_option maxHeartbeats 800000 in
theorem sectorOf_tf (B n c m : Nat) (A : Option Addr) (sh : List UInt8) (w : World) (h : Lies w B 1 A n (BC sh)) (hB : B ≤ w.heap.size) (hn : n ≤ 54) (hm : m < 18446744073709551616) :
    Calls Tryd.prog 42 #[.slice A n c, .int .u64 m, .bool true, .bool false] w fun e w' => e = .returned (.agg (secA (secOf sh m true false))) ∧ Below w.heap.size w w' := by
  have hl : sh.length = n := by have := h.len; rw [BC_length] at this; omega
  have hzero := (zero_of_info pl_arr_info).1
  have hinfo := Lib.hid (zero_of_info pl_arr_info).2
  have hw8 : IntKind.u8.wrap (n : Int) = (n : Int) := by rw [IntKind.wrap_u8]; omega
  have HH := Lib.hid h
  have HL := Lib.hid hl
  have N0 := Lib.hid (SecSt.new w)
  clear h hl
  go_enter Tryd.func42, Tryd.ntmps42
  go_upto_region 2 with fail
  refine wp_region_held_drew (S := fun _ => True) (by kernel_rfl) trivial (fun hS => ?_)
  refine takeH (i := 0) (d := 10) (v := .slice (some ⟨w.heap.size + 1, 0, none⟩) 64 64) rfl (by kernel_rfl) (by kernel_rfl) (by kernel_rfl) (fun _ _ _ h => h) rfl (by rfl) ?yatf0 hS ?ratf0
  case yatf0 => (intro wz hz; exact exec_cut_all (.tmp 9) rfl rfl)
  simp only [List.setIfInBounds_toArray, List.set_cons_zero, List.set_cons_succ]
  refine takeH (i := 1) (d := 11) (v := ?vatf1) rfl (by kernel_rfl) (by kernel_rfl) (by kernel_rfl) (fun _ _ _ h => h) rfl (by rfl) ?yatf1 hS ?ratf1
  case yatf1 => (intro wz hz; go_simp <;> with_reducible rfl)
  simp only [List.setIfInBounds_toArray, List.set_cons_zero, List.set_cons_succ]
  refine wpAnyH_ready (rs := [2]) (by kernel_rfl) (by simp) ?_
  refine AllReadyH.cons rfl (fun K hK => ?_) AllReadyH.nil
  go_simp
  refine (wput_any 0 0 0 m none [] 8 _ Lies.empty (Nat.zero_le _) (by omega) hm (by omega) (by omega)).mono ?_
  rintro e w1 hr
  obtain ⟨A1, n1, c1, rfl, ho, hb⟩ := hr.n
  have hpl := own_n ho
  rw [List.nil_append, putL_length] at hpl
  obtain rfl : n1 = 8 := hpl.symm
  rw [List.nil_append] at ho
  have HO := Lib.hid (Lies.of_own ho)
  have N1 := Lib.hid (N0.out.call hb)
  clear ho hpl hr
  refine hK.out _ _ (trivial) (fun hT => ?_)
  clear hK hb hS
  have hS := hT
  clear hT
  refine wpAnyH_ready (rs := [3]) (by kernel_rfl) (by simp) ?_
  refine AllReadyH.cons rfl (fun K hK => ?_) AllReadyH.nil
  rw [if_pos (by rfl)]
  refine wp_copy_at 13 (.tmp 10) (.tmp 12) rfl rfl (w.heap.size + 1) 0 64 64 8 c1 _ A1 (putL m 8) (sec zsec) 68 rfl rfl N1.out.r1 HO.out (by omega) (by rw [sec_length]; omega) ?_
  intro w2 h2 g2
  have H2 := Lib.hid (N1.out.put g2 (h2.eqL (S1_zero m)))
  refine hK.out _ _ trivial (fun hT => ?_)
  clear hK hS h2 g2 hT
  refine wpAnyH_done (by kernel_rfl) ?_ _
  have HFT := Lib.hid (show 10 + n ≤ (S1 m 1 (n : Int)).length by rw [S1_length]; omega)
  have HFN : Hid (splice (S1 m 1 (n : Int)) 10 (BC sh) = sec (secOf sh m true false)) := by
    have := S1_fin sh m true false (by rw [HL.out]; exact hn)
    rw [HL.out] at this
    exact this
  have b8 := H2.out.r1.cell 8
  rw [List.getElem?_toArray, S1_get8] at b8
  go_wp2_with (first
    | (refine wpList_store_cell 5 (.tmp 18) (.tmp 17) rfl rfl rfl (w.heap.size + 1) 8 rfl (.int .u8 1) rfl rfl (by kernel_rfl) (S1 m 0 0).toArray 68 (by rw [List.size_toArray, S1_length]; omega) H2.out.r1 ?_
       intro HFw HFh HFg
       rw [List.setIfInBounds_toArray, S1_set8] at HFh
       have HF := Lib.hid (H2.out.put HFg HFh)
       clear HFh HFg
       have b8 := HF.out.r1.cell 8
       rw [List.getElem?_toArray, S1_get8] at b8)
    | (refine wpList_store_cell 5 (.tmp 27) (.tmp 26) rfl rfl rfl (w.heap.size + 1) 9 rfl (.int .u8 (n : Int)) rfl rfl (by kernel_rfl) (S1 m 1 0).toArray 68 (by rw [List.size_toArray, S1_length]; omega) HF.out.r1 ?_
       intro HNw HNh HNg
       rw [List.setIfInBounds_toArray, S1_set9] at HNh
       have HN := Lib.hid (HF.out.put HNg HNh)
       clear HNh HNg)
    | (refine wpList_copy_at 30 (.tmp 28) (.tmp 29) rfl rfl rfl (w.heap.size + 1) 10 54 54 n c B A sh (S1 m 1 (n : Int)) 68 rfl rfl HN.out.r1 (HN.out.src HH.out hB) hn HFT.out ?_
       intro w3 h3 g3
       have H3 := Lib.hid (HN.out.put g3 (h3.eqL HFN.out))
       clear h3 g3)
    | (refine wpList_load_at 68 31 (.tmp 9) rfl rfl rfl (w.heap.size + 1) rfl (secA (secOf sh m true false)) 64 strS (secA_size _) H3.out.r1 ?_)
    | (refine wpList_store_at 68 (.tmp 8) (.tmp 31) rfl rfl rfl w.heap.size rfl (secA (secOf sh m true false)) (secA zsec) 64 rfl strS (secA_size _) (secA_size _) (secA_one _) H3.out.r0 ?_; intro w4 h4 g4; have H4 := Lib.hid h4; have K4 := Lib.hid (H3.out.b.grown g4 H3.out.b.size (fun k hk => by injection hk with hk; omega)); clear h4 g4))
  refine bodyPost_ret (v := .agg (secA (secOf sh m true false))) (results_at1 rfl H4.out strS (secA_size _) Tryd.results42) rfl ⟨rfl, K4.out⟩

set_option maxHeartbeats 800000 in
theorem sectorOf_tt (B n c m : Nat) (A : Option Addr) (sh : List UInt8) (w : World) (h : Lies w B 1 A n (BC sh)) (hB : B ≤ w.heap.size) (hn : n ≤ 54) (hm : m < 18446744073709551616) :
    Calls Tryd.prog 42 #[.slice A n c, .int .u64 m, .bool true, .bool true] w fun e w' => e = .returned (.agg (secA (secOf sh m true true))) ∧ Below w.heap.size w w' := by
  have hl : sh.length = n := by have := h.len; rw [BC_length] at this; omega
  have hzero := (zero_of_info pl_arr_info).1
  have hinfo := Lib.hid (zero_of_info pl_arr_info).2
  have hw8 : IntKind.u8.wrap (n : Int) = (n : Int) := by rw [IntKind.wrap_u8]; omega
  have HH := Lib.hid h
  have HL := Lib.hid hl
  have N0 := Lib.hid (SecSt.new w)
  clear h hl
  go_enter Tryd.func42, Tryd.ntmps42
  go_upto_region 2 with fail
  refine wp_region_held_drew (S := fun _ => True) (by kernel_rfl) trivial (fun hS => ?_)
  refine takeH (i := 0) (d := 10) (v := .slice (some ⟨w.heap.size + 1, 0, none⟩) 64 64) rfl (by kernel_rfl) (by kernel_rfl) (by kernel_rfl) (fun _ _ _ h => h) rfl (by rfl) ?yatt0 hS ?ratt0
  case yatt0 => (intro wz hz; exact exec_cut_all (.tmp 9) rfl rfl)
  simp only [List.setIfInBounds_toArray, List.set_cons_zero, List.set_cons_succ]
  refine takeH (i := 1) (d := 11) (v := ?vatt1) rfl (by kernel_rfl) (by kernel_rfl) (by kernel_rfl) (fun _ _ _ h => h) rfl (by rfl) ?yatt1 hS ?ratt1
  case yatt1 => (intro wz hz; go_simp <;> with_reducible rfl)
  simp only [List.setIfInBounds_toArray, List.set_cons_zero, List.set_cons_succ]
  refine wpAnyH_ready (rs := [2]) (by kernel_rfl) (by simp) ?_
  refine AllReadyH.cons rfl (fun K hK => ?_) AllReadyH.nil
  go_simp
  refine (wput_any 0 0 0 m none [] 8 _ Lies.empty (Nat.zero_le _) (by omega) hm (by omega) (by omega)).mono ?_
  rintro e w1 hr
  obtain ⟨A1, n1, c1, rfl, ho, hb⟩ := hr.n
  have hpl := own_n ho
  rw [List.nil_append, putL_length] at hpl
  obtain rfl : n1 = 8 := hpl.symm
  rw [List.nil_append] at ho
  have HO := Lib.hid (Lies.of_own ho)
  have N1 := Lib.hid (N0.out.call hb)
  clear ho hpl hr
  refine hK.out _ _ (trivial) (fun hT => ?_)
  clear hK hb hS
  have hS := hT
  clear hT
  refine wpAnyH_ready (rs := [3]) (by kernel_rfl) (by simp) ?_
  refine AllReadyH.cons rfl (fun K hK => ?_) AllReadyH.nil
  rw [if_pos (by rfl)]
  refine wp_copy_at 13 (.tmp 10) (.tmp 12) rfl rfl (w.heap.size + 1) 0 64 64 8 c1 _ A1 (putL m 8) (sec zsec) 68 rfl rfl N1.out.r1 HO.out (by omega) (by rw [sec_length]; omega) ?_
  intro w2 h2 g2
  have H2 := Lib.hid (N1.out.put g2 (h2.eqL (S1_zero m)))
  refine hK.out _ _ trivial (fun hT => ?_)
  clear hK hS h2 g2 hT
  refine wpAnyH_done (by kernel_rfl) ?_ _
  have HFT := Lib.hid (show 10 + n ≤ (S1 m 3 (n : Int)).length by rw [S1_length]; omega)
  have HFN : Hid (splice (S1 m 3 (n : Int)) 10 (BC sh) = sec (secOf sh m true true)) := by
    have := S1_fin sh m true true (by rw [HL.out]; exact hn)
    rw [HL.out] at this
    exact this
  have b8 := H2.out.r1.cell 8
  rw [List.getElem?_toArray, S1_get8] at b8
  go_wp2_with (first
    | (refine wpList_store_cell 5 (.tmp 18) (.tmp 17) rfl rfl rfl (w.heap.size + 1) 8 rfl (.int .u8 1) rfl rfl (by kernel_rfl) (S1 m 0 0).toArray 68 (by rw [List.size_toArray, S1_length]; omega) H2.out.r1 ?_
       intro HFw HFh HFg
       rw [List.setIfInBounds_toArray, S1_set8] at HFh
       have HF := Lib.hid (H2.out.put HFg HFh)
       clear HFh HFg
       have b8 := HF.out.r1.cell 8
       rw [List.getElem?_toArray, S1_get8] at b8)
    | (refine wpList_store_cell 5 (.tmp 23) (.tmp 22) rfl rfl rfl (w.heap.size + 1) 8 rfl (.int .u8 3) rfl rfl (by kernel_rfl) (S1 m 1 0).toArray 68 (by rw [List.size_toArray, S1_length]; omega) HF.out.r1 ?_
       intro HGw HGh HGg
       rw [List.setIfInBounds_toArray, S1_set8] at HGh
       have HG := Lib.hid (HF.out.put HGg HGh)
       clear HGh HGg
       have b8 := HG.out.r1.cell 8
       rw [List.getElem?_toArray, S1_get8] at b8)
    | (refine wpList_store_cell 5 (.tmp 27) (.tmp 26) rfl rfl rfl (w.heap.size + 1) 9 rfl (.int .u8 (n : Int)) rfl rfl (by kernel_rfl) (S1 m 3 0).toArray 68 (by rw [List.size_toArray, S1_length]; omega) HG.out.r1 ?_
       intro HNw HNh HNg
       rw [List.setIfInBounds_toArray, S1_set9] at HNh
       have HN := Lib.hid (HG.out.put HNg HNh)
       clear HNh HNg)
    | (refine wpList_copy_at 30 (.tmp 28) (.tmp 29) rfl rfl rfl (w.heap.size + 1) 10 54 54 n c B A sh (S1 m 3 (n : Int)) 68 rfl rfl HN.out.r1 (HN.out.src HH.out hB) hn HFT.out ?_
       intro w3 h3 g3
       have H3 := Lib.hid (HN.out.put g3 (h3.eqL HFN.out))
       clear h3 g3)
    | (refine wpList_load_at 68 31 (.tmp 9) rfl rfl rfl (w.heap.size + 1) rfl (secA (secOf sh m true true)) 64 strS (secA_size _) H3.out.r1 ?_)
    | (refine wpList_store_at 68 (.tmp 8) (.tmp 31) rfl rfl rfl w.heap.size rfl (secA (secOf sh m true true)) (secA zsec) 64 rfl strS (secA_size _) (secA_size _) (secA_one _) H3.out.r0 ?_; intro w4 h4 g4; have H4 := Lib.hid h4; have K4 := Lib.hid (H3.out.b.grown g4 H3.out.b.size (fun k hk => by injection hk with hk; omega)); clear h4 g4))
  refine bodyPost_ret (v := .agg (secA (secOf sh m true true))) (results_at1 rfl H4.out strS (secA_size _) Tryd.results42) rfl ⟨rfl, K4.out⟩

end Go.Proofs.YthicidpdgggbjaaDoor
