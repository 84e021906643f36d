/-
  Entries in memory, outside a set of blocks that may turn; slices.Clone of pages and of numbers; wal.twin.
  Conditions: entries of at most 1000 pages and numbers.
-/
import Derived.Test.YthicidpdgggbjaaDoorK5Q
import Derived.Lib.SliceRun
namespace Go.Proofs.YthicidpdgggbjaaDoor
open Go.RowKit
set_option maxRecDepth 8000

/-! ### An entry with its slices -/
structure Er where
  e : Ent
  PA : Option Addr
  np : Nat
  pc : Nat
  QA : Option Addr
  na : Nat
  qc : Nat
def erL (r : Er) : List Value := [.int .u64 (r.e.lsn : Nat), .int .i64 r.e.kind, .int .u64 (r.e.txn : Nat), .int .u64 (r.e.prev : Nat), .int .u64 (r.e.next : Nat), .int .u64 (r.e.rc.id : Nat), .int .u64 (r.e.rc.key : Nat), .int .u32 (r.e.rc.x : Nat), .int .u32 (r.e.rc.y : Nat), .string (strOf r.e.rc.val), .bool r.e.rc.ghost, .slice r.PA r.np r.pc, .slice r.QA r.na r.qc]
def erA (r : Er) : Array Value := (erL r).toArray
theorem erA_eq (r : Er) : erA r = #[.int .u64 (r.e.lsn : Nat), .int .i64 r.e.kind, .int .u64 (r.e.txn : Nat), .int .u64 (r.e.prev : Nat), .int .u64 (r.e.next : Nat), .int .u64 (r.e.rc.id : Nat), .int .u64 (r.e.rc.key : Nat), .int .u32 (r.e.rc.x : Nat), .int .u32 (r.e.rc.y : Nat), .string (strOf r.e.rc.val), .bool r.e.rc.ghost, .slice r.PA r.np r.pc, .slice r.QA r.na r.qc] := rfl
theorem erL_length (r : Er) : (erL r).length = 13 := rfl
theorem erA_size (r : Er) : (erA r).size = 13 := rfl
theorem erL_one (r : Er) : ∀ u ∈ erL r, u.oneCell' = true := by
  intro u hu
  simp only [erL, List.mem_cons, List.not_mem_nil, or_false] at hu
  rcases hu with rfl | rfl | rfl | rfl | rfl | rfl | rfl | rfl | rfl | rfl | rfl | rfl | rfl <;> rfl
theorem erA_one (r : Er) : (erA r).all (·.oneCell') = true := all_oneCell_toArray (erL_one r)
def flatE : List Er → List Value
  | [] => []
  | r :: l => erL r ++ flatE l
theorem flatE_length : ∀ l : List Er, (flatE l).length = l.length * 13
  | [] => rfl
  | r :: l => by rw [flatE, List.length_append, erL_length, flatE_length l, List.length_cons]; omega
theorem flatE_append : ∀ l m : List Er, flatE (l ++ m) = flatE l ++ flatE m
  | [], _ => rfl
  | r :: l, m => by rw [List.cons_append, flatE, flatE, flatE_append l m, List.append_assoc]
theorem flatE_single (r : Er) : flatE [r] = erL r := by rw [flatE, flatE, List.append_nil]
theorem flatE_one : ∀ l : List Er, ∀ u ∈ flatE l, u.oneCell' = true
  | [], u, h => by simp [flatE] at h
  | r :: l, u, h => by
    rw [flatE, List.mem_append] at h
    rcases h with h | h
    · exact erL_one r u h
    · exact flatE_one l u h
theorem flatE_range {w : World} {b o : Nat} {l : List Er} {k : Nat} (h : w.rangeAt b o (flatE l)) (hk : k < l.length) : w.rangeAt b (o + k * 13) (erL l[k]) := fun j v hv => by
  have hj : j < 13 := by
    have := (List.getElem?_eq_some_iff.1 hv).1
    rwa [erL_length] at this
  rw [Nat.add_assoc]
  refine h _ v ?_
  have e : l = l.take k ++ ([l[k]] ++ l.drop (k + 1)) := by simp
  rw [e, flatE_append, flatE_append, List.getElem?_append_right (by rw [flatE_length, List.length_take]; omega), List.getElem?_append_left (by rw [flatE_length, flatE_length, List.length_take]; simp; omega), flatE_single, flatE_length, List.length_take, Nat.min_eq_left (by omega), show k * 13 + j - k * 13 = j from by omega]
  exact hv
/-- A slice that reads as a list of cells, in a block outside X, wherever in it. -/
structure La (X : Nat → Prop) (w : World) (size : Nat) (A : Option Addr) (n : Nat) (xs : List Value) : Prop where
  len : xs.length = n * size
  spot : 0 < n → ∃ a, A = some a ∧ ¬ X a.block ∧ a.block < w.heap.size ∧ ∀ j u, xs[j]? = some u → w.cell? (a.add j) = some u
section
variable {X Y : Nat → Prop} {w w' : World} {size n : Nat} {A : Option Addr} {xs : List Value}
theorem La.kept (h : La X w size A n xs) (hm : Mod X w w') : La X w' size A n xs := by
  refine ⟨h.len, fun hn => ?_⟩
  obtain ⟨a, ha, hx, hb, hr⟩ := h.spot hn
  refine ⟨a, ha, hx, Nat.lt_of_lt_of_le hb hm.size, fun j u hu => ?_⟩
  rw [World.cell?_of_block (w := w) (a := a.add j) (by rw [add_block]; exact hm.block _ hb hx)]
  exact hr j u hu
theorem La.mono (h : La X w size A n xs) (hY : ∀ k, k < w.heap.size → Y k → X k) : La Y w size A n xs := by
  refine ⟨h.len, fun hn => ?_⟩
  obtain ⟨a, ha, hx, hb, hr⟩ := h.spot hn
  exact ⟨a, ha, fun hy => hx (hY _ hb hy), hb, hr⟩
theorem La.below (h : La X w size A n xs) (hb : Below w.heap.size w w') : La X w' size A n xs := h.kept (Mod.of_below hb X)
theorem La.alloc (h : La X w size A n xs) (o : Obj) : La X (w.alloc o) size A n xs := h.kept ((Mod.refl X w).alloc o)
theorem La.empty : La X w size A 0 [] := ⟨by simp, fun h => absurd h (Nat.lt_irrefl 0)⟩
theorem Lz.la (h : Lz X w size A n xs) : La X w size A n xs := by
  refine ⟨h.len, fun hn => ?_⟩
  obtain ⟨b, o, ha, hx, hb, hr⟩ := h.spot hn
  exact ⟨_, ha, hx, hb, fun j u hu => by rw [add_plain]; exact hr j u hu⟩
theorem La.lies (h : La X w size A n xs) : Lies w w.heap.size size A n xs := by
  refine ⟨h.len, fun hn => ?_⟩
  obtain ⟨a, ha, _, hb, hr⟩ := h.spot hn
  exact ⟨a, ha, hb, hr⟩
theorem Lies.la (h : Lies w w.heap.size size A n xs) (hX : ∀ a, A = some a → ¬ X a.block) : La X w size A n xs := by
  refine ⟨h.len, fun hn => ?_⟩
  obtain ⟨a, ha, hb, hr⟩ := h.spot hn
  exact ⟨a, ha, hX a ha, hb, hr⟩
theorem La.nil_of_none (h : La X w size none n xs) : n = 0 ∧ xs = [] := by
  by_cases hn : n = 0
  · subst hn
    exact ⟨rfl, List.eq_nil_of_length_eq_zero (by rw [h.len]; simp)⟩
  · obtain ⟨a, ha, _⟩ := h.spot (by omega)
    cases ha
theorem La.cells {a : Addr} (h : La X w size (some a) n xs) : ∀ j u, xs[j]? = some u → w.cell? (a.add j) = some u := by
  intro j u hu
  by_cases hn : n = 0
  · subst hn
    have : xs = [] := List.eq_nil_of_length_eq_zero (by rw [h.len]; simp)
    subst this
    simp at hu
  · obtain ⟨a', ha, _, _, hr⟩ := h.spot (by omega)
    injection ha with ha
    subst ha
    exact hr j u hu
end
/-- The slices of an entry lie outside X. -/
structure ELz (X : Nat → Prop) (w : World) (r : Er) : Prop where
  pages : Lz X w 225 r.PA r.np (flatI r.e.pages)
  act : La X w 1 r.QA r.na (UC r.e.act)
section
variable {X Y : Nat → Prop} {w w' : World} {r : Er}
theorem ELz.kept (h : ELz X w r) (hm : Mod X w w') : ELz X w' r := ⟨h.pages.kept hm, h.act.kept hm⟩
theorem ELz.mono (h : ELz X w r) (hY : ∀ k, k < w.heap.size → Y k → X k) : ELz Y w r := ⟨h.pages.mono hY, h.act.mono hY⟩
theorem ELz.keptY (h : ELz X w r) (hm : Mod Y w w') (hY : ∀ k, k < w.heap.size → Y k → X k) : ELz X w' r := h.kept (hm.mono hY)
theorem ELz.below (h : ELz X w r) (hb : Below w.heap.size w w') : ELz X w' r := h.kept (Mod.of_below hb X)
theorem ELz.lenP (h : ELz X w r) : r.e.pages.length = r.np := by have := h.pages.len; rw [flatI_length] at this; omega
theorem ELz.lenA (h : ELz X w r) : r.e.act.length = r.na := by have := h.act.len; rw [UC_length] at this; omega
theorem ELz.el (h : ELz X w r) : EL w w.heap.size r.e r.PA r.np r.QA r.na := by
  refine ⟨⟨h.lenP, fun hn => ?_⟩, h.act.lies⟩
  obtain ⟨b, o, ha, _, hb, hr⟩ := h.pages.spot hn
  exact ⟨b, o, ha, hb, hr⟩
theorem ELz.of_el {r : Er} (h : EL w w.heap.size r.e r.PA r.np r.QA r.na) (hX : ∀ a, r.PA = some a ∨ r.QA = some a → ¬ X a.block) : ELz X w r := by
  refine ⟨⟨by rw [flatI_length, h.lenP], fun hn => ?_⟩, h.act.la fun a ha => hX a (.inr ha)⟩
  obtain ⟨b, o, ha, hb, hr⟩ := h.pages.spot hn
  exact ⟨b, o, ha, hX _ (.inl ha), hb, hr⟩
end
/-- A slice of entries: its row and the slices in it lie outside X. -/
structure LEz (X : Nat → Prop) (w : World) (A : Option Addr) (n : Nat) (l : List Er) : Prop where
  row : Lz X w 13 A n (flatE l)
  els : ∀ r ∈ l, ELz X w r
section
variable {X Y : Nat → Prop} {w w' : World} {A : Option Addr} {n : Nat} {l : List Er}
theorem LEz.kept (h : LEz X w A n l) (hm : Mod X w w') : LEz X w' A n l := ⟨h.row.kept hm, fun r hr => (h.els r hr).kept hm⟩
theorem LEz.mono (h : LEz X w A n l) (hY : ∀ k, k < w.heap.size → Y k → X k) : LEz Y w A n l := ⟨h.row.mono hY, fun r hr => (h.els r hr).mono hY⟩
theorem LEz.below (h : LEz X w A n l) (hb : Below w.heap.size w w') : LEz X w' A n l := h.kept (Mod.of_below hb X)
theorem LEz.len (h : LEz X w A n l) : l.length = n := by have := h.row.len; rw [flatE_length] at this; omega
theorem LEz.at {k : Nat} (h : LEz X w A n l) (hk : k < n) : ∃ b o, ∃ hl : k < l.length, A = some ⟨b, o, none⟩ ∧ ¬ X b ∧ b < w.heap.size ∧ w.rangeAt b (o + k * 13) (erL (l[k]'hl)) ∧ ELz X w (l[k]'hl) := by
  obtain ⟨b, o, ha, hx, hlt, hr⟩ := h.row.spot (by omega)
  have hl : k < l.length := by rw [h.len]; exact hk
  exact ⟨b, o, hl, ha, hx, hlt, flatE_range hr hl, h.els _ (List.getElem_mem hl)⟩
theorem LEz.empty : LEz X w A 0 [] := ⟨⟨by simp [flatE], fun h => absurd h (Nat.lt_irrefl 0)⟩, fun r h => by simp at h⟩
end
theorem strE : Str 42 13 := str29
theorem ent_info : (Tryd.prog.info? 42).map (fun i => (i.zero, i.size, i.bytes)) = some (some (.agg #[.int .u64 0, .int .i64 0, .int .u64 0, .int .u64 0, .int .u64 0, .int .u64 0, .int .u64 0, .int .u32 0, .int .u32 0, .string ⟨#[]⟩, .bool false, .slice none 0 0, .slice none 0 0]), 13, 136) := by kernel_rfl

theorem wpList_load_er {ops : Array Oper} {rest : List Oper} {op : Oper} {a : Act} {w : World} {Q : Exit → Act → World → Prop} (d : Nat) (x : Operand) (hop : op.dst = some d) (hgd : op.guard = none) (ho : op.op = .load 42 x) (g o : Nat) (hx : a.eval x = .pointer (some ⟨g, o, none⟩)) (r : Er)
    (hc : w.rangeAt g o (erL r)) (h : wpList Tryd.prog ops Q rest (a.put (some d) (.agg (erA r))) w) : wpList Tryd.prog ops Q (op :: rest) a w := by
  obtain ⟨ds, h1, h2, h3⟩ := strE
  refine wpList_load_mid hgd 42 x ho g o hx (erL r) ds hc h1 h2 (by rw [erL_length]; exact h3) ?_
  rw [hop]
  exact h
theorem wpList_load_erG {ops : Array Oper} {rest : List Oper} {op : Oper} {a : Act} {w : World} {Q : Exit → Act → World → Prop} (d : Nat) (x : Operand) (hop : op.dst = some d) (hw : Region.wanted op (yielded ops a.tmps) = true) (ho : op.op = .load 42 x) (g o : Nat) (hx : a.eval x = .pointer (some ⟨g, o, none⟩)) (r : Er)
    (hc : w.rangeAt g o (erL r)) (h : wpList Tryd.prog ops Q rest (a.put (some d) (.agg (erA r))) w) : wpList Tryd.prog ops Q (op :: rest) a w := by
  obtain ⟨ds, h1, h2, h3⟩ := strE
  rw [wpList, if_pos hw]
  left
  refine wp_load_mid 42 x ho g o hx (erL r) ds hc h1 (by cases ds <;> first | rfl | cases h2) (by rw [erL_length]; exact h3) ?_
  rw [hop]
  exact h
theorem exec_load_er {op : Oper} {a : Act} {w : World} (x : Operand) (ho : op.op = .load 42 x) (g o : Nat) (hx : a.eval x = .pointer (some ⟨g, o, none⟩)) (r : Er) (hc : w.rangeAt g o (erL r)) :
    (execOp a.eval op).run Tryd.prog w = .ok (.value (.agg (erA r))) w := by
  obtain ⟨ds, h1, h2, h3⟩ := strE
  exact exec_load 42 x ho g o hx (erL r) ds hc h1 (by cases ds <;> first | rfl | cases h2) (by rw [erL_length]; exact h3)

/-! ### slices.Clone -/
set_option maxHeartbeats 400000 in
theorem cloneI_some (X : Nat → Prop) (n c : Nat) (a : Addr) (l : List Im) (w : World) (h : La X w 225 (some a) n (flatI l)) (hn : n ≤ 1000) :
    Calls Tryd.prog 59 #[.slice (some a) n c] w fun e w' => ∃ v, e = .returned v ∧ w'.ownsRow w.heap.size 98 225 v n (flatI l) ∧ Below w.heap.size w w' := by
  obtain ⟨i0, hi0, hz0, hz1, hz2⟩ := info_parts im_info
  have hnil := fun W => Lib.run_eql_slice_nil (P := Tryd.prog) W 39 98 (some a) n c 0 0 Tryd.underlying39
  have HH := Lib.hid h
  clear h
  have hm : (w.alloc (.cells #[] 98)).ownsRow w.heap.size 98 225 (.slice (some ⟨w.heap.size, 0, none⟩) 0 0) 0 [] := World.ownsRow_made w #[] 0 (Nat.le_refl _) (by simp [maxLen]) rfl
  have HM := Lib.hid hm
  clear hm
  go_enter Tryd.func59, Tryd.ntmps59
  go_wp2_with (at_builtin; refine pl_wpList_app _ rfl (.tmp 5) (.tmp 6) _ rfl w.heap.size 98 i0 _ 225 232 Tryd.underlying39 hi0 hz0 hz1 hz2 Tryd.zeroCells98_size (by omega) _ 0 [] rfl HM.out a n c (flatI l) rfl HH.out.len (HH.out.alloc _).cells (flatI_one l) (by simp only [maxLen]; omega) (by omega) (by simp) ?_; intro v1 w1 hown hg)
  go_ret
  exact ⟨v1, rfl, by simpa using hown, below_own ((Below.refl _ _).alloc (Nat.le_refl _) _) HM.out hg (Nat.le_refl _) (by simp)⟩
set_option maxHeartbeats 400000 in
theorem cloneI_none (n c : Nat) (w : World) :
    Calls Tryd.prog 59 #[.slice none n c] w fun e w' => e = .returned (.slice none 0 0) ∧ w = w' := by
  have hnil := fun W => Lib.run_eql_slice_nil (P := Tryd.prog) W 39 98 none n c 0 0 Tryd.underlying39
  go_enter Tryd.func59, Tryd.ntmps59
  go_wp2_with fail
  go_ret
  exact ⟨rfl, rfl⟩
theorem cloneI_any (X : Nat → Prop) (n c : Nat) (A : Option Addr) (l : List Im) (w : World) (h : La X w 225 A n (flatI l)) (hn : n ≤ 1000) :
    Calls Tryd.prog 59 #[.slice A n c] w fun e w' => ∃ A' c', e = .returned (.slice A' n c') ∧ Lz (fun k => k < w.heap.size) w' 225 A' n (flatI l) ∧ n ≤ c' ∧ c' ≤ maxLen ∧ Below w.heap.size w w' := by
  cases A with
  | some a =>
    refine (cloneI_some X n c a l w h hn).mono ?_
    rintro e w' ⟨v, rfl, ho, hb⟩
    obtain ⟨A', c', rfl, h1, h2⟩ := own_slice ho
    exact ⟨A', c', rfl, Lz.of_own ho (fun k hk => hk), h1, h2, hb⟩
  | none =>
    refine (cloneI_none n c w).mono ?_
    rintro e w' ⟨rfl, rfl⟩
    obtain ⟨rfl, h2⟩ := h.nil_of_none
    rw [h2]
    exact ⟨none, 0, rfl, Lz.empty, Nat.le_refl _, by simp [maxLen], Below.refl _ _⟩

set_option maxHeartbeats 400000 in
theorem cloneU_some (X : Nat → Prop) (n c : Nat) (a : Addr) (l : List Nat) (w : World) (h : La X w 1 (some a) n (UC l)) (hn : n ≤ 1000) :
    Calls Tryd.prog 60 #[.slice (some a) n c] w fun e w' => ∃ v, e = .returned v ∧ w'.ownsRow w.heap.size 35 1 v n (UC l) ∧ Below w.heap.size w w' := by
  obtain ⟨i0, hi0, hz0, hz1, hz2⟩ := info_parts u64_info
  have hnil := fun W => Lib.run_eql_slice_nil (P := Tryd.prog) W 40 35 (some a) n c 0 0 Tryd.underlying40
  have HH := Lib.hid h
  clear h
  have hm : (w.alloc (.cells #[] 35)).ownsRow w.heap.size 35 1 (.slice (some ⟨w.heap.size, 0, none⟩) 0 0) 0 [] := World.ownsRow_made w #[] 0 (Nat.le_refl _) (by simp [maxLen]) rfl
  have HM := Lib.hid hm
  clear hm
  go_enter Tryd.func60, Tryd.ntmps60
  go_wp2_with (at_builtin; refine pl_wpList_app _ rfl (.tmp 5) (.tmp 6) _ rfl w.heap.size 35 i0 _ 1 8 Tryd.underlying40 hi0 hz0 hz1 hz2 rfl (by omega) _ 0 [] rfl HM.out a n c (UC l) rfl HH.out.len (HH.out.alloc _).cells (UC_one l) (by simp only [maxLen]; omega) (by omega) (by simp) ?_; intro v1 w1 hown hg)
  go_ret
  exact ⟨v1, rfl, by simpa using hown, below_own ((Below.refl _ _).alloc (Nat.le_refl _) _) HM.out hg (Nat.le_refl _) (by simp)⟩
set_option maxHeartbeats 400000 in
theorem cloneU_none (n c : Nat) (w : World) :
    Calls Tryd.prog 60 #[.slice none n c] w fun e w' => e = .returned (.slice none 0 0) ∧ w = w' := by
  have hnil := fun W => Lib.run_eql_slice_nil (P := Tryd.prog) W 40 35 none n c 0 0 Tryd.underlying40
  go_enter Tryd.func60, Tryd.ntmps60
  go_wp2_with fail
  go_ret
  exact ⟨rfl, rfl⟩
theorem cloneU_any (X : Nat → Prop) (n c : Nat) (A : Option Addr) (l : List Nat) (w : World) (h : La X w 1 A n (UC l)) (hn : n ≤ 1000) :
    Calls Tryd.prog 60 #[.slice A n c] w fun e w' => ∃ A' c', e = .returned (.slice A' n c') ∧ Lz (fun k => k < w.heap.size) w' 1 A' n (UC l) ∧ n ≤ c' ∧ c' ≤ maxLen ∧ Below w.heap.size w w' := by
  cases A with
  | some a =>
    refine (cloneU_some X n c a l w h hn).mono ?_
    rintro e w' ⟨v, rfl, ho, hb⟩
    obtain ⟨A', c', rfl, h1, h2⟩ := own_slice ho
    exact ⟨A', c', rfl, Lz.of_own ho (fun k hk => hk), h1, h2, hb⟩
  | none =>
    refine (cloneU_none n c w).mono ?_
    rintro e w' ⟨rfl, rfl⟩
    obtain ⟨rfl, h2⟩ := h.nil_of_none
    rw [h2]
    exact ⟨none, 0, rfl, Lz.empty, Nat.le_refl _, by simp [maxLen], Below.refl _ _⟩

end Go.Proofs.YthicidpdgggbjaaDoor
