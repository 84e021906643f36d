/-
  The example that the laws ask: its entries and what they take on the disk, as closed values.
  Conditions: none.
-/
import Derived.Test.YthicidpdgggbjaaDoorK22Q
namespace Go.Proofs.YthicidpdgggbjaaDoor
open Go.RowKit
set_option maxRecDepth 20000

theorem OnDisk.held {S : List Sect} {b sz fo : Nat} {es : List Ent} (h : OnDisk S b sz es fo) : Held ((S.drop b).take sz) es (kfW fo []) := by
  have := h.torn []
  rwa [upd_none _ _ _ _ (fun j _ => by simp)] at this
theorem IsWhole.top {es : List Ent} {fo : Nat} (h : fo = pos es) : IsWhole es (kfW fo []) es.length :=
  ⟨Nat.le_refl _, fun k hk => kfW_lo _ (by rw [List.take_length] at hk; omega), fun h => absurd h (Nat.lt_irrefl _)⟩
theorem IsWhole.all_of {es : List Ent} {fo m : Nat} (h : fo = pos es) (hm : IsWhole es (kfW fo []) m) : m = es.length := hm.unique (IsWhole.top h)

/-- The example's entries. -/
def wkE (k : Int) (p n : Nat) : Ent := ⟨n, k, 4, p, 0, zrc, [], []⟩
def wkR (k : Int) (p : Nat) : Er := ⟨wkE k p 0, none, 0, 0, none, 0, 0⟩
theorem wk_with (k : Int) (p n : Nat) : withN (wkR k p).e n = wkE k p n := rfl
theorem zrc_ok : zrc.ok := ⟨by decide, by decide, by decide, by decide⟩
theorem wk_gd (k : Int) (p n : Nat) (hk : 1 ≤ k) (hk2 : k ≤ 10) (hp : p < 100) (hn : n < 100) : Gd (wkE k p n) := by
  refine ⟨⟨?_, ?_, ?_, ?_, zrc_ok, ?_⟩, chk_good ⟨hk, hk2, ?_, ?_, ?_, ?_⟩⟩
  · show n < _; omega
  · show (4 : Nat) < _; omega
  · show p < _; omega
  · show (0 : Nat) < _; omega
  · intro x hx; cases hx
  · show ([] : List UInt8).length ≤ 15; decide
  · show ([] : List Im).length ≤ 24; decide
  · show ([] : List Nat).length ≤ 64; decide
  · rfl
theorem wk_len (k : Int) (p n : Nat) : (entL (wkE k p n)).length = (entL (wkE 1 0 1)).length := by
  simp [entL, headL, wkE, putL_length]
theorem wk_len1 : (entL (wkE 1 0 1)).length = 76 := by decide +kernel
theorem wk_wid (k : Int) (p n : Nat) : wid (wkE k p n) = 2 := by
  rw [wid, enc, sealL_length, wk_len, wk_len1]
  rfl
theorem wk_els (B : Nat → Prop) (z : World) (k : Int) (p : Nat) : ELz B z (wkR k p) := ⟨Lz.empty, ⟨rfl, fun h => absurd h (Nat.lt_irrefl _)⟩⟩
def wkL : List Ent := [wkE 1 0 1, wkE 6 1 3]
theorem wkL_pos : pos wkL = 4 := by simp [wkL, pos, wk_wid]
theorem wkL_num : Numd wkL 0 := ⟨rfl, wk_gd 1 0 1 (by decide) (by decide) (by decide) (by decide), by rw [wk_wid]; rfl, wk_gd 6 1 3 (by decide) (by decide) (by decide) (by decide), trivial⟩
theorem wkL_lay : cutS (enc (wkE 1 0 1)) 0 ++ cutS (enc (wkE 6 1 3)) 2 = lay wkL 0 := by
  rw [wkL, lay, lay, lay, List.append_nil, Nat.zero_add, wk_wid]
theorem wkL_disk : OnDisk (upd (List.replicate 12 zsec) 1 (lay wkL 0) (fun _ => true)) 1 10 wkL 4 := by
  have h := (((OnDisk.new 12 1 10 (by decide)).append (wkE 1 0 1) (by rw [pos_nil, wk_wid]; decide)).append (wkE 6 1 3) (by simp [pos, wk_wid])).forced
  have e : ([] ++ [wkE 1 0 1]) ++ [wkE 6 1 3] = wkL := rfl
  rw [e] at h
  rw [← wkL_pos]
  exact h
theorem wk_built1 : Tryd.prog.built 42 [(1, .int .i64 1), (2, .int .u64 4)] = some (erA (wkR 1 0)) := by kernel_rfl
theorem wk_built2 : Tryd.prog.built 42 [(1, .int .i64 6), (2, .int .u64 4), (3, .int .u64 1)] = some (erA (wkR 6 1)) := by kernel_rfl
theorem wk_built3 : Tryd.prog.built 42 [(1, .int .i64 8), (2, .int .u64 4)] = some (erA (wkR 8 0)) := by kernel_rfl
theorem wpList_build9 {ops : Array Oper} {rest : List Oper} {op : Oper} {a : Act} {w : World} {Q : Exit → Act → World → Prop} (d : Nat) (hop : op.dst = some d) (hgd : op.guard = none) (t : TypeId) (parts : Array (Nat × Operand)) (ho : op.op = .build t parts) (vs : Array (Nat × Value))
    (hv : (parts.map fun (i, x) => (i, a.eval x)) = vs) (cells : Array Value) (hb : Tryd.prog.built t vs.toList = some cells)
    (h : wpList Tryd.prog ops Q rest (a.put (some d) (.agg cells)) w) : wpList Tryd.prog ops Q (op :: rest) a w := by
  refine wpList_plain hgd fun K hK => ?_
  have hr := run_build w t vs cells hb
  unfold Oper.wp execOp
  simp only [ho, hv, Sem.run_bind, hr, Result.andThen_ok, Sem.run_pure]
  simp only [Oper.upon]
  rw [hop]
  exact hK _ _ h
/-- The sectors of sixty zeros from position 3 on. -/
def wkC : List Sect := cutS (List.replicate 60 0) 3
theorem wkC_two : wkC = [secOf (List.replicate 54 0) 4 true false, secOf (List.replicate 6 0) 5 false true] := by decide +kernel
theorem wkC_at : (wkC.map fun s => s.toList).map (fun l => (l.getD 7 0, l.getD 8 0, l.getD 9 0)) = [(4, 1, 54), (5, 2, 6)] := by decide +kernel
end Go.Proofs.YthicidpdgggbjaaDoor
