/-
  Maps in a walk inside a fence; what distances keeps in memory.
  Conditions: none beyond those that each theorem names.
-/
import Derived.Test.YtnkphpjnhjbokaaSJ
import Derived.Test.YtnkphpjnhjbokaaCI
namespace Go.Proofs.Ytnkphpjnhjbokaa
open Go.RowKit Go.Shelf
open Go.Maps (Keyed)
attribute [local go_sem] Oper.semAt_some
set_option maxRecDepth 20000

section
variable {P : Program} {k t e : TypeId} {α : Type} {key : α → Value} {ok : α → Prop} {w : World} {b : Nat} {f : α → Option Value}
variable {F : Fence} {n : Nat} {ops : Array Oper} {rest : List Oper} {o : Oper} {a : Act} {Q : Exit → Act → World → Prop}
theorem wpListIn_look (hg : o.guard = none) (d : Nat) (hd : o.dst = some d) (m x : Operand) (c : Bool) (hop : o.op = Op.lookup t m x c) (T : KeyT P k key ok) (ht : P.underlying t = some (.map k e)) (z : Value) (hz : (zeroValue e).run P w = .ok z w)
    (hm : a.eval m = .map (some b)) (h : MapAt key ok w b f) (i : α) (hx : a.eval x = key i) (hi : ok i) (v : Value) (hv : lookV z (f i) c = v)
    (hK : wpListIn F n P ops Q rest (a.put (some d) v) w) : wpListIn F n P ops Q (o :: rest) a w := by
  refine wpListIn_plain hg fun K' hK' => ?_
  have hrun := h.look T ht hz c hi
  rw [hv] at hrun
  unfold Oper.wpIn
  refine ⟨by simp [Oper.about, hop], ?_⟩
  rw [Oper.semAt_plain F _ _ (by rw [hop]; intro c hc'; cases hc')]
  simp [execOp, hop, hm, hx, hrun, Result.andThen]
  exact hK' _ _ (by rw [hd]; exact hK)
variable [DecidableEq α]
theorem wpListIn_mapStore (hg : o.guard = none) (m x y : Operand) (hop : o.op = Op.mapUpdate t m x y) (T : KeyT P k key ok) (ht : P.underlying t = some (.map k e))
    (hm : a.eval m = .map (some b)) (h : MapAt key ok w b f) (i : α) (hx : a.eval x = key i) (hi : ok i) (v : Value) (hv : a.eval y = v)
    (hK : ∀ w', MapAt key ok w' b (updF f i (some v)) → w.grownBy w' (some b) → wpListIn F n P ops Q rest (a.put o.dst undef) w') : wpListIn F n P ops Q (o :: rest) a w := by
  refine wpListIn_plain hg fun K' hK' => ?_
  obtain ⟨w', hrun, r1, r2⟩ := h.store T ht hi v
  unfold Oper.wpIn
  refine ⟨by simp [Oper.about, hop], ?_⟩
  rw [Oper.semAt_plain F _ _ (by rw [hop]; intro c hc'; cases hc')]
  simp [execOp, hop, hm, hx, hv, hrun, Result.andThen]
  exact hK' _ _ (hK w' r1 r2)
end
/-- append(v, x...) inside a fence, and where the row lies behind it. -/
theorem wpListIn_app2 {P : Program} {F : Fence} {n' : Nat} (w : World) {ops : Array Oper} {rest : List Oper} {o : Oper} {a : Act} {Q : Exit → Act → World → Prop} (hgd : o.guard = none) (s x : Operand) (t : TypeId)
    (ho : o.op = .call { callee := .builtin .append, args := #[s, x], argTypes := #[t, t] })
    (base : Nat) (e : TypeId) (i : TypeInfo) (z : Value) (size bytes : Nat) (ht : P.underlying t = some (.slice e)) (hi : P.info? e = some i) (hz : i.zero = some z)
    (hsize : i.size = size) (hby : i.bytes = bytes) (hzs : z.cells.size = size) (hsz : 0 < size)
    (v : Value) (n : Nat) (xs : List Value) (hs : a.eval s = v) (hown : w.ownsRow base e size v n xs)
    (B : Nat) (A : Option Addr) (m c : Nat) (news : List Value) (hx : a.eval x = .slice A m c) (hr : Lies w B size A m news) (h1 : ∀ u ∈ news, u.oneCell' = true) (hm : 0 < m)
    (h63 : n + m ≤ maxLen) (hbytes : (n + m) * bytes ≤ 140737488355328) (hbase : base ≤ w.heap.size)
    (h : ∀ v' w', w'.ownsRow base e size v' (n + m) (xs ++ news) → w.grownBy w' v.ownBlock → (v'.ownBlock = v.ownBlock ∨ v'.ownBlock = some w.heap.size) → wpListIn F n' P ops Q rest (a.put o.dst v') w') : wpListIn F n' P ops Q (o :: rest) a w := by
  obtain ⟨v', w', hrun, h2, h3, h4⟩ := run_append_lies2 (P := P) w base t o.type e i z size bytes ht hi hz hsize hby hzs hsz v n xs hown B A m c news hr h1 hm h63 hbytes hbase
  refine wpListIn_plain hgd fun K hK' => ?_
  unfold Oper.wpIn
  refine ⟨?_, ?_⟩
  · simp [Oper.about, ho, resolve, Target.leads, Sem.run_pure]
  · rw [Oper.semAt_plain F _ _ (by rw [ho]; intro c hc'; cases hc')]
    simp [execOp, ho, resolve, invoke, builtin, hs, hx, hrun, Result.andThen]
    exact hK' _ _ (h v' w' h2 h3 h4)
/-- What an append leaves: whatever is no cells. -/
theorem keeps_own {w w' : World} {B n size : Nat} {e : TypeId} {v : Value} {xs : List Value} (ho : w.ownsRow B e size v n xs) (hg : w.grownBy w' v.ownBlock) : KeepsOthers w w' := ⟨hg.size, fun k o hk hc => by
  refine (hg.block k (Array.getElem?_eq_some_iff.1 hk).1 fun hv => ?_).trans hk
  obtain ⟨_, cur, h2⟩ := own_cells ho hv.symm
  rw [hk] at h2
  cases h2
  cases hc⟩
def U64 (n : Nat) : Prop := n < 18446744073709551616
def u64V (t : Nat) : Value := .int .u64 (t : Int)
/-- The distances as the map holds them. -/
def fD (d : Nat → Nat) (x : Nat) : Option Value := if d x = 0 then none else some (.int .i64 (d x : Int))
theorem fD_look (d : Nat → Nat) (x : Nat) : lookV (.int .i64 0) (fD d x) false = .int .i64 (d x : Int) := by
  unfold fD
  by_cases h : d x = 0
  · rw [if_pos h, h]
    rfl
  · rw [if_neg h]
    rfl
theorem fD_upd (d : Nat → Nat) (x c : Nat) (hc : c ≠ 0) (y : Nat) : updF (fD d) x (some (.int .i64 (c : Int))) y = fD (updN d x c) y := by
  unfold updF fD updN
  by_cases h : y = x
  · rw [if_pos h, if_pos h, if_neg hc]
  · rw [if_neg h, if_neg h]
/-- What distances keeps: the map's box, the queue's box, the map, the queue's row (in no block of those in Z). -/
structure DiS (B bM bQ b : Nat) (Z : Nat → Prop) (d : Nat → Nat) (q : List Nat) (W : World) : Prop where
  bm : At W bM 41 #[.map (some b)]
  mp : MapAt u64V U64 W b (fD d)
  ex : ∃ A nq cq, At W bQ 25 #[.slice A nq cq] ∧ q.length = nq ∧ W.ownsRow B 23 1 (.slice A nq cq) nq (UC q) ∧ ∀ k, (Value.slice A nq cq).ownBlock = some k → ¬ Z k
end Go.Proofs.Ytnkphpjnhjbokaa
