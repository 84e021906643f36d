/-
  The walks of maps.Keys and of the iterator that it makes.
  Conditions: none beyond those that each theorem names.
-/
import Derived.Test.YtnkphpjnhjbokaaST
namespace Go.Proofs.Ytnkphpjnhjbokaa
open Go.RowKit Go.Shelf
attribute [local go_sem] Oper.semAt_some
set_option maxRecDepth 100000

/-- All keys have come. -/
structure DnS (f : Nat → Option Value) (ks : List Nat) : Prop where
  all : ∀ x, x ∈ ks ↔ (f x).isSome = true
  nodup : ks.Nodup
/-- Key x has come. -/
structure NxS (w : World) (b r : Nat) (f : Nat → Option Value) (ks : List Nat) (x : Nat) (w' : World) : Prop where
  there : (f x).isSome = true
  nodup : (ks ++ [x]).Nodup
  old : ∀ y ∈ ks, (f y).isSome = true
  rg : RgS w' b r f (ks ++ [x])
  less : w'.rangeLeft b r < w.rangeLeft b r
  grown : w.grownBy w' (some r)
section
variable {F : Fence} {n : Nat} (w : World) {ops : Array Oper} {rest : List Oper} {o : Oper} {a : Act} {Q : Exit → Act → World → Prop}
theorem wpListIn_range_at (hg : o.guard = none) (m : Operand) (t : TypeId) (hop : o.op = Op.range t m) (k e : TypeId) (ht : Try.prog.underlying t = some (.map k e)) (b : Nat) (f : Nat → Option Value) (hm : a.eval m = .map (some b)) (h : MapAt u64V U64 w b f)
    (hK : ∀ w', RgS w' b w.heap.size f [] → w.grownBy w' none → wpListIn F n Try.prog ops Q rest (a.put o.dst (.pointer (some ⟨w.heap.size, 0, none⟩))) w') :
    wpListIn F n Try.prog ops Q (o :: rest) a w := by
  refine wpListIn_plain hg fun K' hK' => ?_
  obtain ⟨w', hrun, r1, r2, _⟩ := h.range ht
  unfold Oper.wpIn
  refine ⟨?_, ?_⟩
  · simp [Oper.about, hop]
  · rw [Oper.semAt_plain F _ _ (by rw [hop]; intro c hc'; cases hc')]
    simp [execOp, hop, hm, hrun, Result.andThen]
    exact hK' _ _ (hK w' r1 r2)
theorem wpListIn_next_at (hg : o.guard = none) (it : Operand) (hop : o.op = Op.next it false) (b r : Nat) (f : Nat → Option Value) (ks : List Nat) (hit : a.eval it = .pointer (some ⟨r, 0, none⟩)) (h : RgS w b r f ks)
    (hDone : DnS f ks → wpListIn F n Try.prog ops Q rest (a.put o.dst (.tuple #[.bool false])) w)
    (hMore : ∀ (m : Nat) (v : Value) (w' : World), NxS w b r f ks m w' → (Instr.entry (.pointer (some ⟨r, 0, none⟩))).run Try.prog w' = .ok (.tuple #[.int .u64 (m : Int), v]) w' →
      wpListIn F n Try.prog ops Q rest (a.put o.dst (.tuple #[.bool true, .int .u64 (m : Int), v])) w') :
    wpListIn F n Try.prog ops Q (o :: rest) a w := by
  refine wpListIn_plain hg fun K' hK' => ?_
  unfold Oper.wpIn
  refine ⟨by simp [Oper.about, hop], ?_⟩
  rw [Oper.semAt_plain F _ _ (by rw [hop]; intro c hc'; cases hc')]
  rcases h.next o.type with ⟨h1, h2, hrun⟩ | ⟨x, v, w', h1, h2, h3, hrun, h4, h5, h6, h7⟩
  · simp [execOp, hop, hit, hrun, Result.andThen]
    exact hK' _ _ (hDone ⟨h1, h2⟩)
  · simp [execOp, hop, hit, hrun, Result.andThen]
    exact hK' _ _ (hMore x v w' ⟨h1, h2, h3, h4, h5, h6⟩ h7)
end
/-- How a key is handed to a round. -/
def encK (x : Nat) : Array Value := #[.int .u64 (x : Int)]
def KeysEnd (f : Nat → Option Value) (J Jx : List Nat → World → Prop) (e : Ending) (W' : World) : Prop := (∃ v, e = .returned v) ∧ ((∃ xs, (xs.Nodup ∧ ∀ x, x ∈ xs ↔ (f x).isSome = true) ∧ J xs W') ∨ (∃ pre, True ∧ Jx pre W'))
set_option maxHeartbeats 4000000 in
theorem keys1_any (n L Bm b N : Nat) (f : Nat → Option Value) (J Jx : List Nat → World → Prop)
    (hY : ∀ pre x W, J pre W → pre.length < N → YieldAt Fence.wide (n - 1) Try.prog L (encK x) W fun e W' => (e = .returned (.bool true) ∧ J (pre ++ [x]) W' ∧ KeepsWalks W W') ∨ (e = .returned (.bool false) ∧ Jx (pre ++ [x]) W'))
    (hN : ∀ ks : List Nat, ks.Nodup → (∀ a ∈ ks, (f a).isSome = true) → ks.length ≤ N)
    (W : World) (hJ : AbidesFrom W.heap.size J) (hm : W.cell? ⟨Bm, 0, none⟩ = some (.map (some b))) (hown : MapAt u64V U64 W b f) (h0 : J [] W) :
    CallsIn Fence.wide n Try.prog 40 #[.func (.yield L) #[] #[], .pointer (some ⟨Bm, 0, none⟩)] W (KeysEnd f J Jx) := by
  refine callsIn_of_wp Try.func40 rfl trivial ?_ rfl
  simp only [Try.ntmps40, List.size_toArray, List.length_cons, List.length_nil, Nat.reduceAdd, Nat.reduceSub, Array.replicate_succ, Array.replicate_zero, List.push_toArray, List.append_toArray, List.nil_append, List.cons_append]
  have HNN := Lib.hid hN
  have HY := Lib.hid hY
  have HOWN := Lib.hid hown
  clear hN hY hown
  gi_wp2_with (first
    | (gi_at_range; refine wpListIn_range_at _ rfl _ 41 rfl 23 3 Try.underlying41 b f rfl HOWN.out ?_; intro w0 hrg0 hg0)
    | gi_in)
  go_frame
  gi_loopw [3] (fun _ wr => ∃ ks : List Nat, Hid (RgS wr b W.heap.size f ks) ∧ J ks wr) (fun _ wr => wr.rangeLeft b W.heap.size)
  case atStart => exact ⟨[], hrg0, hJ [] W w0 none h0 hg0 (fun r e => by cases e)⟩
  case round =>
    obtain ⟨ks, hrg, hJs⟩ := hrel
    gi_wp2_with (first
      | (gi_at_next; refine wpListIn_next_at _ rfl _ rfl b W.heap.size f ks rfl hrg.out ?_ ?_)
      | gi_in)
    · intro hall
      have HA := Lib.hid hall
      clear hall
      gi_wp2
      go_end0
      exact ⟨⟨_, rfl⟩, .inl ⟨ks, ⟨HA.out.nodup, HA.out.all⟩, hJs⟩⟩
    · intro m v w2 hnx hen
      have HX := Lib.hid hnx
      clear hnx
      have hlen : ks.length < N := by
        have h9 : (ks ++ [m]).length ≤ N := HNN.out _ HX.out.nodup (fun a ha => by
          rcases List.mem_append.1 ha with h | h
          · exact HX.out.old a h
          · have : a = m := by simpa using h
            rw [this]; exact HX.out.there)
        simp at h9
        omega
      have hJ2 : J ks w2 := hJ ks wr w2 (some W.heap.size) hJs HX.out.grown (fun r e => by cases e; exact ⟨Nat.le_refl _, hrg.out.iter⟩)
      obtain ⟨fn, tmps, assign, body, hy, hR⟩ := HY.out ks m w2 hJ2 hlen
      unfold encK at hy
      gi_wp2
      refine ⟨(fun h => by cases h), hR.mono ?_⟩
      rintro e W3 (⟨rfl, hJ4, hk4⟩ | ⟨rfl, hJx⟩)
      · obtain ⟨hr4, hl4⟩ := HX.out.rg.walks hk4
        have HR4 := Lib.hid hr4
        have HL4 := Lib.hid hl4
        have HLS := Lib.hid HX.out.less
        clear hr4 hl4 hR hy
        gi_wp2
        go_roundw
        case rel => exact ⟨ks ++ [m], HR4, hJ4⟩
        case measure => rw [HL4.out]; exact HLS.out
      · have HJX := Lib.hid hJx
        clear hJx hR hy
        gi_wp2
        refine bodyPost_ret (results_none rfl _ _ _) rfl ?_
        exact ⟨⟨_, rfl⟩, .inr ⟨ks ++ [m], trivial, HJX.out⟩⟩
theorem keys_stops (n Bm b N : Nat) (f : Nat → Option Value) (w : World) (hm : w.cell? ⟨Bm, 0, none⟩ = some (.map (some b))) (hown : MapAt u64V U64 w b f) (hN : ∀ ks : List Nat, ks.Nodup → (∀ a ∈ ks, (f a).isSome = true) → ks.length ≤ N) :
    SeqStopsK Fence.wide n Try.prog 40 #[.pointer (some ⟨Bm, 0, none⟩)] encK KeepsWalks (fun xs => xs.Nodup ∧ ∀ x, x ∈ xs ↔ (f x).isSome = true) (fun _ => True) N w := fun L J Jx W hW hJ _ hY h0 =>
  keys1_any n L Bm b N f J Jx hY hN W hJ ((hW.cell (p := ⟨Bm, 0, none⟩) (World.block_lt_of_cell? w _ hm)).trans hm) (hown.move (hW.block b hown.lt)) h0
set_option maxHeartbeats 400000 in
theorem Keys_any (b : Option Nat) (w : World) : Calls Try.prog 29 #[.map b] w fun e w' => e = .returned (.func (.func 40) #[] #[.pointer (some ⟨w.heap.size, 0, none⟩)]) ∧ w' = w.alloc (.cells #[.map b] 41) := by
  have hmf : ∀ (fn : Fn) (first cap : Array Value) (w : World), (Instr.makeFunc fn first cap).run Try.prog w = .ok (.func fn first cap) w := fun _ _ _ _ => rfl
  go_enter Try.func29, Try.ntmps29
  go_wp2_with fail
  go_ret
  exact ⟨rfl, rfl⟩
end Go.Proofs.Ytnkphpjnhjbokaa
