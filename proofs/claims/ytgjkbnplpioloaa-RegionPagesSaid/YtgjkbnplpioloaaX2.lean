/-
  Boxes: '==', follows, span, Join.
  Conditions: none beyond those that each theorem names.
-/
import Derived.Test.YtgjkbnplpioloaaPL
namespace Go.Proofs.Ytgjkbnplpioloaa
open Go.RowKit
attribute [local go_sem] Oper.semAt_some
set_option maxRecDepth 20000

def sameX (a b : Bx) : Bool := a.x0 == b.x0 && (a.y0 == b.y0 && (a.x1 == b.x1 && a.y1 == b.y1))
theorem sameX_iff (a b : Bx) : sameX a b = true ↔ a = b := by
  cases a; cases b
  simp [sameX]
theorem sameX_refl (a : Bx) : sameX a a = true := (sameX_iff a a).2 rfl
theorem fieldsbx : (Try.prog.fieldsOf 23).toList.map (fun f => (f.name, f.type, f.offset)) = [("X0", 3, 0), ("Y0", 3, 1), ("X1", 3, 2), ("Y1", 3, 3)] := by kernel_rfl
theorem equalIn_bx (d : Nat) (a b : Bx) (w : World) : (Op.equalIn (d + 2) 23 (.agg (bxA a)) (.agg (bxA b))).run Try.prog w = .ok (sameX a b) w := by
  have hu : Try.prog.underlying 23 = some (.struct (Try.prog.fieldsOf 23)) := by kernel_rfl
  have hs : Try.prog.stoodInHeld 23 = false := by kernel_rfl
  rw [run_equalIn_struct w (d + 1) _ _ _ hu hs]
  have hf := fieldsbx
  generalize (Try.prog.fieldsOf 23).toList = L at hf
  rcases L with _ | ⟨f1, _ | ⟨f2, _ | ⟨f3, _ | ⟨f4, _ | ⟨f5, L⟩⟩⟩⟩⟩ <;> simp at hf
  obtain ⟨⟨n1, t1, o1⟩, ⟨n2, t2, o2⟩, ⟨n3, t3, o3⟩, n4, t4, o4⟩ := hf
  have i3 : ∀ x y : Int, (Op.equalIn (d + 1) 3 (.int .i64 x) (.int .i64 y)).run Try.prog w = .ok (x == y) w := fun x y => by rw [run_equalIn_int w d 3 .i64 .i64 _ _ Try.underlying3]
  obtain ⟨ax, ay, ai, ak⟩ := a
  obtain ⟨bx, bY, bi, bk⟩ := b
  simp only [sameX]
  cases h1 : (ax == bx) with
  | false => simp [Op.eqFields, n1, t1, o1, part, bxA, bxL, i3, h1]
  | true =>
  cases h2 : (ay == bY) with
  | false => simp [Op.eqFields, n1, t1, o1, n2, t2, o2, part, bxA, bxL, i3, h1, h2]
  | true =>
  cases h3 : (ai == bi) with
  | false => simp [Op.eqFields, n1, t1, o1, n2, t2, o2, n3, t3, o3, part, bxA, bxL, i3, h1, h2, h3]
  | true =>
  cases h4 : (ak == bk) with
  | false => simp [Op.eqFields, n1, t1, o1, n2, t2, o2, n3, t3, o3, n4, t4, o4, part, bxA, bxL, i3, h1, h2, h3, h4]
  | true => simp [Op.eqFields, n1, t1, o1, n2, t2, o2, n3, t3, o3, n4, t4, o4, part, bxA, bxL, i3, h1, h2, h3, h4]
theorem eql_bx (a b : Bx) (w : World) : (binOp .eql 23 (.agg (bxA a)) (.agg (bxA b))).run Try.prog w = .ok (.bool (sameX a b)) w := by
  rw [run_eql_struct, equalIn_bx 9998]
  rfl
theorem neq_bx (a b : Bx) (w : World) : (binOp .neq 23 (.agg (bxA a)) (.agg (bxA b))).run Try.prog w = .ok (.bool (!(sameX a b))) w := by
  rw [run_neq_struct, equalIn_bx 9998]
  rfl
theorem guardbx : Try.prog.eqGuardType Try.prog.depth 23 = false := by kernel_rfl
theorem exec_eql_bx {op : Oper} {a : Act} (u v : Operand) (ho : op.op = .binOp .eql 23 u v 23) (x y : Bx) (w : World) (q : Bool) (hu : a.eval u = .agg (bxA x)) (hv : a.eval v = .agg (bxA y)) (hq : sameX x y = q) : (execOp a.eval op).run Try.prog w = .ok (.value (.bool q)) w := by
  subst hq
  unfold execOp
  simp only [ho, hu, hv, Sem.run_bind, run_eqGuard_agg w .eql 23 u v _ _ guardbx, Result.andThen_ok, eql_bx, Sem.run_pure]
theorem exec_neq_bx {op : Oper} {a : Act} (u v : Operand) (ho : op.op = .binOp .neq 23 u v 23) (x y : Bx) (w : World) (q : Bool) (hu : a.eval u = .agg (bxA x)) (hv : a.eval v = .agg (bxA y)) (hq : sameX x y = q) : (execOp a.eval op).run Try.prog w = .ok (.value (.bool (!q))) w := by
  subst hq
  unfold execOp
  simp only [ho, hu, hv, Sem.run_bind, run_eqGuard_agg w .neq 23 u v _ _ guardbx, Result.andThen_ok, neq_bx, Sem.run_pure]

theorem fieldsbr : (Try.prog.fieldsOf 26).toList.map (fun f => (f.name, f.type, f.offset)) = [("X0", 3, 0), ("Y0", 3, 1), ("X1", 3, 2), ("Y1", 3, 3)] := by kernel_rfl
theorem equalIn_br (d : Nat) (a b : Bx) (w : World) : (Op.equalIn (d + 2) 26 (.agg (bxA a)) (.agg (bxA b))).run Try.prog w = .ok (sameX a b) w := by
  have hu : Try.prog.underlying 26 = some (.struct (Try.prog.fieldsOf 26)) := by kernel_rfl
  have hs : Try.prog.stoodInHeld 26 = false := by kernel_rfl
  rw [run_equalIn_struct w (d + 1) _ _ _ hu hs]
  have hf := fieldsbr
  generalize (Try.prog.fieldsOf 26).toList = L at hf
  rcases L with _ | ⟨f1, _ | ⟨f2, _ | ⟨f3, _ | ⟨f4, _ | ⟨f5, L⟩⟩⟩⟩⟩ <;> simp at hf
  obtain ⟨⟨n1, t1, o1⟩, ⟨n2, t2, o2⟩, ⟨n3, t3, o3⟩, n4, t4, o4⟩ := hf
  have i3 : ∀ x y : Int, (Op.equalIn (d + 1) 3 (.int .i64 x) (.int .i64 y)).run Try.prog w = .ok (x == y) w := fun x y => by rw [run_equalIn_int w d 3 .i64 .i64 _ _ Try.underlying3]
  obtain ⟨ax, ay, ai, ak⟩ := a
  obtain ⟨bx, bY, bi, bk⟩ := b
  simp only [sameX]
  cases h1 : (ax == bx) with
  | false => simp [Op.eqFields, n1, t1, o1, part, bxA, bxL, i3, h1]
  | true =>
  cases h2 : (ay == bY) with
  | false => simp [Op.eqFields, n1, t1, o1, n2, t2, o2, part, bxA, bxL, i3, h1, h2]
  | true =>
  cases h3 : (ai == bi) with
  | false => simp [Op.eqFields, n1, t1, o1, n2, t2, o2, n3, t3, o3, part, bxA, bxL, i3, h1, h2, h3]
  | true =>
  cases h4 : (ak == bk) with
  | false => simp [Op.eqFields, n1, t1, o1, n2, t2, o2, n3, t3, o3, n4, t4, o4, part, bxA, bxL, i3, h1, h2, h3, h4]
  | true => simp [Op.eqFields, n1, t1, o1, n2, t2, o2, n3, t3, o3, n4, t4, o4, part, bxA, bxL, i3, h1, h2, h3, h4]
theorem eql_br (a b : Bx) (w : World) : (binOp .eql 26 (.agg (bxA a)) (.agg (bxA b))).run Try.prog w = .ok (.bool (sameX a b)) w := by
  rw [run_eql_struct, equalIn_br 9998]
  rfl
theorem neq_br (a b : Bx) (w : World) : (binOp .neq 26 (.agg (bxA a)) (.agg (bxA b))).run Try.prog w = .ok (.bool (!(sameX a b))) w := by
  rw [run_neq_struct, equalIn_br 9998]
  rfl
theorem guardbr : Try.prog.eqGuardType Try.prog.depth 26 = false := by kernel_rfl
theorem exec_eql_br {op : Oper} {a : Act} (u v : Operand) (ho : op.op = .binOp .eql 26 u v 26) (x y : Bx) (w : World) (q : Bool) (hu : a.eval u = .agg (bxA x)) (hv : a.eval v = .agg (bxA y)) (hq : sameX x y = q) : (execOp a.eval op).run Try.prog w = .ok (.value (.bool q)) w := by
  subst hq
  unfold execOp
  simp only [ho, hu, hv, Sem.run_bind, run_eqGuard_agg w .eql 26 u v _ _ guardbr, Result.andThen_ok, eql_br, Sem.run_pure]
theorem exec_neq_br {op : Oper} {a : Act} (u v : Operand) (ho : op.op = .binOp .neq 26 u v 26) (x y : Bx) (w : World) (q : Bool) (hu : a.eval u = .agg (bxA x)) (hv : a.eval v = .agg (bxA y)) (hq : sameX x y = q) : (execOp a.eval op).run Try.prog w = .ok (.value (.bool (!q))) w := by
  subst hq
  unfold execOp
  simp only [ho, hu, hv, Sem.run_bind, run_eqGuard_agg w .neq 26 u v _ _ guardbr, Result.andThen_ok, neq_br, Sem.run_pure]

def fol1 (a b : Bx) : Bool := sameX b ⟨a.x1, a.y0, b.x1, a.y1⟩
def fol2 (a b : Bx) : Bool := sameX b ⟨a.x0, a.y1, a.x1, b.y1⟩
def followsX (a b : Bx) : Bool := fol1 a b || fol2 a b
set_option maxHeartbeats 1600000 in
theorem follows_any (a b : Bx) (w : World) : Calls Try.prog 30 #[.agg (bxA a), .agg (bxA b)] w (RetV w (.bool (followsX a b))) := by
  have HA2 : Hid (At ((w.alloc (.cells (bxA a) 23)).alloc (.cells (bxA b) 23)) w.heap.size 23 (bxA a)) := (At.new w 23 (bxA a)).alloc _
  have HA3 : Hid (At ((w.alloc (.cells (bxA a) 23)).alloc (.cells (bxA b) 23)) (w.heap.size + 1) 23 (bxA b)) := by
    have := At.new (w.alloc (.cells (bxA a) 23)) 23 (bxA b)
    rw [World.size_alloc] at this
    exact this
  have HB : Hid (Below w.heap.size w ((w.alloc (.cells (bxA a) 23)).alloc (.cells (bxA b) 23))) := ((Below.refl _ w).alloc (Nat.le_refl _) _).alloc (by simp) _
  obtain ⟨q1, hq1⟩ : ∃ q, sameX b ⟨a.x1, a.y0, b.x1, a.y1⟩ = q := ⟨_, rfl⟩
  obtain ⟨q2, hq2⟩ : ∃ q, sameX b ⟨a.x0, a.y1, a.x1, b.y1⟩ = q := ⟨_, rfl⟩
  have H1 := Lib.hid hq1
  have H2 := Lib.hid hq2
  have HE : Hid (followsX a b = (q1 || q2)) := by show _ = _; unfold followsX fol1 fol2; rw [hq1, hq2]
  clear hq1 hq2
  cases q1
  · go_enter Try.func30, Try.ntmps30
    go_upto_region 1 with fail
    generalize ((w.alloc (.cells (bxA a) 23)).alloc (.cells (bxA b) 23)) = w2 at HA2 HA3 HB ⊢
    have ca0 : w2.cell? ⟨w.heap.size, 0, none⟩ = some (.int .i64 a.x0) := HA2.out.cell 0
    have ca1 : w2.cell? ⟨w.heap.size, 1, none⟩ = some (.int .i64 a.y0) := HA2.out.cell 1
    have ca2 : w2.cell? ⟨w.heap.size, 2, none⟩ = some (.int .i64 a.x1) := HA2.out.cell 2
    have ca3 : w2.cell? ⟨w.heap.size, 3, none⟩ = some (.int .i64 a.y1) := HA2.out.cell 3
    have cb0 : w2.cell? ⟨w.heap.size + 1, 0, none⟩ = some (.int .i64 b.x0) := HA3.out.cell 0
    have cb1 : w2.cell? ⟨w.heap.size + 1, 1, none⟩ = some (.int .i64 b.y0) := HA3.out.cell 1
    have cb2 : w2.cell? ⟨w.heap.size + 1, 2, none⟩ = some (.int .i64 b.x1) := HA3.out.cell 2
    have cb3 : w2.cell? ⟨w.heap.size + 1, 3, none⟩ = some (.int .i64 b.y1) := HA3.out.cell 3
    refine wp_region_list ?_
    refine tkL (v := .agg (bxA b)) ?_ (hy := by exact exec_load_at 23 (.tmp 3) rfl (w.heap.size + 1) rfl (bxA b) 4 strX rfl HA3.out)
    refine tkL ?_
    refine tkL ?_
    refine tkL ?_
    refine tkL ?_
    refine tkL ?_
    refine tkL ?_
    refine tkL ?_
    refine tkL ?_
    refine tkL (v := .agg (bxA ⟨a.x1, a.y0, b.x1, a.y1⟩)) ?_ (hy := by go_simp <;> rfl)
    refine tkL (v := .bool false) ?_ (hy := by have h1 := H1.out; exact exec_eql_bx (.tmp 5) (.tmp 14) rfl b ⟨a.x1, a.y0, b.x1, a.y1⟩ _ false rfl rfl h1)
    refine tkL (v := .bool false) ?_ (hy := by go_simp)
    refine tkL (v := .agg (bxA b)) ?_ (hy := by exact exec_load_at 23 (.tmp 3) rfl (w.heap.size + 1) rfl (bxA b) 4 strX rfl HA3.out)
    refine tkL ?_
    refine tkL ?_
    refine tkL ?_
    refine tkL ?_
    refine tkL ?_
    refine tkL ?_
    refine tkL ?_
    refine tkL ?_
    refine tkL (v := .agg (bxA ⟨a.x0, a.y1, a.x1, b.y1⟩)) ?_ (hy := by go_simp <;> rfl)
    refine tkL (v := .bool q2) ?_ (hy := by have h2 := H2.out; exact exec_eql_bx (.tmp 17) (.tmp 26) rfl b ⟨a.x0, a.y1, a.x1, b.y1⟩ _ q2 rfl rfl h2)
    refine tkL ?_
    refine tkL ?_
    refine endL ?_
    go_wp2_with fail
    go_ret
    exact ⟨by rw [HE.out] <;> rfl, HB.out⟩
  · go_enter Try.func30, Try.ntmps30
    go_upto_region 1 with fail
    generalize ((w.alloc (.cells (bxA a) 23)).alloc (.cells (bxA b) 23)) = w2 at HA2 HA3 HB ⊢
    have ca0 : w2.cell? ⟨w.heap.size, 0, none⟩ = some (.int .i64 a.x0) := HA2.out.cell 0
    have ca1 : w2.cell? ⟨w.heap.size, 1, none⟩ = some (.int .i64 a.y0) := HA2.out.cell 1
    have ca2 : w2.cell? ⟨w.heap.size, 2, none⟩ = some (.int .i64 a.x1) := HA2.out.cell 2
    have ca3 : w2.cell? ⟨w.heap.size, 3, none⟩ = some (.int .i64 a.y1) := HA2.out.cell 3
    have cb0 : w2.cell? ⟨w.heap.size + 1, 0, none⟩ = some (.int .i64 b.x0) := HA3.out.cell 0
    have cb1 : w2.cell? ⟨w.heap.size + 1, 1, none⟩ = some (.int .i64 b.y0) := HA3.out.cell 1
    have cb2 : w2.cell? ⟨w.heap.size + 1, 2, none⟩ = some (.int .i64 b.x1) := HA3.out.cell 2
    have cb3 : w2.cell? ⟨w.heap.size + 1, 3, none⟩ = some (.int .i64 b.y1) := HA3.out.cell 3
    refine wp_region_list ?_
    refine tkL (v := .agg (bxA b)) ?_ (hy := by exact exec_load_at 23 (.tmp 3) rfl (w.heap.size + 1) rfl (bxA b) 4 strX rfl HA3.out)
    refine tkL ?_
    refine tkL ?_
    refine tkL ?_
    refine tkL ?_
    refine tkL ?_
    refine tkL ?_
    refine tkL ?_
    refine tkL ?_
    refine tkL (v := .agg (bxA ⟨a.x1, a.y0, b.x1, a.y1⟩)) ?_ (hy := by go_simp <;> rfl)
    refine tkL (v := .bool true) ?_ (hy := by have h1 := H1.out; exact exec_eql_bx (.tmp 5) (.tmp 14) rfl b ⟨a.x1, a.y0, b.x1, a.y1⟩ _ true rfl rfl h1)
    refine tkL (v := .bool true) ?_ (hy := by go_simp)
    with_reducible refine skL ?_
    with_reducible refine skL ?_
    with_reducible refine skL ?_
    with_reducible refine skL ?_
    with_reducible refine skL ?_
    with_reducible refine skL ?_
    with_reducible refine skL ?_
    with_reducible refine skL ?_
    with_reducible refine skL ?_
    with_reducible refine skL ?_
    with_reducible refine skL ?_
    refine tkL ?_
    refine tkL ?_
    refine endL ?_
    go_wp2_with fail
    go_ret
    exact ⟨by rw [HE.out] <;> rfl, HB.out⟩
def spanX (a b : Bx) : Bx := ⟨a.x0, a.y0, b.x1, b.y1⟩
set_option maxHeartbeats 1600000 in
theorem span_any (a b : Bx) (w : World) : Calls Try.prog 31 #[.agg (bxA a), .agg (bxA b)] w (RetV w (.agg (bxA (spanX a b)))) := by
  have HA2 : Hid (At (((w.alloc (.cells (bxA a) 23)).alloc (.cells (bxA b) 23)).alloc (.cells (bxA zbx) 23)) w.heap.size 23 (bxA a)) := ((At.new w 23 (bxA a)).alloc _).alloc _
  have HA3 : Hid (At (((w.alloc (.cells (bxA a) 23)).alloc (.cells (bxA b) 23)).alloc (.cells (bxA zbx) 23)) (w.heap.size + 1) 23 (bxA b)) := by
    have := (At.new (w.alloc (.cells (bxA a) 23)) 23 (bxA b)).alloc (.cells (bxA zbx) 23)
    rw [World.size_alloc] at this
    exact this
  have HA4 : Hid (At (((w.alloc (.cells (bxA a) 23)).alloc (.cells (bxA b) 23)).alloc (.cells (bxA zbx) 23)) (w.heap.size + 2) 23 (bxA zbx)) := by
    have := At.new ((w.alloc (.cells (bxA a) 23)).alloc (.cells (bxA b) 23)) 23 (bxA zbx)
    rw [World.size_alloc, World.size_alloc] at this
    exact this
  have HB : Hid (Below w.heap.size w (((w.alloc (.cells (bxA a) 23)).alloc (.cells (bxA b) 23)).alloc (.cells (bxA zbx) 23))) := (((Below.refl _ w).alloc (Nat.le_refl _) _).alloc (by simp) _).alloc (by simp; omega) _
  go_enter Try.func31, Try.ntmps31
  go_upto_region 1 with fail
  have hz0 : (#[Value.int .i64 0, .int .i64 0, .int .i64 0, .int .i64 0] : Array Value) = bxA zbx := rfl
  rw [hz0]
  clear hz0
  generalize (((w.alloc (.cells (bxA a) 23)).alloc (.cells (bxA b) 23)).alloc (.cells (bxA zbx) 23)) = w2 at HA2 HA3 HA4 HB ⊢
  have ca0 : w2.cell? ⟨w.heap.size, 0, none⟩ = some (.int .i64 a.x0) := HA2.out.cell 0
  have ca1 : w2.cell? ⟨w.heap.size, 1, none⟩ = some (.int .i64 a.y0) := HA2.out.cell 1
  have ca2 : w2.cell? ⟨w.heap.size, 2, none⟩ = some (.int .i64 a.x1) := HA2.out.cell 2
  have ca3 : w2.cell? ⟨w.heap.size, 3, none⟩ = some (.int .i64 a.y1) := HA2.out.cell 3
  have cb0 : w2.cell? ⟨w.heap.size + 1, 0, none⟩ = some (.int .i64 b.x0) := HA3.out.cell 0
  have cb1 : w2.cell? ⟨w.heap.size + 1, 1, none⟩ = some (.int .i64 b.y0) := HA3.out.cell 1
  have cb2 : w2.cell? ⟨w.heap.size + 1, 2, none⟩ = some (.int .i64 b.x1) := HA3.out.cell 2
  have cb3 : w2.cell? ⟨w.heap.size + 1, 3, none⟩ = some (.int .i64 b.y1) := HA3.out.cell 3
  go_wp2_with (refine wpList_store_at 23 (.tmp 4) (.tmp 13) rfl rfl rfl (w.heap.size + 2) rfl (bxA (spanX a b)) (bxA zbx) 4 rfl strX rfl rfl (bxA_one _) HA4.out ?_; intro w9 h9 g9; have H9 := Lib.hid h9; have HB9 := Lib.hid (HB.out.grown g9 HB.out.size (fun j e => by injection e with e; omega)); clear h9 g9)
  exact bodyPost_ret (results_at1 (g := w.heap.size + 2) rfl H9.out strX rfl rfl) rfl ⟨rfl, HB9.out⟩
def joinX (a b : Bx) : Bx × Bool := if rightX a = false ∨ rightX b = false then (zbx, false) else if followsX a b = true then (spanX a b, true) else if followsX b a = true then (spanX b a, true) else (zbx, false)
/-- A box and whether there is one. -/
def RetXB (w : World) (x : Bx × Bool) (e : Ending) (z : World) : Prop := e = .returned (.tuple #[.agg (bxA x.1), .bool x.2]) ∧ Below w.heap.size w z
/-- While Join runs. -/
structure JnS (w : World) (t : TypeId) (a b : Bx) (y : World) : Prop where
  a : At y w.heap.size t (bxA a)
  b : At y (w.heap.size + 1) t (bxA b)
  r : At y (w.heap.size + 2) t (bxA zbx)
  bel : Below w.heap.size w y
theorem JnS.call {w y z : World} {t : TypeId} {a b : Bx} (h : JnS w t a b y) (hb : Below y.heap.size y z) : JnS w t a b z := ⟨h.a.under hb h.a.lt, h.b.under hb h.b.lt, h.r.under hb h.r.lt, h.bel.trans (hb.mono h.bel.size)⟩
theorem JnS.start (w : World) (t : TypeId) (a b : Bx) : JnS w t a b (((w.alloc (.cells (bxA a) t)).alloc (.cells (bxA b) t)).alloc (.cells (bxA zbx) t)) := by
  refine ⟨((At.new w t (bxA a)).alloc _).alloc _, ?_, ?_, (((Below.refl _ w).alloc (Nat.le_refl _) _).alloc (by simp) _).alloc (by simp; omega) _⟩
  · have := (At.new (w.alloc (.cells (bxA a) t)) t (bxA b)).alloc (.cells (bxA zbx) t)
    rw [World.size_alloc] at this
    exact this
  · have := At.new ((w.alloc (.cells (bxA a) t)).alloc (.cells (bxA b) t)) t (bxA zbx)
    rw [World.size_alloc, World.size_alloc] at this
    exact this
set_option maxHeartbeats 3200000 in
theorem Join_any (a b : Bx) (w : World) : Calls Try.prog 13 #[.agg (bxA a), .agg (bxA b)] w (RetXB w (joinX a b)) := by
  have HJ0 := Lib.hid (JnS.start w 23 a b)
  obtain ⟨ra, hra⟩ : ∃ q, rightX a = q := ⟨_, rfl⟩
  obtain ⟨rb, hrb⟩ : ∃ q, rightX b = q := ⟨_, rfl⟩
  obtain ⟨f1, hf1⟩ : ∃ q, followsX a b = q := ⟨_, rfl⟩
  obtain ⟨f2, hf2⟩ : ∃ q, followsX b a = q := ⟨_, rfl⟩
  have HRA := Lib.hid hra
  have HRB := Lib.hid hrb
  have HF1 := Lib.hid hf1
  have HF2 := Lib.hid hf2
  have HE0 : Hid (joinX a b = if ra = false ∨ rb = false then (zbx, false) else if f1 = true then (spanX a b, true) else if f2 = true then (spanX b a, true) else (zbx, false)) := by show _ = _; unfold joinX; rw [hra, hrb, hf1, hf2]
  clear hra hrb hf1 hf2
  go_enter Try.func13, Try.ntmps13
  go_upto_region 1 with fail
  have hz0 : (#[Value.int .i64 0, .int .i64 0, .int .i64 0, .int .i64 0] : Array Value) = bxA zbx := rfl
  rw [hz0]
  clear hz0
  generalize (((w.alloc (.cells (bxA a) 23)).alloc (.cells (bxA b) 23)).alloc (.cells (bxA zbx) 23)) = z0 at HJ0 ⊢
  cases ra
  · have HE : Hid (joinX a b = (zbx, false)) := by show _ = _; rw [HE0.out]; rfl
    go_wp2_with (first
      | ((with_reducible show wpList _ _ _ (⟨some 7, _, _, _, _, _⟩ :: _) _ _); refine wpList_load_at 23 7 (.tmp 2) rfl rfl rfl (w.heap.size) rfl (bxA a) 4 strX rfl HJ0.out.a ?_)
      )
    refine (xRight_any a _).mono ?_
    rintro e z1 ⟨rfl, hz⟩
    rw [HRA.out]
    have HJ1 := Lib.hid (HJ0.out.call hz)
    clear hz
    go_wp2_with (first
      | ((with_reducible show wpList _ _ _ (⟨none, _, _, _, _, _⟩ :: _) _ _); refine wpList_store_at 23 (.tmp 4) (.tmp 15) rfl rfl rfl (w.heap.size + 2) rfl (bxA zbx) (bxA zbx) 4 rfl strX rfl rfl (bxA_one _) HJ1.out.r ?_; intro w9 h9 g9; have H9 := Lib.hid h9; have HB9 := Lib.hid (HJ1.out.bel.grown g9 HJ1.out.bel.size (fun j e => by injection e with e; omega)); clear h9 g9)
      )
    rw [HE.out]
    exact bodyPost_ret (results_at2 (g := w.heap.size + 2) rfl H9.out strX rfl rfl rfl) rfl ⟨rfl, HB9.out⟩
  · cases rb
    · have HE : Hid (joinX a b = (zbx, false)) := by show _ = _; rw [HE0.out]; rfl
      go_wp2_with (first
        | ((with_reducible show wpList _ _ _ (⟨some 7, _, _, _, _, _⟩ :: _) _ _); refine wpList_load_at 23 7 (.tmp 2) rfl rfl rfl (w.heap.size) rfl (bxA a) 4 strX rfl HJ0.out.a ?_)
        )
      refine (xRight_any a _).mono ?_
      rintro e z1 ⟨rfl, hz⟩
      rw [HRA.out]
      have HJ1 := Lib.hid (HJ0.out.call hz)
      clear hz
      go_wp2_with (first
        | ((with_reducible show wpList _ _ _ (⟨some 11, _, _, _, _, _⟩ :: _) _ _); refine tkL (v := .agg (bxA b)) ?_ (hy := exec_load_at 23 (.tmp 3) rfl (w.heap.size + 1) rfl (bxA b) 4 strX rfl HJ1.out.b))
        )
      refine (xRight_any b _).mono ?_
      rintro e z2 ⟨rfl, hz⟩
      rw [HRB.out]
      have HJ2 := Lib.hid (HJ1.out.call hz)
      clear hz
      go_wp2_with (first
        | ((with_reducible show wpList _ _ _ (⟨none, _, _, _, _, _⟩ :: _) _ _); refine wpList_store_at 23 (.tmp 4) (.tmp 15) rfl rfl rfl (w.heap.size + 2) rfl (bxA zbx) (bxA zbx) 4 rfl strX rfl rfl (bxA_one _) HJ2.out.r ?_; intro w9 h9 g9; have H9 := Lib.hid h9; have HB9 := Lib.hid (HJ2.out.bel.grown g9 HJ2.out.bel.size (fun j e => by injection e with e; omega)); clear h9 g9)
        )
      rw [HE.out]
      exact bodyPost_ret (results_at2 (g := w.heap.size + 2) rfl H9.out strX rfl rfl rfl) rfl ⟨rfl, HB9.out⟩
    · cases f1
      · cases f2
        · have HE : Hid (joinX a b = (zbx, false)) := by show _ = _; rw [HE0.out]; rfl
          go_wp2_with (first
            | ((with_reducible show wpList _ _ _ (⟨some 7, _, _, _, _, _⟩ :: _) _ _); refine wpList_load_at 23 7 (.tmp 2) rfl rfl rfl (w.heap.size) rfl (bxA a) 4 strX rfl HJ0.out.a ?_)
            )
          refine (xRight_any a _).mono ?_
          rintro e z1 ⟨rfl, hz⟩
          rw [HRA.out]
          have HJ1 := Lib.hid (HJ0.out.call hz)
          clear hz
          go_wp2_with (first
            | ((with_reducible show wpList _ _ _ (⟨some 11, _, _, _, _, _⟩ :: _) _ _); refine tkL (v := .agg (bxA b)) ?_ (hy := exec_load_at 23 (.tmp 3) rfl (w.heap.size + 1) rfl (bxA b) 4 strX rfl HJ1.out.b))
            )
          refine (xRight_any b _).mono ?_
          rintro e z2 ⟨rfl, hz⟩
          rw [HRB.out]
          have HJ2 := Lib.hid (HJ1.out.call hz)
          clear hz
          go_wp2_with (first
            | ((with_reducible show wpList _ _ _ (⟨some 17, _, _, _, _, _⟩ :: _) _ _); refine wpList_load_at 23 17 (.tmp 2) rfl rfl rfl (w.heap.size) rfl (bxA a) 4 strX rfl HJ2.out.a ?_)
            | ((with_reducible show wpList _ _ _ (⟨some 18, _, _, _, _, _⟩ :: _) _ _); refine wpList_load_at 23 18 (.tmp 3) rfl rfl rfl (w.heap.size + 1) rfl (bxA b) 4 strX rfl HJ2.out.b ?_)
            )
          refine (follows_any a b _).mono ?_
          rintro e z3 ⟨rfl, hz⟩
          rw [HF1.out]
          have HJ3 := Lib.hid (HJ2.out.call hz)
          clear hz
          go_wp2_with (first
            | ((with_reducible show wpList _ _ _ (⟨some 24, _, _, _, _, _⟩ :: _) _ _); refine wpList_load_at 23 24 (.tmp 3) rfl rfl rfl (w.heap.size + 1) rfl (bxA b) 4 strX rfl HJ3.out.b ?_)
            | ((with_reducible show wpList _ _ _ (⟨some 25, _, _, _, _, _⟩ :: _) _ _); refine wpList_load_at 23 25 (.tmp 2) rfl rfl rfl (w.heap.size) rfl (bxA a) 4 strX rfl HJ3.out.a ?_)
            )
          refine (follows_any b a _).mono ?_
          rintro e z4 ⟨rfl, hz⟩
          rw [HF2.out]
          have HJ4 := Lib.hid (HJ3.out.call hz)
          clear hz
          go_wp2_with (first
            | ((with_reducible show wpList _ _ _ (⟨none, _, _, _, _, _⟩ :: _) _ _); refine wpList_store_at 23 (.tmp 4) (.tmp 30) rfl rfl rfl (w.heap.size + 2) rfl (bxA zbx) (bxA zbx) 4 rfl strX rfl rfl (bxA_one _) HJ4.out.r ?_; intro w9 h9 g9; have H9 := Lib.hid h9; have HB9 := Lib.hid (HJ4.out.bel.grown g9 HJ4.out.bel.size (fun j e => by injection e with e; omega)); clear h9 g9)
            )
          rw [HE.out]
          exact bodyPost_ret (results_at2 (g := w.heap.size + 2) rfl H9.out strX rfl rfl rfl) rfl ⟨rfl, HB9.out⟩
        · have HE : Hid (joinX a b = (spanX b a, true)) := by show _ = _; rw [HE0.out]; rfl
          go_wp2_with (first
            | ((with_reducible show wpList _ _ _ (⟨some 7, _, _, _, _, _⟩ :: _) _ _); refine wpList_load_at 23 7 (.tmp 2) rfl rfl rfl (w.heap.size) rfl (bxA a) 4 strX rfl HJ0.out.a ?_)
            )
          refine (xRight_any a _).mono ?_
          rintro e z1 ⟨rfl, hz⟩
          rw [HRA.out]
          have HJ1 := Lib.hid (HJ0.out.call hz)
          clear hz
          go_wp2_with (first
            | ((with_reducible show wpList _ _ _ (⟨some 11, _, _, _, _, _⟩ :: _) _ _); refine tkL (v := .agg (bxA b)) ?_ (hy := exec_load_at 23 (.tmp 3) rfl (w.heap.size + 1) rfl (bxA b) 4 strX rfl HJ1.out.b))
            )
          refine (xRight_any b _).mono ?_
          rintro e z2 ⟨rfl, hz⟩
          rw [HRB.out]
          have HJ2 := Lib.hid (HJ1.out.call hz)
          clear hz
          go_wp2_with (first
            | ((with_reducible show wpList _ _ _ (⟨some 17, _, _, _, _, _⟩ :: _) _ _); refine wpList_load_at 23 17 (.tmp 2) rfl rfl rfl (w.heap.size) rfl (bxA a) 4 strX rfl HJ2.out.a ?_)
            | ((with_reducible show wpList _ _ _ (⟨some 18, _, _, _, _, _⟩ :: _) _ _); refine wpList_load_at 23 18 (.tmp 3) rfl rfl rfl (w.heap.size + 1) rfl (bxA b) 4 strX rfl HJ2.out.b ?_)
            )
          refine (follows_any a b _).mono ?_
          rintro e z3 ⟨rfl, hz⟩
          rw [HF1.out]
          have HJ3 := Lib.hid (HJ2.out.call hz)
          clear hz
          go_wp2_with (first
            | ((with_reducible show wpList _ _ _ (⟨some 24, _, _, _, _, _⟩ :: _) _ _); refine wpList_load_at 23 24 (.tmp 3) rfl rfl rfl (w.heap.size + 1) rfl (bxA b) 4 strX rfl HJ3.out.b ?_)
            | ((with_reducible show wpList _ _ _ (⟨some 25, _, _, _, _, _⟩ :: _) _ _); refine wpList_load_at 23 25 (.tmp 2) rfl rfl rfl (w.heap.size) rfl (bxA a) 4 strX rfl HJ3.out.a ?_)
            )
          refine (follows_any b a _).mono ?_
          rintro e z4 ⟨rfl, hz⟩
          rw [HF2.out]
          have HJ4 := Lib.hid (HJ3.out.call hz)
          clear hz
          go_wp2_with (first
            | ((with_reducible show wpList _ _ _ (⟨some 27, _, _, _, _, _⟩ :: _) _ _); refine wpList_load_at 23 27 (.tmp 3) rfl rfl rfl (w.heap.size + 1) rfl (bxA b) 4 strX rfl HJ4.out.b ?_)
            | ((with_reducible show wpList _ _ _ (⟨some 28, _, _, _, _, _⟩ :: _) _ _); refine wpList_load_at 23 28 (.tmp 2) rfl rfl rfl (w.heap.size) rfl (bxA a) 4 strX rfl HJ4.out.a ?_)
            )
          refine (span_any b a _).mono ?_
          rintro e z5 ⟨rfl, hz⟩
          have HJ5 := Lib.hid (HJ4.out.call hz)
          clear hz
          go_wp2_with (first
            | ((with_reducible show wpList _ _ _ (⟨none, _, _, _, _, _⟩ :: _) _ _); refine wpList_store_at 23 (.tmp 4) (.tmp 29) rfl rfl rfl (w.heap.size + 2) rfl (bxA (spanX b a)) (bxA zbx) 4 rfl strX rfl rfl (bxA_one _) HJ5.out.r ?_; intro w9 h9 g9; have H9 := Lib.hid h9; have HB9 := Lib.hid (HJ5.out.bel.grown g9 HJ5.out.bel.size (fun j e => by injection e with e; omega)); clear h9 g9)
            )
          rw [HE.out]
          exact bodyPost_ret (results_at2 (g := w.heap.size + 2) rfl H9.out strX rfl rfl rfl) rfl ⟨rfl, HB9.out⟩
      · have HE : Hid (joinX a b = (spanX a b, true)) := by show _ = _; rw [HE0.out]; rfl
        go_wp2_with (first
          | ((with_reducible show wpList _ _ _ (⟨some 7, _, _, _, _, _⟩ :: _) _ _); refine wpList_load_at 23 7 (.tmp 2) rfl rfl rfl (w.heap.size) rfl (bxA a) 4 strX rfl HJ0.out.a ?_)
          )
        refine (xRight_any a _).mono ?_
        rintro e z1 ⟨rfl, hz⟩
        rw [HRA.out]
        have HJ1 := Lib.hid (HJ0.out.call hz)
        clear hz
        go_wp2_with (first
          | ((with_reducible show wpList _ _ _ (⟨some 11, _, _, _, _, _⟩ :: _) _ _); refine tkL (v := .agg (bxA b)) ?_ (hy := exec_load_at 23 (.tmp 3) rfl (w.heap.size + 1) rfl (bxA b) 4 strX rfl HJ1.out.b))
          )
        refine (xRight_any b _).mono ?_
        rintro e z2 ⟨rfl, hz⟩
        rw [HRB.out]
        have HJ2 := Lib.hid (HJ1.out.call hz)
        clear hz
        go_wp2_with (first
          | ((with_reducible show wpList _ _ _ (⟨some 17, _, _, _, _, _⟩ :: _) _ _); refine wpList_load_at 23 17 (.tmp 2) rfl rfl rfl (w.heap.size) rfl (bxA a) 4 strX rfl HJ2.out.a ?_)
          | ((with_reducible show wpList _ _ _ (⟨some 18, _, _, _, _, _⟩ :: _) _ _); refine wpList_load_at 23 18 (.tmp 3) rfl rfl rfl (w.heap.size + 1) rfl (bxA b) 4 strX rfl HJ2.out.b ?_)
          )
        refine (follows_any a b _).mono ?_
        rintro e z3 ⟨rfl, hz⟩
        rw [HF1.out]
        have HJ3 := Lib.hid (HJ2.out.call hz)
        clear hz
        go_wp2_with (first
          | ((with_reducible show wpList _ _ _ (⟨some 20, _, _, _, _, _⟩ :: _) _ _); refine wpList_load_at 23 20 (.tmp 2) rfl rfl rfl (w.heap.size) rfl (bxA a) 4 strX rfl HJ3.out.a ?_)
          | ((with_reducible show wpList _ _ _ (⟨some 21, _, _, _, _, _⟩ :: _) _ _); refine wpList_load_at 23 21 (.tmp 3) rfl rfl rfl (w.heap.size + 1) rfl (bxA b) 4 strX rfl HJ3.out.b ?_)
          )
        refine (span_any a b _).mono ?_
        rintro e z4 ⟨rfl, hz⟩
        have HJ4 := Lib.hid (HJ3.out.call hz)
        clear hz
        go_wp2_with (first
          | ((with_reducible show wpList _ _ _ (⟨none, _, _, _, _, _⟩ :: _) _ _); refine wpList_store_at 23 (.tmp 4) (.tmp 22) rfl rfl rfl (w.heap.size + 2) rfl (bxA (spanX a b)) (bxA zbx) 4 rfl strX rfl rfl (bxA_one _) HJ4.out.r ?_; intro w9 h9 g9; have H9 := Lib.hid h9; have HB9 := Lib.hid (HJ4.out.bel.grown g9 HJ4.out.bel.size (fun j e => by injection e with e; omega)); clear h9 g9)
          )
        rw [HE.out]
        exact bodyPost_ret (results_at2 (g := w.heap.size + 2) rfl H9.out strX rfl rfl rfl) rfl ⟨rfl, HB9.out⟩
end Go.Proofs.Ytgjkbnplpioloaa
