/-
  Laws on comparing pages, records and rows of bytes as the program's '==' does.
  Conditions: none beyond those that each theorem names.
-/
import Derived.Test.YtpffnjnncgmgnaaC1
import Derived.ChangeKeysEq
import Derived.Laws.StructEq
namespace Go.Proofs.Ytpffnjnncgmgnaa
open Go.RowKit
set_option maxRecDepth 8000

def pgA (p : Pg) : Array Value := (BC p.toList).toArray
theorem pgA_size (p : Pg) : (pgA p).size = 224 := by rw [pgA, List.size_toArray, BC_length, Vector.length_toList]
theorem pgA_get (p : Pg) (j : Nat) (h : j < 224) : (pgA p)[j]? = some (.int .u8 ((p.toList.getD j 0).toNat : Int)) := by
  rw [pgA, List.getElem?_toArray, BC_get _ j (by simpa using h), List.getD_eq_getElem?_getD, List.getElem?_eq_getElem (by simpa using h)]
  rfl

section
variable {P : Program}
theorem eqItems_bytes (d : Nat) {e : TypeId} (he : P.underlying e = some (.int .u8)) (a b : List UInt8) (w : World) : ∀ is : List Nat, (∀ i ∈ is, i < a.length ∧ i < b.length) →
    (Op.eqItems (d + 1) e 1 (BC a).toArray (BC b).toArray is).run P w = .ok (is.all fun i => a.getD i 0 == b.getD i 0) w
  | [], _ => by simp [Op.eqItems]
  | i :: is, h => by
    obtain ⟨hi1, hi2⟩ := h i (by simp)
    have hagg : (isAgg e).run P w = .ok false w := by
      unfold isAgg
      rw [Sem.run_bind, run_underlying he w]
      simp
    have p1 : ∀ x : List UInt8, i < x.length → (part e (BC x).toArray (i * 1)).run P w = .ok (.int .u8 ((x.getD i 0).toNat : Int)) w := fun x hx => by
      simp only [part, Sem.run_bind, hagg, Result.andThen_ok, Nat.mul_one, List.getElem?_toArray, BC_get x i hx]
      simp [List.getD, hx]
    have hq : (((a.getD i 0).toNat : Int) == ((b.getD i 0).toNat : Int)) = (a.getD i 0 == b.getD i 0) := by
      rw [Bool.eq_iff_iff, beq_iff_eq, beq_iff_eq]
      constructor
      · intro h; exact UInt8.toNat_inj.1 (by omega)
      · intro h; rw [h]
    simp only [Op.eqItems, Sem.run_bind, p1 a hi1, p1 b hi2, Result.andThen_ok, run_equalIn_int w d e .u8 .u8 _ _ he]
    rw [hq]
    have ih := eqItems_bytes d he a b w is (fun j hj => h j (by simp [hj]))
    rw [List.all_cons]
    cases hab : (a.getD i 0 == b.getD i 0) with
    | true => simpa using ih
    | false => simp
end
theorem all_same (a b : List UInt8) (n : Nat) (ha : a.length = n) (hb : b.length = n) : ((List.range n).all fun i => a.getD i 0 == b.getD i 0) = (a == b) := by
  rw [Bool.eq_iff_iff, List.all_eq_true, beq_iff_eq]
  constructor
  · intro h
    apply List.ext_getElem (by omega)
    intro i h1 h2
    have := h i (by simp; omega)
    simpa [List.getD, h1, h2] using this
  · rintro rfl i _
    simp
theorem info5 : ∃ i, Try.prog.info? 5 = some i := Option.isSome_iff_exists.1 (show (Try.prog.info? 5).isSome = true by kernel_rfl)
theorem cells5 : Try.prog.cellsOf 5 = 1 := by kernel_rfl
theorem equalIn_pg (d : Nat) (a b : Pg) (w : World) : (Op.equalIn (d + 2) 39 (.agg (pgA a)) (.agg (pgA b))).run Try.prog w = .ok (a == b) w := by
  obtain ⟨i, hi⟩ := info5
  have hb : (a.toList == b.toList) = (a == b) := by rw [Bool.eq_iff_iff, beq_iff_eq, beq_iff_eq, Vector.toList_inj]
  rw [run_equalIn_array w (d + 1) _ _ Try.underlying39 hi, cells5, pgA, pgA, eqItems_bytes d Try.underlying5 a.toList b.toList w _ (fun i hi => by simp at hi; simpa using hi), all_same a.toList b.toList 224 (by simp) (by simp), hb]
theorem imA_tail (i : Im) : (imA i).extract 1 225 = pgA i.p := by
  apply Array.ext'
  rw [imA, pgA]
  simp [imL]
  exact List.take_of_length_le (by rw [BC_length, Vector.length_toList]; exact Nat.le_refl _)
theorem part_page (i : Im) (w : World) : (part 3 (imA i) 0).run Try.prog w = .ok (.int .i64 i.page) w := by
  have hagg : (isAgg 3).run Try.prog w = .ok false w := by
    unfold isAgg
    rw [Sem.run_bind, run_underlying Try.underlying3 w]
    simp
  simp only [part, Sem.run_bind, hagg, Result.andThen_ok, imA_page]
  simp
theorem part_p (i : Im) (w : World) : (part 39 (imA i) 1).run Try.prog w = .ok (.agg (pgA i.p)) w := by
  have hagg : (isAgg 39).run Try.prog w = .ok true w := by
    unfold isAgg
    rw [Sem.run_bind, run_underlying Try.underlying39 w]
    simp
  obtain ⟨_, _, _, h3⟩ := str49
  cases hq : Try.prog.info? 39 with
  | none => simp [hq] at h3
  | some j =>
    have hs : j.size = 224 := by simpa [hq] using h3
    simp [part, hagg, sizeOf, typeInfo, hq, hs, imA_tail]
theorem fields51 : (Try.prog.fieldsOf 41).toList.map (fun f => (f.name, f.type, f.offset)) = [("Page", 3, 0), ("P", 39, 1)] := by kernel_rfl
theorem equalIn_im (d : Nat) (a b : Im) (w : World) : (Op.equalIn (d + 3) 41 (.agg (imA a)) (.agg (imA b))).run Try.prog w = .ok (sameI a b) w := by
  have hu : Try.prog.underlying 41 = some (.struct (Try.prog.fieldsOf 41)) := by kernel_rfl
  have hs : Try.prog.stoodInHeld 41 = false := by kernel_rfl
  rw [run_equalIn_struct w (d + 2) _ _ _ hu hs]
  have hf := fields51
  cases hq : (Try.prog.fieldsOf 41).toList with
  | nil => rw [hq] at hf; cases hf
  | cons f1 r =>
    cases r with
    | nil => rw [hq] at hf; simp at hf
    | cons f2 r =>
      cases r with
      | cons _ _ => rw [hq] at hf; simp at hf
      | nil =>
        rw [hq] at hf
        simp at hf
        obtain ⟨⟨n1, t1, o1⟩, n2, t2, o2⟩ := hf
        have e1 : (Op.equalIn (d + 2) 3 (.int .i64 a.page) (.int .i64 b.page)).run Try.prog w = .ok (a.page == b.page) w := run_equalIn_int w (d + 1) 3 .i64 .i64 _ _ Try.underlying3
        have e0 : (a.page == b.page) = decide (a.page = b.page) := by rw [Bool.eq_iff_iff, beq_iff_eq, decide_eq_true_eq]
        rw [sameI, ← e0]
        cases hp : (a.page == b.page) with
        | false => simp [Op.eqFields, n1, t1, o1, n2, part_page, e1, hp]
        | true => simp [Op.eqFields, n1, t1, o1, n2, t2, o2, part_page, part_p, e1, hp, equalIn_pg]
                  by_cases hpp : a.p = b.p
                  · simp [hpp]
                  · have : (a.p == b.p) = false := by simpa using hpp
                    rw [if_neg hpp, this]
theorem neq_im (a b : Im) (w : World) : (binOp .neq 41 (.agg (imA a)) (.agg (imA b))).run Try.prog w = .ok (.bool (!(sameI a b))) w := by
  rw [run_neq_struct, equalIn_im 9997]
  rfl
theorem neq_pg (a b : Pg) (w : World) : (binOp .neq 39 (.agg (pgA a)) (.agg (pgA b))).run Try.prog w = .ok (.bool (!(a == b))) w := by
  rw [run_neq_struct, equalIn_pg 9998]
  rfl
theorem fields25 : (Try.prog.fieldsOf 52).toList.map (fun f => (f.name, f.type, f.offset)) = [("Id", 23, 0), ("Key", 23, 1), ("X", 50, 2), ("Y", 50, 3), ("Val", 9, 4), ("Ghost", 4, 5)] := by kernel_rfl
theorem nat_beq (a b : Nat) : ((a : Int) == (b : Int)) = (a == b) := by
  rw [Bool.eq_iff_iff, beq_iff_eq, beq_iff_eq]
  omega
theorem equalIn_rc (d : Nat) (a b : Rc) (w : World) : (Op.equalIn (d + 2) 52 (.agg #[.int .u64 (a.id : Nat), .int .u64 (a.key : Nat), .int .u32 (a.x : Nat), .int .u32 (a.y : Nat), .string (strOf a.val), .bool a.ghost]) (.agg #[.int .u64 (b.id : Nat), .int .u64 (b.key : Nat), .int .u32 (b.x : Nat), .int .u32 (b.y : Nat), .string (strOf b.val), .bool b.ghost])).run Try.prog w = .ok (sameR a b) w := by
  have hu : Try.prog.underlying 52 = some (.struct (Try.prog.fieldsOf 52)) := by kernel_rfl
  have hs : Try.prog.stoodInHeld 52 = false := by kernel_rfl
  rw [run_equalIn_struct w (d + 1) _ _ _ hu hs]
  have hf := fields25
  generalize (Try.prog.fieldsOf 52).toList = L at hf
  rcases L with _ | ⟨f1, _ | ⟨f2, _ | ⟨f3, _ | ⟨f4, _ | ⟨f5, _ | ⟨f6, _ | ⟨f7, L⟩⟩⟩⟩⟩⟩⟩ <;> simp at hf
  obtain ⟨⟨n1, t1, o1⟩, ⟨n2, t2, o2⟩, ⟨n3, t3, o3⟩, ⟨n4, t4, o4⟩, ⟨n5, t5, o5⟩, n6, t6, o6⟩ := hf
  have i22 : ∀ x y : Nat, (Op.equalIn (d + 1) 23 (.int .u64 (x : Int)) (.int .u64 (y : Int))).run Try.prog w = .ok (x == y) w := fun x y => by rw [run_equalIn_int w d 23 .u64 .u64 _ _ Try.underlying23, nat_beq]
  have i23 : ∀ x y : Nat, (Op.equalIn (d + 1) 50 (.int .u32 (x : Int)) (.int .u32 (y : Int))).run Try.prog w = .ok (x == y) w := fun x y => by rw [run_equalIn_int w d 50 .u32 .u32 _ _ Try.underlying50, nat_beq]
  have i9 : ∀ x y : List UInt8, (Op.equalIn (d + 1) 9 (.string (strOf x)) (.string (strOf y))).run Try.prog w = .ok (x == y) w := fun x y => by
    rw [run_equalIn_string w d 9 _ _ Try.underlying9]
    simp only [ByteArray.toList_eq, strOf_toList]
  have i4 : ∀ x y : Bool, (Op.equalIn (d + 1) 4 (.bool x) (.bool y)).run Try.prog w = .ok (x == y) w := fun x y => run_equalIn_bool' w d 4 x y Try.underlying4
  obtain ⟨ai, ak, ax, ay, av, ab⟩ := a
  obtain ⟨bi, bk, bx, bY, bv, bb⟩ := b
  simp only [sameR]
  cases h1 : (ai == bi) with
  | false => simp [Op.eqFields, n1, t1, o1, part, i22, h1]
  | true =>
  cases h2 : (ak == bk) with
  | false => simp [Op.eqFields, n1, t1, o1, n2, t2, o2, part, i22, h1, h2]
  | true =>
  cases h3 : (ax == bx) with
  | false => simp [Op.eqFields, n1, t1, o1, n2, t2, o2, n3, t3, o3, part, i22, i23, h1, h2, h3]
  | true =>
  cases h4 : (ay == bY) with
  | false => simp [Op.eqFields, n1, t1, o1, n2, t2, o2, n3, t3, o3, n4, t4, o4, part, i22, i23, h1, h2, h3, h4]
  | true =>
  cases h5 : (av == bv) with
  | false => simp [Op.eqFields, n1, t1, o1, n2, t2, o2, n3, t3, o3, n4, t4, o4, n5, t5, o5, part, i22, i23, i9, h1, h2, h3, h4, h5]
  | true =>
  cases h6 : (ab == bb) with
  | false => simp [Op.eqFields, n1, t1, o1, n2, t2, o2, n3, t3, o3, n4, t4, o4, n5, t5, o5, n6, t6, o6, part, i22, i23, i9, i4, h1, h2, h3, h4, h5, h6]
  | true => simp [Op.eqFields, n1, t1, o1, n2, t2, o2, n3, t3, o3, n4, t4, o4, n5, t5, o5, n6, t6, o6, part, i22, i23, i9, i4, h1, h2, h3, h4, h5, h6]
theorem eql_rc (a b : Rc) (w : World) : (binOp .eql 52 (.agg #[.int .u64 (a.id : Nat), .int .u64 (a.key : Nat), .int .u32 (a.x : Nat), .int .u32 (a.y : Nat), .string (strOf a.val), .bool a.ghost]) (.agg #[.int .u64 (b.id : Nat), .int .u64 (b.key : Nat), .int .u32 (b.x : Nat), .int .u32 (b.y : Nat), .string (strOf b.val), .bool b.ghost])).run Try.prog w = .ok (.bool (sameR a b)) w := by
  rw [run_eql_struct, equalIn_rc 9998]
  rfl
theorem neq_rc (a b : Rc) (w : World) : (binOp .neq 52 (.agg #[.int .u64 (a.id : Nat), .int .u64 (a.key : Nat), .int .u32 (a.x : Nat), .int .u32 (a.y : Nat), .string (strOf a.val), .bool a.ghost]) (.agg #[.int .u64 (b.id : Nat), .int .u64 (b.key : Nat), .int .u32 (b.x : Nat), .int .u32 (b.y : Nat), .string (strOf b.val), .bool b.ghost])).run Try.prog w = .ok (.bool (!(sameR a b))) w := by
  rw [run_neq_struct, equalIn_rc 9998]
  rfl
theorem guard51 : Try.prog.eqGuardType Try.prog.depth 41 = false := by kernel_rfl
theorem guard49 : Try.prog.eqGuardType Try.prog.depth 39 = false := by kernel_rfl
theorem guard25 : Try.prog.eqGuardType Try.prog.depth 52 = false := by kernel_rfl
section
variable {op : Oper} {a : Act}
theorem exec_neq_im (u v : Operand) (ho : op.op = .binOp .neq 41 u v 41) (x y : Im) (w : World) (hu : a.eval u = .agg (imA x)) (hv : a.eval v = .agg (imA y)) : (execOp a.eval op).run Try.prog w = .ok (.value (.bool (!(sameI x y)))) w := by
  unfold execOp
  simp only [ho, hu, hv, Sem.run_bind, run_eqGuard_agg w .neq 41 u v _ _ guard51, Result.andThen_ok, neq_im, Sem.run_pure]
theorem exec_neq_pg (u v : Operand) (ho : op.op = .binOp .neq 39 u v 39) (x y : Pg) (w : World) (hu : a.eval u = .agg (pgA x)) (hv : a.eval v = .agg (pgA y)) : (execOp a.eval op).run Try.prog w = .ok (.value (.bool (!(x == y)))) w := by
  unfold execOp
  simp only [ho, hu, hv, Sem.run_bind, run_eqGuard_agg w .neq 39 u v _ _ guard49, Result.andThen_ok, neq_pg, Sem.run_pure]
theorem exec_load_im {w : World} (x : Operand) (ho : op.op = .load 41 x) (g o : Nat) (hx : a.eval x = .pointer (some ⟨g, o, none⟩)) (i : Im) (hc : w.rangeAt g o (imL i)) : (execOp a.eval op).run Try.prog w = .ok (.value (.agg (imA i))) w := by
  obtain ⟨ds, h1, h2, h3⟩ := str51
  unfold execOp
  simp only [ho, hx, Instr.loadAt, Instr.sureAddr, Sem.run_bind, Sem.run_pure, Result.andThen_ok, run_loadVar_mid w g o 41 (imL i) ds hc h1 h2 (by rw [imL_length]; exact h3)]
  rfl
theorem exec_load_pg {w : World} (x : Operand) (ho : op.op = .load 39 x) (g o : Nat) (hx : a.eval x = .pointer (some ⟨g, o, none⟩)) (i : Im) (q : Nat) (hq : o = q + 1) (hc : w.rangeAt g q (imL i)) : (execOp a.eval op).run Try.prog w = .ok (.value (.agg (pgA i.p))) w := by
  obtain ⟨ds, h1, h2, h3⟩ := str49
  subst hq
  have hr : w.rangeAt g (q + 1) (BC i.p.toList) := fun j v hv => by
    rw [Nat.add_assoc, Nat.add_comm 1 j]
    refine hc (j + 1) v ?_
    rw [imL, List.getElem?_cons_succ]
    exact hv
  unfold execOp
  simp only [ho, hx, Instr.loadAt, Instr.sureAddr, Sem.run_bind, Sem.run_pure, Result.andThen_ok, run_loadVar_mid w g (q + 1) 39 (BC i.p.toList) ds hr h1 h2 (by rw [BC_length, Vector.length_toList]; exact h3)]
  rfl
end
end Go.Proofs.Ytpffnjnncgmgnaa
