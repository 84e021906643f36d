/-
  Walks: the reference's Same.
  Conditions: at most 1000 pages and numbers in each entry.
-/
import Derived.Test.YthicidpdgggbjaaDoorEAQ
namespace Go.Proofs.YthicidpdgggbjaaDoor
open Go.RowKit
set_option maxRecDepth 8000

theorem i_bne (a b : Int) : (a != b) = !(decide (a = b)) := by rw [bne, i_beq]
theorem nat_bne (a b : Nat) : ((a : Int) != (b : Int)) = !(a == b) := by rw [bne, nat_beq]

set_option maxHeartbeats 3200000 in
theorem refSame_no (e f : Ent) (PA QA RA SA : Option Addr) (np pc na qc mp rc ma sc : Nat) (w : World)
    (hs : (e.lsn == f.lsn && (decide (e.kind = f.kind) && (e.txn == f.txn && (e.prev == f.prev && (e.next == f.next && (sameR e.rc f.rc && (np == mp && na == ma))))))) = false) :
    Calls Tryd.prog 40 #[.agg #[.int .u64 (e.lsn : Nat), .int .i64 e.kind, .int .u64 (e.txn : Nat), .int .u64 (e.prev : Nat), .int .u64 (e.next : Nat), .int .u64 (e.rc.id : Nat), .int .u64 (e.rc.key : Nat), .int .u32 (e.rc.x : Nat), .int .u32 (e.rc.y : Nat), .string (strOf e.rc.val), .bool e.rc.ghost, .slice PA np pc, .slice QA na qc], .agg #[.int .u64 (f.lsn : Nat), .int .i64 f.kind, .int .u64 (f.txn : Nat), .int .u64 (f.prev : Nat), .int .u64 (f.next : Nat), .int .u64 (f.rc.id : Nat), .int .u64 (f.rc.key : Nat), .int .u32 (f.rc.x : Nat), .int .u32 (f.rc.y : Nat), .string (strOf f.rc.val), .bool f.rc.ghost, .slice RA mp rc, .slice SA ma sc]] w (RetQ w false) := by
  have BW := Lib.hid (((Below.refl w.heap.size w).alloc (Nat.le_refl _) (.cells #[.int .u64 (e.lsn : Nat), .int .i64 e.kind, .int .u64 (e.txn : Nat), .int .u64 (e.prev : Nat), .int .u64 (e.next : Nat), .int .u64 (e.rc.id : Nat), .int .u64 (e.rc.key : Nat), .int .u32 (e.rc.x : Nat), .int .u32 (e.rc.y : Nat), .string (strOf e.rc.val), .bool e.rc.ghost, .slice PA np pc, .slice QA na qc] 42)).alloc (by simp) (.cells #[.int .u64 (f.lsn : Nat), .int .i64 f.kind, .int .u64 (f.txn : Nat), .int .u64 (f.prev : Nat), .int .u64 (f.next : Nat), .int .u64 (f.rc.id : Nat), .int .u64 (f.rc.key : Nat), .int .u32 (f.rc.x : Nat), .int .u32 (f.rc.y : Nat), .string (strOf f.rc.val), .bool f.rc.ghost, .slice RA mp rc, .slice SA ma sc] 42))
  obtain ⟨a0, a1, a2, a3, a4, a5, a6, a7, a8, a9, a10, a11, a12⟩ := EntAt.mk' ((At.new w 42 #[.int .u64 (e.lsn : Nat), .int .i64 e.kind, .int .u64 (e.txn : Nat), .int .u64 (e.prev : Nat), .int .u64 (e.next : Nat), .int .u64 (e.rc.id : Nat), .int .u64 (e.rc.key : Nat), .int .u32 (e.rc.x : Nat), .int .u32 (e.rc.y : Nat), .string (strOf e.rc.val), .bool e.rc.ghost, .slice PA np pc, .slice QA na qc]).alloc (.cells #[.int .u64 (f.lsn : Nat), .int .i64 f.kind, .int .u64 (f.txn : Nat), .int .u64 (f.prev : Nat), .int .u64 (f.next : Nat), .int .u64 (f.rc.id : Nat), .int .u64 (f.rc.key : Nat), .int .u32 (f.rc.x : Nat), .int .u32 (f.rc.y : Nat), .string (strOf f.rc.val), .bool f.rc.ghost, .slice RA mp rc, .slice SA ma sc] 42))
  obtain ⟨b0, b1, b2, b3, b4, b5, b6, b7, b8, b9, b10, b11, b12⟩ := EntAt.mk' (At.new (w.alloc (.cells #[.int .u64 (e.lsn : Nat), .int .i64 e.kind, .int .u64 (e.txn : Nat), .int .u64 (e.prev : Nat), .int .u64 (e.next : Nat), .int .u64 (e.rc.id : Nat), .int .u64 (e.rc.key : Nat), .int .u32 (e.rc.x : Nat), .int .u32 (e.rc.y : Nat), .string (strOf e.rc.val), .bool e.rc.ghost, .slice PA np pc, .slice QA na qc] 42)) 42 #[.int .u64 (f.lsn : Nat), .int .i64 f.kind, .int .u64 (f.txn : Nat), .int .u64 (f.prev : Nat), .int .u64 (f.next : Nat), .int .u64 (f.rc.id : Nat), .int .u64 (f.rc.key : Nat), .int .u32 (f.rc.x : Nat), .int .u32 (f.rc.y : Nat), .string (strOf f.rc.val), .bool f.rc.ghost, .slice RA mp rc, .slice SA ma sc])
  rw [show (w.alloc (.cells #[.int .u64 (e.lsn : Nat), .int .i64 e.kind, .int .u64 (e.txn : Nat), .int .u64 (e.prev : Nat), .int .u64 (e.next : Nat), .int .u64 (e.rc.id : Nat), .int .u64 (e.rc.key : Nat), .int .u32 (e.rc.x : Nat), .int .u32 (e.rc.y : Nat), .string (strOf e.rc.val), .bool e.rc.ghost, .slice PA np pc, .slice QA na qc] 42)).heap.size = w.heap.size + 1 by simp] at b0 b1 b2 b3 b4 b5 b6 b7 b8 b9 b10 b11 b12
  have qr := fun W => neq_rc e.rc f.rc W
  have n0 : ((e.lsn : Int) != (f.lsn : Int)) = !(e.lsn == f.lsn) := nat_bne _ _
  have n1 : (e.kind != f.kind) = !(decide (e.kind = f.kind)) := i_bne _ _
  have n2 : ((e.txn : Int) != (f.txn : Int)) = !(e.txn == f.txn) := nat_bne _ _
  have n3 : ((e.prev : Int) != (f.prev : Int)) = !(e.prev == f.prev) := nat_bne _ _
  have n4 : ((e.next : Int) != (f.next : Int)) = !(e.next == f.next) := nat_bne _ _
  have n6 : ((np : Int) != (mp : Int)) = !(np == mp) := nat_bne _ _
  have n7 : ((na : Int) != (ma : Int)) = !(na == ma) := nat_bne _ _
  generalize (e.lsn == f.lsn) = q0 at *
  generalize decide (e.kind = f.kind) = q1 at *
  generalize (e.txn == f.txn) = q2 at *
  generalize (e.prev == f.prev) = q3 at *
  generalize (e.next == f.next) = q4 at *
  generalize sameR e.rc f.rc = q5 at *
  generalize (np == mp) = q6 at *
  generalize (na == ma) = q7 at *
  have HS := Lib.hid hs
  clear hs
  cases q0 with
  | false =>
    simp only [Bool.not_false] at n0
    go_enter Tryd.func40, Tryd.ntmps40
    go_wp2_with fail
    go_ret
    exact ⟨rfl, BW.out⟩
  | true =>
  simp only [Bool.not_true] at n0
  cases q1 with
  | false =>
    simp only [Bool.not_false] at n1
    go_enter Tryd.func40, Tryd.ntmps40
    go_wp2_with fail
    go_ret
    exact ⟨rfl, BW.out⟩
  | true =>
  simp only [Bool.not_true] at n1
  cases q2 with
  | false =>
    simp only [Bool.not_false] at n2
    go_enter Tryd.func40, Tryd.ntmps40
    go_wp2_with fail
    go_ret
    exact ⟨rfl, BW.out⟩
  | true =>
  simp only [Bool.not_true] at n2
  cases q3 with
  | false =>
    simp only [Bool.not_false] at n3
    go_enter Tryd.func40, Tryd.ntmps40
    go_wp2_with fail
    go_ret
    exact ⟨rfl, BW.out⟩
  | true =>
  simp only [Bool.not_true] at n3
  cases q4 with
  | false =>
    simp only [Bool.not_false] at n4
    go_enter Tryd.func40, Tryd.ntmps40
    go_wp2_with fail
    go_ret
    exact ⟨rfl, BW.out⟩
  | true =>
  simp only [Bool.not_true] at n4
  cases q5 with
  | false =>
    simp only [Bool.not_false] at qr
    go_enter Tryd.func40, Tryd.ntmps40
    go_wp2_with fail
    go_ret
    exact ⟨rfl, BW.out⟩
  | true =>
  simp only [Bool.not_true] at qr
  cases q6 with
  | false =>
    simp only [Bool.not_false] at n6
    go_enter Tryd.func40, Tryd.ntmps40
    go_wp2_with fail
    go_ret
    exact ⟨rfl, BW.out⟩
  | true =>
  simp only [Bool.not_true] at n6
  cases q7 with
  | false =>
    simp only [Bool.not_false] at n7
    go_enter Tryd.func40, Tryd.ntmps40
    go_wp2_with fail
    go_ret
    exact ⟨rfl, BW.out⟩
  | true =>
  simp only [Bool.not_true] at n7
  exact absurd HS.out (by simp)

set_option maxHeartbeats 6400000 in
theorem refSame_yes (e f : Ent) (PA QA RA SA : Option Addr) (np pc na qc rc sc : Nat) (w : World) (h : EL w w.heap.size e PA np QA na) (k : EL w w.heap.size f RA np SA na) (hnp : np ≤ 1000) (hna : na ≤ 1000)
    (hs : (e.lsn == f.lsn && (decide (e.kind = f.kind) && (e.txn == f.txn && (e.prev == f.prev && (e.next == f.next && sameR e.rc f.rc))))) = true) :
    Calls Tryd.prog 40 #[.agg #[.int .u64 (e.lsn : Nat), .int .i64 e.kind, .int .u64 (e.txn : Nat), .int .u64 (e.prev : Nat), .int .u64 (e.next : Nat), .int .u64 (e.rc.id : Nat), .int .u64 (e.rc.key : Nat), .int .u32 (e.rc.x : Nat), .int .u32 (e.rc.y : Nat), .string (strOf e.rc.val), .bool e.rc.ghost, .slice PA np pc, .slice QA na qc], .agg #[.int .u64 (f.lsn : Nat), .int .i64 f.kind, .int .u64 (f.txn : Nat), .int .u64 (f.prev : Nat), .int .u64 (f.next : Nat), .int .u64 (f.rc.id : Nat), .int .u64 (f.rc.key : Nat), .int .u32 (f.rc.x : Nat), .int .u32 (f.rc.y : Nat), .string (strOf f.rc.val), .bool f.rc.ghost, .slice RA np rc, .slice SA na sc]] w (RetQ w (sameIs e.pages f.pages && e.act == f.act)) := by
  have BW := Lib.hid (((Below.refl w.heap.size w).alloc (Nat.le_refl _) (.cells #[.int .u64 (e.lsn : Nat), .int .i64 e.kind, .int .u64 (e.txn : Nat), .int .u64 (e.prev : Nat), .int .u64 (e.next : Nat), .int .u64 (e.rc.id : Nat), .int .u64 (e.rc.key : Nat), .int .u32 (e.rc.x : Nat), .int .u32 (e.rc.y : Nat), .string (strOf e.rc.val), .bool e.rc.ghost, .slice PA np pc, .slice QA na qc] 42)).alloc (by simp) (.cells #[.int .u64 (f.lsn : Nat), .int .i64 f.kind, .int .u64 (f.txn : Nat), .int .u64 (f.prev : Nat), .int .u64 (f.next : Nat), .int .u64 (f.rc.id : Nat), .int .u64 (f.rc.key : Nat), .int .u32 (f.rc.x : Nat), .int .u32 (f.rc.y : Nat), .string (strOf f.rc.val), .bool f.rc.ghost, .slice RA np rc, .slice SA na sc] 42))
  obtain ⟨a0, a1, a2, a3, a4, a5, a6, a7, a8, a9, a10, a11, a12⟩ := EntAt.mk' ((At.new w 42 #[.int .u64 (e.lsn : Nat), .int .i64 e.kind, .int .u64 (e.txn : Nat), .int .u64 (e.prev : Nat), .int .u64 (e.next : Nat), .int .u64 (e.rc.id : Nat), .int .u64 (e.rc.key : Nat), .int .u32 (e.rc.x : Nat), .int .u32 (e.rc.y : Nat), .string (strOf e.rc.val), .bool e.rc.ghost, .slice PA np pc, .slice QA na qc]).alloc (.cells #[.int .u64 (f.lsn : Nat), .int .i64 f.kind, .int .u64 (f.txn : Nat), .int .u64 (f.prev : Nat), .int .u64 (f.next : Nat), .int .u64 (f.rc.id : Nat), .int .u64 (f.rc.key : Nat), .int .u32 (f.rc.x : Nat), .int .u32 (f.rc.y : Nat), .string (strOf f.rc.val), .bool f.rc.ghost, .slice RA np rc, .slice SA na sc] 42))
  obtain ⟨b0, b1, b2, b3, b4, b5, b6, b7, b8, b9, b10, b11, b12⟩ := EntAt.mk' (At.new (w.alloc (.cells #[.int .u64 (e.lsn : Nat), .int .i64 e.kind, .int .u64 (e.txn : Nat), .int .u64 (e.prev : Nat), .int .u64 (e.next : Nat), .int .u64 (e.rc.id : Nat), .int .u64 (e.rc.key : Nat), .int .u32 (e.rc.x : Nat), .int .u32 (e.rc.y : Nat), .string (strOf e.rc.val), .bool e.rc.ghost, .slice PA np pc, .slice QA na qc] 42)) 42 #[.int .u64 (f.lsn : Nat), .int .i64 f.kind, .int .u64 (f.txn : Nat), .int .u64 (f.prev : Nat), .int .u64 (f.next : Nat), .int .u64 (f.rc.id : Nat), .int .u64 (f.rc.key : Nat), .int .u32 (f.rc.x : Nat), .int .u32 (f.rc.y : Nat), .string (strOf f.rc.val), .bool f.rc.ghost, .slice RA np rc, .slice SA na sc])
  rw [show (w.alloc (.cells #[.int .u64 (e.lsn : Nat), .int .i64 e.kind, .int .u64 (e.txn : Nat), .int .u64 (e.prev : Nat), .int .u64 (e.next : Nat), .int .u64 (e.rc.id : Nat), .int .u64 (e.rc.key : Nat), .int .u32 (e.rc.x : Nat), .int .u32 (e.rc.y : Nat), .string (strOf e.rc.val), .bool e.rc.ghost, .slice PA np pc, .slice QA na qc] 42)).heap.size = w.heap.size + 1 by simp] at b0 b1 b2 b3 b4 b5 b6 b7 b8 b9 b10 b11 b12
  have qr := fun W => neq_rc e.rc f.rc W
  have HE := Lib.hid (h.under BW.out)
  have HF := Lib.hid (k.under BW.out)
  clear h k
  simp only [Bool.and_eq_true] at hs
  obtain ⟨h0, h1, h2, h3, h4, h5⟩ := hs
  have n0 : ((e.lsn : Int) != (f.lsn : Int)) = false := by rw [nat_bne, h0]; rfl
  have n1 : (e.kind != f.kind) = false := by rw [i_bne, h1]; rfl
  have n2 : ((e.txn : Int) != (f.txn : Int)) = false := by rw [nat_bne, h2]; rfl
  have n3 : ((e.prev : Int) != (f.prev : Int)) = false := by rw [nat_bne, h3]; rfl
  have n4 : ((e.next : Int) != (f.next : Int)) = false := by rw [nat_bne, h4]; rfl
  rw [h5, Bool.not_true] at qr
  clear h0 h1 h2 h3 h4 h5
  have n6 : ((np : Int) != (np : Int)) = false := by simp
  have n7 : ((na : Int) != (na : Int)) = false := by simp
  go_enter Tryd.func40, Tryd.ntmps40
  go_wp2_with fail
  generalize hW : ((w.alloc (.cells #[.int .u64 (e.lsn : Nat), .int .i64 e.kind, .int .u64 (e.txn : Nat), .int .u64 (e.prev : Nat), .int .u64 (e.next : Nat), .int .u64 (e.rc.id : Nat), .int .u64 (e.rc.key : Nat), .int .u32 (e.rc.x : Nat), .int .u32 (e.rc.y : Nat), .string (strOf e.rc.val), .bool e.rc.ghost, .slice PA np pc, .slice QA na qc] 42)).alloc (.cells #[.int .u64 (f.lsn : Nat), .int .i64 f.kind, .int .u64 (f.txn : Nat), .int .u64 (f.prev : Nat), .int .u64 (f.next : Nat), .int .u64 (f.rc.id : Nat), .int .u64 (f.rc.key : Nat), .int .u32 (f.rc.x : Nat), .int .u32 (f.rc.y : Nat), .string (strOf f.rc.val), .bool f.rc.ghost, .slice RA np rc, .slice SA na sc] 42)) = W at *
  clear hW a0 a1 a2 a3 a4 a5 a6 a7 a8 a9 a10 b0 b1 b2 b3 b4 b5 b6 b7 b8 b9 b10 qr n0 n1 n2 n3 n4 n6 n7
  have HL1 := Lib.hid HE.out.lenP
  have HL2 := Lib.hid HF.out.lenP
  have HM1 := Lib.hid HE.out.lenA
  have HM2 := Lib.hid HF.out.lenA
  go_loopw [5] (fun i wr => ∃ k : Nat, k ≤ np ∧ i = .int .i64 k ∧ Hid (e.pages.take k = f.pages.take k) ∧ Hid (∃ m, wr = W.drewN m)) (fun i _ => np - (intOf i).toNat)
  case atStart => exact ⟨0, Nat.zero_le _, rfl, Lib.hid rfl, Lib.hid ⟨0, rfl⟩⟩
  case round =>
    obtain ⟨k, hk, rfl, hE, hB⟩ := hrel
    obtain ⟨m, rfl⟩ := hB.out
    clear hB
    by_cases hlt : k < np
    · obtain ⟨b1, o1, k1, rfl, _, hr1⟩ := HE.out.pages.at hlt
      obtain ⟨b2, o2, k2, rfl, _, hr2⟩ := HF.out.pages.at hlt
      have R1 := Lib.hid hr1
      have R2 := Lib.hid hr2
      have p1 := im_page hr1
      have p2 := im_page hr2
      have e1 := Lib.hid (take_snocI e.pages k k1)
      have e2 := Lib.hid (take_snocI f.pages k k2)
      clear hr1 hr2
      generalize e.pages[k] = x1 at *
      generalize f.pages[k] = x2 at *
      have NE : Hid (x1 ≠ x2 → sameIs e.pages f.pages = false) := fun hx => by
        apply sameIs_ne
        intro hq
        have h1 := e1.out
        rw [hq, e2.out] at h1
        have := (List.append_inj' h1 rfl).2
        injection this with this
        exact hx this.symm
      by_cases hp : x1.page = x2.page
      · have hpn : (x1.page != x2.page) = false := by rw [hp]; simp
        have HP := Lib.hid hp
        clear hp
        go_wp2_with fail
        refine wp_region_held_drew (S := fun z => ∃ m2, z = W.drewN m2) (by kernel_rfl) ⟨m + 1, rfl⟩ (fun hS => ?_)
        refine takeH (i := 0) (d := 72) (v := ?va0) rfl (by kernel_rfl) (by kernel_rfl) (by kernel_rfl) (fun _ _ _ h => h) rfl (by rfl) ?ya0 hS ?ra0
        case ya0 => (intro wz hz; obtain ⟨m2, rfl⟩ := hz; go_simp <;> with_reducible rfl)
        simp only [List.setIfInBounds_toArray, List.set_cons_zero, List.set_cons_succ]
        refine takeH (i := 1) (d := 73) (v := ?va1) rfl (by kernel_rfl) (by kernel_rfl) (by kernel_rfl) (fun _ _ _ h => h) rfl (by rfl) ?ya1 hS ?ra1
        case ya1 => (intro wz hz; obtain ⟨m2, rfl⟩ := hz; go_simp <;> with_reducible rfl)
        simp only [List.setIfInBounds_toArray, List.set_cons_zero, List.set_cons_succ]
        refine takeH (i := 2) (d := 74) (v := ?va2) rfl (by kernel_rfl) (by kernel_rfl) (by kernel_rfl) (fun _ _ _ h => h) rfl (by rfl) ?ya2 hS ?ra2
        case ya2 => (intro wz hz; obtain ⟨m2, rfl⟩ := hz; go_simp <;> with_reducible rfl)
        simp only [List.setIfInBounds_toArray, List.set_cons_zero, List.set_cons_succ]
        refine takeH (i := 3) (d := 75) (v := ?va3) rfl (by kernel_rfl) (by kernel_rfl) (by kernel_rfl) (fun _ _ _ h => h) rfl (by rfl) ?ya3 hS ?ra3
        case ya3 => (intro wz hz; obtain ⟨m2, rfl⟩ := hz; go_simp <;> with_reducible rfl)
        simp only [List.setIfInBounds_toArray, List.set_cons_zero, List.set_cons_succ]
        refine takeH (i := 4) (d := 76) (v := ?va4) rfl (by kernel_rfl) (by kernel_rfl) (by kernel_rfl) (fun _ _ _ h => h) rfl (by rfl) ?ya4 hS ?ra4
        case ya4 => (intro wz hz; obtain ⟨m2, rfl⟩ := hz; go_simp <;> with_reducible rfl)
        simp only [List.setIfInBounds_toArray, List.set_cons_zero, List.set_cons_succ]
        refine takeH (i := 5) (d := 77) (v := ?va5) rfl (by kernel_rfl) (by kernel_rfl) (by kernel_rfl) (fun _ _ _ h => h) rfl (by rfl) ?ya5 hS ?ra5
        case ya5 => (intro wz hz; obtain ⟨m2, rfl⟩ := hz; go_simp <;> with_reducible rfl)
        simp only [List.setIfInBounds_toArray, List.set_cons_zero, List.set_cons_succ]
        refine takeH (i := 6) (d := 78) (v := ?va6) rfl (by kernel_rfl) (by kernel_rfl) (by kernel_rfl) (fun _ _ _ h => h) rfl (by rfl) ?ya6 hS ?ra6
        case ya6 => (intro wz hz; obtain ⟨m2, rfl⟩ := hz; go_simp <;> with_reducible rfl)
        simp only [List.setIfInBounds_toArray, List.set_cons_zero, List.set_cons_succ]
        refine takeH (i := 7) (d := 79) (v := ?va7) rfl (by kernel_rfl) (by kernel_rfl) (by kernel_rfl) (fun _ _ _ h => h) rfl (by rfl) ?ya7 hS ?ra7
        case ya7 => (intro wz hz; obtain ⟨m2, rfl⟩ := hz; go_simp <;> with_reducible rfl)
        simp only [List.setIfInBounds_toArray, List.set_cons_zero, List.set_cons_succ]
        refine takeH (i := 8) (d := 80) (v := ?va8) rfl (by kernel_rfl) (by kernel_rfl) (by kernel_rfl) (fun _ _ _ h => h) rfl (by rfl) ?ya8 hS ?ra8
        case ya8 => (intro wz hz; obtain ⟨m2, rfl⟩ := hz; go_simp <;> with_reducible rfl)
        simp only [List.setIfInBounds_toArray, List.set_cons_zero, List.set_cons_succ]
        refine takeH (i := 9) (d := 81) (v := ?va9) rfl (by kernel_rfl) (by kernel_rfl) (by kernel_rfl) (fun _ _ _ h => h) rfl (by rfl) ?ya9 hS ?ra9
        case ya9 => (intro wz hz; obtain ⟨m2, rfl⟩ := hz; go_simp <;> with_reducible rfl)
        simp only [List.setIfInBounds_toArray, List.set_cons_zero, List.set_cons_succ]
        refine takeH (i := 10) (d := 82) (v := ?va10) rfl (by kernel_rfl) (by kernel_rfl) (by kernel_rfl) (fun _ _ _ h => h) rfl (by rfl) ?ya10 hS ?ra10
        case ya10 => (intro wz hz; obtain ⟨m2, rfl⟩ := hz; go_simp <;> with_reducible rfl)
        simp only [List.setIfInBounds_toArray, List.set_cons_zero, List.set_cons_succ]
        refine takeH (i := 11) (d := 83) (v := ?va11) rfl (by kernel_rfl) (by kernel_rfl) (by kernel_rfl) (fun _ _ _ h => h) rfl (by rfl) ?ya11 hS ?ra11
        case ya11 => (intro wz hz; obtain ⟨m2, rfl⟩ := hz; go_simp <;> with_reducible rfl)
        simp only [List.setIfInBounds_toArray, List.set_cons_zero, List.set_cons_succ]
        refine takeH (i := 12) (d := 84) (v := ?va12) rfl (by kernel_rfl) (by kernel_rfl) (by kernel_rfl) (fun _ _ _ h => h) rfl (by rfl) ?ya12 hS ?ra12
        case ya12 => (intro wz hz; obtain ⟨m2, rfl⟩ := hz; go_simp <;> with_reducible rfl)
        simp only [List.setIfInBounds_toArray, List.set_cons_zero, List.set_cons_succ]
        refine takeH (i := 13) (d := 85) (v := ?va13) rfl (by kernel_rfl) (by kernel_rfl) (by kernel_rfl) (fun _ _ _ h => h) rfl (by rfl) ?ya13 hS ?ra13
        case ya13 => (intro wz hz; obtain ⟨m2, rfl⟩ := hz; go_simp <;> with_reducible rfl)
        simp only [List.setIfInBounds_toArray, List.set_cons_zero, List.set_cons_succ]
        refine takeH (i := 14) (d := 86) (v := ?va14) rfl (by kernel_rfl) (by kernel_rfl) (by kernel_rfl) (fun _ _ _ h => h) rfl (by rfl) ?ya14 hS ?ra14
        case ya14 => (intro wz hz; obtain ⟨m2, rfl⟩ := hz; go_simp <;> with_reducible rfl)
        simp only [List.setIfInBounds_toArray, List.set_cons_zero, List.set_cons_succ]
        refine takeH (i := 15) (d := 87) (v := ?va15) rfl (by kernel_rfl) (by kernel_rfl) (by kernel_rfl) (fun _ _ _ h => h) rfl (by rfl) ?ya15 hS ?ra15
        case ya15 => (intro wz hz; obtain ⟨m2, rfl⟩ := hz; go_simp <;> with_reducible rfl)
        simp only [List.setIfInBounds_toArray, List.set_cons_zero, List.set_cons_succ]
        refine takeH (i := 16) (d := 88) (v := ?va16) rfl (by kernel_rfl) (by kernel_rfl) (by kernel_rfl) (fun _ _ _ h => h) rfl (by rfl) ?ya16 hS ?ra16
        case ya16 => (intro wz hz; obtain ⟨m2, rfl⟩ := hz; go_simp <;> with_reducible rfl)
        simp only [List.setIfInBounds_toArray, List.set_cons_zero, List.set_cons_succ]
        refine takeH (i := 17) (d := 89) (v := ?va17) rfl (by kernel_rfl) (by kernel_rfl) (by kernel_rfl) (fun _ _ _ h => h) rfl (by rfl) ?ya17 hS ?ra17
        case ya17 => (intro wz hz; obtain ⟨m2, rfl⟩ := hz; go_simp <;> with_reducible rfl)
        simp only [List.setIfInBounds_toArray, List.set_cons_zero, List.set_cons_succ]
        refine takeH (i := 18) (d := 90) (v := ?va18) rfl (by kernel_rfl) (by kernel_rfl) (by kernel_rfl) (fun _ _ _ h => h) rfl (by rfl) ?ya18 hS ?ra18
        case ya18 => (intro wz hz; obtain ⟨m2, rfl⟩ := hz; go_simp <;> with_reducible rfl)
        simp only [List.setIfInBounds_toArray, List.set_cons_zero, List.set_cons_succ]
        refine takeH (i := 19) (d := 91) (v := .agg (pgA x1.p)) rfl (by kernel_rfl) (by kernel_rfl) (by kernel_rfl) (fun _ _ _ h => h) rfl (by rfl) ?ya19 hS ?ra19
        case ya19 => (intro wz hz; obtain ⟨m2, rfl⟩ := hz; exact exec_load_pg (.tmp 90) rfl b1 (o1 + k * 225 + 1) rfl x1 (o1 + k * 225) rfl R1.out)
        simp only [List.setIfInBounds_toArray, List.set_cons_zero, List.set_cons_succ]
        refine takeH (i := 20) (d := 92) (v := ?va20) rfl (by kernel_rfl) (by kernel_rfl) (by kernel_rfl) (fun _ _ _ h => h) rfl (by rfl) ?ya20 hS ?ra20
        case ya20 => (intro wz hz; obtain ⟨m2, rfl⟩ := hz; go_simp <;> with_reducible rfl)
        simp only [List.setIfInBounds_toArray, List.set_cons_zero, List.set_cons_succ]
        refine takeH (i := 21) (d := 93) (v := ?va21) rfl (by kernel_rfl) (by kernel_rfl) (by kernel_rfl) (fun _ _ _ h => h) rfl (by rfl) ?ya21 hS ?ra21
        case ya21 => (intro wz hz; obtain ⟨m2, rfl⟩ := hz; go_simp <;> with_reducible rfl)
        simp only [List.setIfInBounds_toArray, List.set_cons_zero, List.set_cons_succ]
        refine takeH (i := 22) (d := 94) (v := ?va22) rfl (by kernel_rfl) (by kernel_rfl) (by kernel_rfl) (fun _ _ _ h => h) rfl (by rfl) ?ya22 hS ?ra22
        case ya22 => (intro wz hz; obtain ⟨m2, rfl⟩ := hz; go_simp <;> with_reducible rfl)
        simp only [List.setIfInBounds_toArray, List.set_cons_zero, List.set_cons_succ]
        refine takeH (i := 23) (d := 95) (v := ?va23) rfl (by kernel_rfl) (by kernel_rfl) (by kernel_rfl) (fun _ _ _ h => h) rfl (by rfl) ?ya23 hS ?ra23
        case ya23 => (intro wz hz; obtain ⟨m2, rfl⟩ := hz; go_simp <;> with_reducible rfl)
        simp only [List.setIfInBounds_toArray, List.set_cons_zero, List.set_cons_succ]
        refine takeH (i := 24) (d := 96) (v := ?va24) rfl (by kernel_rfl) (by kernel_rfl) (by kernel_rfl) (fun _ _ _ h => h) rfl (by rfl) ?ya24 hS ?ra24
        case ya24 => (intro wz hz; obtain ⟨m2, rfl⟩ := hz; go_simp <;> with_reducible rfl)
        simp only [List.setIfInBounds_toArray, List.set_cons_zero, List.set_cons_succ]
        refine takeH (i := 25) (d := 97) (v := .agg (pgA x2.p)) rfl (by kernel_rfl) (by kernel_rfl) (by kernel_rfl) (fun _ _ _ h => h) rfl (by rfl) ?ya25 hS ?ra25
        case ya25 => (intro wz hz; obtain ⟨m2, rfl⟩ := hz; exact exec_load_pg (.tmp 96) rfl b2 (o2 + k * 225 + 1) rfl x2 (o2 + k * 225) rfl R2.out)
        simp only [List.setIfInBounds_toArray, List.set_cons_zero, List.set_cons_succ]
        refine takeH (i := 26) (d := 98) (v := .bool (!(x1.p == x2.p))) rfl (by kernel_rfl) (by kernel_rfl) (by kernel_rfl) (fun _ _ _ h => h) rfl (by rfl) ?ya26 hS ?ra26
        case ya26 => (intro wz hz; obtain ⟨m2, rfl⟩ := hz; exact exec_neq_pg (.tmp 91) (.tmp 97) rfl x1.p x2.p _ rfl rfl)
        simp only [List.setIfInBounds_toArray, List.set_cons_zero, List.set_cons_succ]
        refine takeH (i := 27) (d := 99) (v := ?va27) rfl (by kernel_rfl) (by kernel_rfl) (by kernel_rfl) (fun _ _ _ h => h) rfl (by rfl) ?ya27 hS ?ra27
        case ya27 => (intro wz hz; obtain ⟨m2, rfl⟩ := hz; go_simp <;> with_reducible rfl)
        simp only [List.setIfInBounds_toArray, List.set_cons_zero, List.set_cons_succ]
        refine wpAnyH_done (by kernel_rfl) ?_ _
        have HS := Lib.hid hS
        clear hS
        obtain ⟨q, hq⟩ : ∃ q, (!(x1.p == x2.p)) = q := ⟨_, rfl⟩
        rw [hq]
        have HQ := Lib.hid hq
        clear hq
        cases q
        · obtain rfl : x1 = x2 := (sameI_iff _ _).1 (by rw [sameI, decide_eq_true HP.out]; simpa using HQ.out)
          go_wp2_with fail
          refine ⟨⟨k + 1, by omega, by go_num, ?_, HS⟩, by simp [intOf]; omega⟩
          show _ = _
          rw [e1.out, e2.out, hE.out]
        · have HX := Lib.hid (show x1 ≠ x2 from fun e => by have := HQ.out; rw [e] at this; simp at this)
          go_wp2_with fail
          go_ret
          obtain ⟨m9, h9⟩ := HS.out
          rw [h9]
          exact ⟨ret_bool (by rw [NE.out HX.out]; rfl), below_n BW.out _⟩
      · have hpn : (x1.page != x2.page) = true := by rw [bne_iff_ne]; exact hp
        have HX := Lib.hid (show x1 ≠ x2 from fun e => hp (by rw [e]))
        clear hp
        go_wp2_with fail
        refine wp_region_held_drew (S := fun z => ∃ m2, z = W.drewN m2) (by kernel_rfl) ⟨m + 1, rfl⟩ (fun hS => ?_)
        refine takeH (i := 0) (d := 72) (v := ?vb0) rfl (by kernel_rfl) (by kernel_rfl) (by kernel_rfl) (fun _ _ _ h => h) rfl (by rfl) ?yb0 hS ?rb0
        case yb0 => (intro wz hz; obtain ⟨m2, rfl⟩ := hz; go_simp <;> with_reducible rfl)
        simp only [List.setIfInBounds_toArray, List.set_cons_zero, List.set_cons_succ]
        refine takeH (i := 1) (d := 73) (v := ?vb1) rfl (by kernel_rfl) (by kernel_rfl) (by kernel_rfl) (fun _ _ _ h => h) rfl (by rfl) ?yb1 hS ?rb1
        case yb1 => (intro wz hz; obtain ⟨m2, rfl⟩ := hz; go_simp <;> with_reducible rfl)
        simp only [List.setIfInBounds_toArray, List.set_cons_zero, List.set_cons_succ]
        refine takeH (i := 2) (d := 74) (v := ?vb2) rfl (by kernel_rfl) (by kernel_rfl) (by kernel_rfl) (fun _ _ _ h => h) rfl (by rfl) ?yb2 hS ?rb2
        case yb2 => (intro wz hz; obtain ⟨m2, rfl⟩ := hz; go_simp <;> with_reducible rfl)
        simp only [List.setIfInBounds_toArray, List.set_cons_zero, List.set_cons_succ]
        refine takeH (i := 3) (d := 75) (v := ?vb3) rfl (by kernel_rfl) (by kernel_rfl) (by kernel_rfl) (fun _ _ _ h => h) rfl (by rfl) ?yb3 hS ?rb3
        case yb3 => (intro wz hz; obtain ⟨m2, rfl⟩ := hz; go_simp <;> with_reducible rfl)
        simp only [List.setIfInBounds_toArray, List.set_cons_zero, List.set_cons_succ]
        refine takeH (i := 4) (d := 76) (v := ?vb4) rfl (by kernel_rfl) (by kernel_rfl) (by kernel_rfl) (fun _ _ _ h => h) rfl (by rfl) ?yb4 hS ?rb4
        case yb4 => (intro wz hz; obtain ⟨m2, rfl⟩ := hz; go_simp <;> with_reducible rfl)
        simp only [List.setIfInBounds_toArray, List.set_cons_zero, List.set_cons_succ]
        refine takeH (i := 5) (d := 77) (v := ?vb5) rfl (by kernel_rfl) (by kernel_rfl) (by kernel_rfl) (fun _ _ _ h => h) rfl (by rfl) ?yb5 hS ?rb5
        case yb5 => (intro wz hz; obtain ⟨m2, rfl⟩ := hz; go_simp <;> with_reducible rfl)
        simp only [List.setIfInBounds_toArray, List.set_cons_zero, List.set_cons_succ]
        refine takeH (i := 6) (d := 78) (v := ?vb6) rfl (by kernel_rfl) (by kernel_rfl) (by kernel_rfl) (fun _ _ _ h => h) rfl (by rfl) ?yb6 hS ?rb6
        case yb6 => (intro wz hz; obtain ⟨m2, rfl⟩ := hz; go_simp <;> with_reducible rfl)
        simp only [List.setIfInBounds_toArray, List.set_cons_zero, List.set_cons_succ]
        refine takeH (i := 7) (d := 79) (v := ?vb7) rfl (by kernel_rfl) (by kernel_rfl) (by kernel_rfl) (fun _ _ _ h => h) rfl (by rfl) ?yb7 hS ?rb7
        case yb7 => (intro wz hz; obtain ⟨m2, rfl⟩ := hz; go_simp <;> with_reducible rfl)
        simp only [List.setIfInBounds_toArray, List.set_cons_zero, List.set_cons_succ]
        refine takeH (i := 8) (d := 80) (v := ?vb8) rfl (by kernel_rfl) (by kernel_rfl) (by kernel_rfl) (fun _ _ _ h => h) rfl (by rfl) ?yb8 hS ?rb8
        case yb8 => (intro wz hz; obtain ⟨m2, rfl⟩ := hz; go_simp <;> with_reducible rfl)
        simp only [List.setIfInBounds_toArray, List.set_cons_zero, List.set_cons_succ]
        refine takeH (i := 9) (d := 81) (v := ?vb9) rfl (by kernel_rfl) (by kernel_rfl) (by kernel_rfl) (fun _ _ _ h => h) rfl (by rfl) ?yb9 hS ?rb9
        case yb9 => (intro wz hz; obtain ⟨m2, rfl⟩ := hz; go_simp <;> with_reducible rfl)
        simp only [List.setIfInBounds_toArray, List.set_cons_zero, List.set_cons_succ]
        refine takeH (i := 10) (d := 82) (v := ?vb10) rfl (by kernel_rfl) (by kernel_rfl) (by kernel_rfl) (fun _ _ _ h => h) rfl (by rfl) ?yb10 hS ?rb10
        case yb10 => (intro wz hz; obtain ⟨m2, rfl⟩ := hz; go_simp <;> with_reducible rfl)
        simp only [List.setIfInBounds_toArray, List.set_cons_zero, List.set_cons_succ]
        refine takeH (i := 11) (d := 83) (v := ?vb11) rfl (by kernel_rfl) (by kernel_rfl) (by kernel_rfl) (fun _ _ _ h => h) rfl (by rfl) ?yb11 hS ?rb11
        case yb11 => (intro wz hz; obtain ⟨m2, rfl⟩ := hz; go_simp <;> with_reducible rfl)
        simp only [List.setIfInBounds_toArray, List.set_cons_zero, List.set_cons_succ]
        refine takeH (i := 12) (d := 84) (v := ?vb12) rfl (by kernel_rfl) (by kernel_rfl) (by kernel_rfl) (fun _ _ _ h => h) rfl (by rfl) ?yb12 hS ?rb12
        case yb12 => (intro wz hz; obtain ⟨m2, rfl⟩ := hz; go_simp <;> with_reducible rfl)
        simp only [List.setIfInBounds_toArray, List.set_cons_zero, List.set_cons_succ]
        refine takeH (i := 13) (d := 85) (v := ?vb13) rfl (by kernel_rfl) (by kernel_rfl) (by kernel_rfl) (fun _ _ _ h => h) rfl (by rfl) ?yb13 hS ?rb13
        case yb13 => (intro wz hz; obtain ⟨m2, rfl⟩ := hz; go_simp <;> with_reducible rfl)
        simp only [List.setIfInBounds_toArray, List.set_cons_zero, List.set_cons_succ]
        refine skipH (i := 14) (d := 86) rfl (by kernel_rfl) (by kernel_rfl) (by kernel_rfl) (fun _ _ _ h => h) rfl (by rfl) hS ?_
        simp only [List.setIfInBounds_toArray, List.set_cons_zero, List.set_cons_succ]
        refine skipH (i := 15) (d := 87) rfl (by kernel_rfl) (by kernel_rfl) (by kernel_rfl) (fun _ _ _ h => h) rfl (by rfl) hS ?_
        simp only [List.setIfInBounds_toArray, List.set_cons_zero, List.set_cons_succ]
        refine skipH (i := 16) (d := 88) rfl (by kernel_rfl) (by kernel_rfl) (by kernel_rfl) (fun _ _ _ h => h) rfl (by rfl) hS ?_
        simp only [List.setIfInBounds_toArray, List.set_cons_zero, List.set_cons_succ]
        refine skipH (i := 17) (d := 89) rfl (by kernel_rfl) (by kernel_rfl) (by kernel_rfl) (fun _ _ _ h => h) rfl (by rfl) hS ?_
        simp only [List.setIfInBounds_toArray, List.set_cons_zero, List.set_cons_succ]
        refine skipH (i := 18) (d := 90) rfl (by kernel_rfl) (by kernel_rfl) (by kernel_rfl) (fun _ _ _ h => h) rfl (by rfl) hS ?_
        simp only [List.setIfInBounds_toArray, List.set_cons_zero, List.set_cons_succ]
        refine skipH (i := 19) (d := 91) rfl (by kernel_rfl) (by kernel_rfl) (by kernel_rfl) (fun _ _ _ h => h) rfl (by rfl) hS ?_
        simp only [List.setIfInBounds_toArray, List.set_cons_zero, List.set_cons_succ]
        refine skipH (i := 20) (d := 92) rfl (by kernel_rfl) (by kernel_rfl) (by kernel_rfl) (fun _ _ _ h => h) rfl (by rfl) hS ?_
        simp only [List.setIfInBounds_toArray, List.set_cons_zero, List.set_cons_succ]
        refine skipH (i := 21) (d := 93) rfl (by kernel_rfl) (by kernel_rfl) (by kernel_rfl) (fun _ _ _ h => h) rfl (by rfl) hS ?_
        simp only [List.setIfInBounds_toArray, List.set_cons_zero, List.set_cons_succ]
        refine skipH (i := 22) (d := 94) rfl (by kernel_rfl) (by kernel_rfl) (by kernel_rfl) (fun _ _ _ h => h) rfl (by rfl) hS ?_
        simp only [List.setIfInBounds_toArray, List.set_cons_zero, List.set_cons_succ]
        refine skipH (i := 23) (d := 95) rfl (by kernel_rfl) (by kernel_rfl) (by kernel_rfl) (fun _ _ _ h => h) rfl (by rfl) hS ?_
        simp only [List.setIfInBounds_toArray, List.set_cons_zero, List.set_cons_succ]
        refine skipH (i := 24) (d := 96) rfl (by kernel_rfl) (by kernel_rfl) (by kernel_rfl) (fun _ _ _ h => h) rfl (by rfl) hS ?_
        simp only [List.setIfInBounds_toArray, List.set_cons_zero, List.set_cons_succ]
        refine skipH (i := 25) (d := 97) rfl (by kernel_rfl) (by kernel_rfl) (by kernel_rfl) (fun _ _ _ h => h) rfl (by rfl) hS ?_
        simp only [List.setIfInBounds_toArray, List.set_cons_zero, List.set_cons_succ]
        refine skipH (i := 26) (d := 98) rfl (by kernel_rfl) (by kernel_rfl) (by kernel_rfl) (fun _ _ _ h => h) rfl (by rfl) hS ?_
        simp only [List.setIfInBounds_toArray, List.set_cons_zero, List.set_cons_succ]
        refine takeH (i := 27) (d := 99) (v := ?vb27) rfl (by kernel_rfl) (by kernel_rfl) (by kernel_rfl) (fun _ _ _ h => h) rfl (by rfl) ?yb27 hS ?rb27
        case yb27 => (intro wz hz; obtain ⟨m2, rfl⟩ := hz; go_simp <;> with_reducible rfl)
        simp only [List.setIfInBounds_toArray, List.set_cons_zero, List.set_cons_succ]
        refine wpAnyH_done (by kernel_rfl) ?_ _
        have HS := Lib.hid hS
        clear hS
        go_wp2_with fail
        go_ret
        obtain ⟨m9, h9⟩ := HS.out
        rw [h9]
        exact ⟨ret_bool (by rw [NE.out HX.out]; rfl), below_n BW.out _⟩
    · obtain rfl : k = np := by omega
      have PS : Hid (sameIs e.pages f.pages = true) := by
        have h := hE.out
        rw [List.take_of_length_le (by rw [HL1.out]; exact Nat.le_refl _), List.take_of_length_le (by rw [HL2.out]; exact Nat.le_refl _)] at h
        exact (sameIs_iff _ _).2 h
      go_wp2_with fail
      go_loopw [6] (fun i wr => ∃ k : Nat, k ≤ na ∧ i = .int .i64 k ∧ Hid (e.act.take k = f.act.take k) ∧ Hid (∃ m, wr = W.drewN m)) (fun i _ => na - (intOf i).toNat)
      case atStart => exact ⟨0, Nat.zero_le _, rfl, Lib.hid rfl, Lib.hid ⟨_, rfl⟩⟩
      case round =>
        obtain ⟨j, hj, rfl, hE2, hB⟩ := hrel
        obtain ⟨m3, rfl⟩ := hB.out
        clear hB
        by_cases hjl : j < na
        · have k1 : j < e.act.length := by rw [HM1.out]; exact hjl
          have k2 : j < f.act.length := by rw [HM2.out]; exact hjl
          obtain ⟨y1, u1, rfl, _, hx1, hc1⟩ := HE.out.act.get hjl
          obtain ⟨y2, u2, rfl, _, hx2, hc2⟩ := HF.out.act.get hjl
          rw [UC_get e.act j k1] at hx1
          injection hx1 with hx1
          subst hx1
          rw [UC_get f.act j k2] at hx2
          injection hx2 with hx2
          subst hx2
          have e1 := Lib.hid (take_snocN e.act j k1)
          have e2 := Lib.hid (take_snocN f.act j k2)
          generalize e.act[j] = x1 at *
          generalize f.act[j] = x2 at *
          by_cases hx : x1 = x2
          · have hq : ((x1 : Int) != (x2 : Int)) = false := by rw [hx]; simp
            have HX := Lib.hid hx
            clear hx
            go_wp2_with fail
            go_quiet (fail)
            go_wp2_with fail
            refine ⟨⟨j + 1, by omega, by go_num, ?_, Lib.hid ⟨_, rfl⟩⟩, by simp [intOf]; omega⟩
            show _ = _
            rw [e1.out, e2.out, hE2.out, HX.out]
          · have hq : ((x1 : Int) != (x2 : Int)) = true := by rw [bne_iff_ne]; omega
            have NE : Hid ((e.act == f.act) = false) := by
              show _ = _
              rw [beq_eq_false_iff_ne]
              intro hqq
              have h1 := e1.out
              rw [hqq, e2.out] at h1
              have := (List.append_inj' h1 rfl).2
              injection this with this
              exact hx this.symm
            clear hx
            go_wp2_with fail
            go_quiet (fail)
            go_wp2_with fail
            go_ret
            exact ⟨ret_bool (by rw [NE.out, PS.out]; rfl), below_n (below_n BW.out _) _⟩
        · obtain rfl : j = na := by omega
          go_wp2_with fail
          go_ret
          refine ⟨ret_bool ?_, below_n BW.out _⟩
          have h := hE2.out
          rw [List.take_of_length_le (by rw [HM1.out]; exact Nat.le_refl _), List.take_of_length_le (by rw [HM2.out]; exact Nat.le_refl _)] at h
          rw [PS.out, h]
          simp

theorem refSame_any (e f : Ent) (PA QA RA SA : Option Addr) (np pc na qc mp rc ma sc : Nat) (w : World) (h : EL w w.heap.size e PA np QA na) (k : EL w w.heap.size f RA mp SA ma) (hnp : np ≤ 1000) (hna : na ≤ 1000) (hmp : mp ≤ 1000) (hma : ma ≤ 1000) :
    Calls Tryd.prog 40 #[.agg #[.int .u64 (e.lsn : Nat), .int .i64 e.kind, .int .u64 (e.txn : Nat), .int .u64 (e.prev : Nat), .int .u64 (e.next : Nat), .int .u64 (e.rc.id : Nat), .int .u64 (e.rc.key : Nat), .int .u32 (e.rc.x : Nat), .int .u32 (e.rc.y : Nat), .string (strOf e.rc.val), .bool e.rc.ghost, .slice PA np pc, .slice QA na qc], .agg #[.int .u64 (f.lsn : Nat), .int .i64 f.kind, .int .u64 (f.txn : Nat), .int .u64 (f.prev : Nat), .int .u64 (f.next : Nat), .int .u64 (f.rc.id : Nat), .int .u64 (f.rc.key : Nat), .int .u32 (f.rc.x : Nat), .int .u32 (f.rc.y : Nat), .string (strOf f.rc.val), .bool f.rc.ghost, .slice RA mp rc, .slice SA ma sc]] w (RetQ w (sameE e f)) := by
  have e1 := h.lenP
  have e2 := h.lenA
  have f1 := k.lenP
  have f2 := k.lenA
  cases hs : (e.lsn == f.lsn && (decide (e.kind = f.kind) && (e.txn == f.txn && (e.prev == f.prev && (e.next == f.next && (sameR e.rc f.rc && (np == mp && na == ma))))))) with
  | false =>
    have hf : sameE e f = false := by
      cases hq : sameE e f with
      | false => rfl
      | true =>
        have := (sameE_iff e f).1 hq
        subst this
        rw [← e1, ← e2, ← f1, ← f2] at hs
        simp [sameR_refl] at hs
    rw [hf]
    exact refSame_no e f PA QA RA SA np pc na qc mp rc ma sc w hs
  | true =>
    simp only [Bool.and_eq_true] at hs
    obtain ⟨h0, h1, h2, h3, h4, h5, h6, h7⟩ := hs
    obtain rfl : np = mp := by simpa using h6
    obtain rfl : na = ma := by simpa using h7
    have hf : sameE e f = (sameIs e.pages f.pages && e.act == f.act) := by
      rw [sameE, h0, h1, h2, h3, h4, h5]
      rfl
    rw [hf]
    exact refSame_yes e f PA QA RA SA np pc na qc rc sc w h k hnp hna (by rw [h0, h1, h2, h3, h4, h5]; rfl)
end Go.Proofs.YthicidpdgggbjaaDoor
