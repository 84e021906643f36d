/-
  Walks: EntryPuts.
  Conditions: none beyond those that each theorem names.
-/
import Derived.Test.YtihlmjknhgnjpaaDoorV1
namespace Go.Proofs.YtihlmjknhgnjpaaDoor
open Go.RowKit
set_option maxRecDepth 20000

/-- What Put gives: the bytes, or none. -/
def putsL (e : Ent) : List UInt8 := if chk e = 0 then sealL (entL e) else []
theorem putsL_length (e : Ent) : (putsL e).length ≤ 80 + 226 * e.pages.length + 8 * e.act.length := by
  unfold putsL
  split
  · rename_i h
    have := entL_length e (chk_zero h).val
    rw [sealL_length]
    omega
  · simp
def PutP (w : World) (e : Ent) (r : Ending) (w' : World) : Prop :=
  ∃ A n c, r = .returned (.tuple #[.slice A n c, .int .i64 (chk e)]) ∧ Lies w' w'.heap.size 1 A n (BC (putsL e)) ∧ n ≤ c ∧ c ≤ maxLen ∧ Below w.heap.size w w'
section
variable (e : Ent) (PA QA : Option Addr) (np pc na qc : Nat) (w : World) (h : EL w w.heap.size e PA np QA na) (he : e.ok) (hnp : np ≤ 1000) (hna : na ≤ 1000) (hv : e.rc.val.length ≤ 1000)
include h he hnp hna hv
theorem eput_all : Calls Tryd.prog 8 #[.agg #[.int .u64 (e.lsn : Nat), .int .i64 e.kind, .int .u64 (e.txn : Nat), .int .u64 (e.prev : Nat), .int .u64 (e.next : Nat), .int .u64 (e.rc.id : Nat), .int .u64 (e.rc.key : Nat), .int .u32 (e.rc.x : Nat), .int .u32 (e.rc.y : Nat), .string (strOf e.rc.val), .bool e.rc.ghost, .slice PA np pc, .slice QA na qc]] w (PutP w e) := by
  by_cases hz : chk e = 0
  · refine (put_good e PA QA np pc na qc w h he hz).mono ?_
    rintro r w' ⟨A, n, c, rfl, ho, hb⟩
    obtain ⟨_, c', hv', h1, h2⟩ := own_slice ho
    injection hv' with _ _ h3
    subst h3
    exact ⟨A, n, c, by rw [hz], by rw [putsL, if_pos hz]; exact Lies.of_own ho, h1, h2, hb⟩
  · refine (put_bad e PA QA np pc na qc w (chk e) h hnp hna hv rfl (by rw [bne_iff_ne]; exact hz)).mono ?_
    rintro r w' ⟨rfl, hb⟩
    exact ⟨none, 0, 0, rfl, by rw [putsL, if_neg hz]; exact Lies.empty, Nat.le_refl _, by simp [maxLen], hb⟩
theorem erefPut_all : Calls Tryd.prog 9 #[.agg #[.int .u64 (e.lsn : Nat), .int .i64 e.kind, .int .u64 (e.txn : Nat), .int .u64 (e.prev : Nat), .int .u64 (e.next : Nat), .int .u64 (e.rc.id : Nat), .int .u64 (e.rc.key : Nat), .int .u32 (e.rc.x : Nat), .int .u32 (e.rc.y : Nat), .string (strOf e.rc.val), .bool e.rc.ghost, .slice PA np pc, .slice QA na qc]] w (PutP w e) := by
  by_cases hz : chk e = 0
  · refine (refPut_good e PA QA np pc na qc w h he hz).mono ?_
    rintro r w' ⟨A, n, c, rfl, ho, hb⟩
    obtain ⟨_, c', hv', h1, h2⟩ := own_slice ho
    injection hv' with _ _ h3
    subst h3
    exact ⟨A, n, c, by rw [hz], by rw [putsL, if_pos hz]; exact Lies.of_own ho, h1, h2, hb⟩
  · refine (refPut_bad e PA QA np pc na qc w (chk e) h hnp hna hv rfl (by rw [bne_iff_ne]; exact hz)).mono ?_
    rintro r w' ⟨rfl, hb⟩
    exact ⟨none, 0, 0, rfl, by rw [putsL, if_neg hz]; exact Lies.empty, Nat.le_refl _, by simp [maxLen], hb⟩
end

theorem light_or (v p a : Nat) : lightI v p a = 0 ∨ lightI v p a = 1 := by unfold lightI; split <;> simp
theorem light_zero {v p a : Nat} (h : lightI v p a = 0) : v ≤ 100 ∧ p ≤ 40 ∧ a ≤ 100 := by
  unfold lightI at h
  split at h
  · cases h
  · omega

set_option maxHeartbeats 6400000 in
theorem puts_any (e f : Ent) (PA QA RA SA : Option Addr) (np pc na qc mp rc ma sc : Nat) (w : World) (h : EL w w.heap.size e PA np QA na) (k : EL w w.heap.size f RA mp SA ma) (he : e.ok)
    (hnp : np ≤ maxLen) (hna : na ≤ maxLen) (hmp : mp ≤ maxLen) (hma : ma ≤ maxLen) (hv : e.rc.val.length ≤ maxLen) (hu : f.rc.val.length ≤ maxLen) :
    Calls Tryd.prog 3 #[.agg #[.int .u64 (e.lsn : Nat), .int .i64 e.kind, .int .u64 (e.txn : Nat), .int .u64 (e.prev : Nat), .int .u64 (e.next : Nat), .int .u64 (e.rc.id : Nat), .int .u64 (e.rc.key : Nat), .int .u32 (e.rc.x : Nat), .int .u32 (e.rc.y : Nat), .string (strOf e.rc.val), .bool e.rc.ghost, .slice PA np pc, .slice QA na qc], .agg #[.int .u64 (f.lsn : Nat), .int .i64 f.kind, .int .u64 (f.txn : Nat), .int .u64 (f.prev : Nat), .int .u64 (f.next : Nat), .int .u64 (f.rc.id : Nat), .int .u64 (f.rc.key : Nat), .int .u32 (f.rc.x : Nat), .int .u32 (f.rc.y : Nat), .string (strOf f.rc.val), .bool f.rc.ghost, .slice RA mp rc, .slice SA ma sc]] w (RetQ w true) := by
  have B0 := Lib.hid (((Below.refl w.heap.size w).alloc (Nat.le_refl _) (.cells #[.int .u64 (e.lsn : Nat), .int .i64 e.kind, .int .u64 (e.txn : Nat), .int .u64 (e.prev : Nat), .int .u64 (e.next : Nat), .int .u64 (e.rc.id : Nat), .int .u64 (e.rc.key : Nat), .int .u32 (e.rc.x : Nat), .int .u32 (e.rc.y : Nat), .string (strOf e.rc.val), .bool e.rc.ghost, .slice PA np pc, .slice QA na qc] 29)).alloc (by simp) (.cells #[.int .u64 (f.lsn : Nat), .int .i64 f.kind, .int .u64 (f.txn : Nat), .int .u64 (f.prev : Nat), .int .u64 (f.next : Nat), .int .u64 (f.rc.id : Nat), .int .u64 (f.rc.key : Nat), .int .u32 (f.rc.x : Nat), .int .u32 (f.rc.y : Nat), .string (strOf f.rc.val), .bool f.rc.ghost, .slice RA mp rc, .slice SA ma sc] 29))
  have X0 := Lib.hid ((At.new w 29 #[.int .u64 (e.lsn : Nat), .int .i64 e.kind, .int .u64 (e.txn : Nat), .int .u64 (e.prev : Nat), .int .u64 (e.next : Nat), .int .u64 (e.rc.id : Nat), .int .u64 (e.rc.key : Nat), .int .u32 (e.rc.x : Nat), .int .u32 (e.rc.y : Nat), .string (strOf e.rc.val), .bool e.rc.ghost, .slice PA np pc, .slice QA na qc]).alloc (.cells #[.int .u64 (f.lsn : Nat), .int .i64 f.kind, .int .u64 (f.txn : Nat), .int .u64 (f.prev : Nat), .int .u64 (f.next : Nat), .int .u64 (f.rc.id : Nat), .int .u64 (f.rc.key : Nat), .int .u32 (f.rc.x : Nat), .int .u32 (f.rc.y : Nat), .string (strOf f.rc.val), .bool f.rc.ghost, .slice RA mp rc, .slice SA ma sc] 29))
  have Y0 := At.new (w.alloc (.cells #[.int .u64 (e.lsn : Nat), .int .i64 e.kind, .int .u64 (e.txn : Nat), .int .u64 (e.prev : Nat), .int .u64 (e.next : Nat), .int .u64 (e.rc.id : Nat), .int .u64 (e.rc.key : Nat), .int .u32 (e.rc.x : Nat), .int .u32 (e.rc.y : Nat), .string (strOf e.rc.val), .bool e.rc.ghost, .slice PA np pc, .slice QA na qc] 29)) 29 #[.int .u64 (f.lsn : Nat), .int .i64 f.kind, .int .u64 (f.txn : Nat), .int .u64 (f.prev : Nat), .int .u64 (f.next : Nat), .int .u64 (f.rc.id : Nat), .int .u64 (f.rc.key : Nat), .int .u32 (f.rc.x : Nat), .int .u32 (f.rc.y : Nat), .string (strOf f.rc.val), .bool f.rc.ghost, .slice RA mp rc, .slice SA ma sc]
  rw [show (w.alloc (.cells #[.int .u64 (e.lsn : Nat), .int .i64 e.kind, .int .u64 (e.txn : Nat), .int .u64 (e.prev : Nat), .int .u64 (e.next : Nat), .int .u64 (e.rc.id : Nat), .int .u64 (e.rc.key : Nat), .int .u32 (e.rc.x : Nat), .int .u32 (e.rc.y : Nat), .string (strOf e.rc.val), .bool e.rc.ghost, .slice PA np pc, .slice QA na qc] 29)).heap.size = w.heap.size + 1 by simp] at Y0
  replace Y0 := Lib.hid Y0
  have HE := Lib.hid h
  have HF := Lib.hid k
  obtain ⟨le, HLE⟩ : ∃ z, Hid (lightI e.rc.val.length np na = z) := ⟨_, Lib.hid rfl⟩
  obtain ⟨lf, HLF⟩ : ∃ z, Hid (lightI f.rc.val.length mp ma = z) := ⟨_, Lib.hid rfl⟩
  have M := Lib.hid (show np ≤ maxLen ∧ na ≤ maxLen ∧ mp ≤ maxLen ∧ ma ≤ maxLen ∧ e.rc.val.length ≤ maxLen ∧ f.rc.val.length ≤ maxLen from ⟨hnp, hna, hmp, hma, hv, hu⟩)
  clear h k hnp hna hmp hma hv hu
  go_enter Tryd.func3, Tryd.ntmps3
  go_wp2_with (refine wpList_load_at 29 9 (.tmp 2) rfl rfl rfl w.heap.size rfl #[.int .u64 (e.lsn : Nat), .int .i64 e.kind, .int .u64 (e.txn : Nat), .int .u64 (e.prev : Nat), .int .u64 (e.next : Nat), .int .u64 (e.rc.id : Nat), .int .u64 (e.rc.key : Nat), .int .u32 (e.rc.x : Nat), .int .u32 (e.rc.y : Nat), .string (strOf e.rc.val), .bool e.rc.ghost, .slice PA np pc, .slice QA na qc] 13 str29 rfl X0.out ?_)
  refine (light_any e PA QA np pc na qc _ M.out.1 M.out.2.1 M.out.2.2.2.2.1).mono ?_
  rintro r w1 ⟨rfl, hb1⟩
  rw [HLE.out]
  have X1 := Lib.hid (X0.out.under hb1 X0.out.lt)
  have Y1 := Lib.hid (Y0.out.under hb1 Y0.out.lt)
  have B1 := Lib.hid (B0.out.trans (hb1.mono (by simp; omega)))
  clear hb1 X0 Y0 B0
  rcases (show le = 0 ∨ le = 1 by rw [← HLE.out]; exact light_or _ _ _) with rfl | rfl
  · go_wp2_with (refine wpList_load_atG 29 13 (.tmp 3) rfl (by rfl) rfl (w.heap.size + 1) rfl #[.int .u64 (f.lsn : Nat), .int .i64 f.kind, .int .u64 (f.txn : Nat), .int .u64 (f.prev : Nat), .int .u64 (f.next : Nat), .int .u64 (f.rc.id : Nat), .int .u64 (f.rc.key : Nat), .int .u32 (f.rc.x : Nat), .int .u32 (f.rc.y : Nat), .string (strOf f.rc.val), .bool f.rc.ghost, .slice RA mp rc, .slice SA ma sc] 13 str29 rfl Y1.out ?_)
    refine (light_any f RA SA mp rc ma sc _ M.out.2.2.1 M.out.2.2.2.1 M.out.2.2.2.2.2).mono ?_
    rintro r w2 ⟨rfl, hb2⟩
    rw [HLF.out]
    have X2 := Lib.hid (X1.out.under hb2 X1.out.lt)
    have Y2 := Lib.hid (Y1.out.under hb2 Y1.out.lt)
    have B2 := Lib.hid (B1.out.trans (hb2.mono B1.out.size))
    clear hb2 X1 Y1 B1
    rcases (show lf = 0 ∨ lf = 1 by rw [← HLF.out]; exact light_or _ _ _) with rfl | rfl
    · obtain ⟨v1, v2, v3⟩ := light_zero HLE.out
      obtain ⟨u1, u2, u3⟩ := light_zero HLF.out
      clear HLE HLF M
      have E2 := Lib.hid ((HE.out.under B2.out).up B2.out.size)
      go_wp2_with (refine wpList_load_at 29 19 (.tmp 2) rfl rfl rfl w.heap.size rfl #[.int .u64 (e.lsn : Nat), .int .i64 e.kind, .int .u64 (e.txn : Nat), .int .u64 (e.prev : Nat), .int .u64 (e.next : Nat), .int .u64 (e.rc.id : Nat), .int .u64 (e.rc.key : Nat), .int .u32 (e.rc.x : Nat), .int .u32 (e.rc.y : Nat), .string (strOf e.rc.val), .bool e.rc.ghost, .slice PA np pc, .slice QA na qc] 13 str29 rfl X2.out ?_)
      refine (eput_all e PA QA np pc na qc w2 E2.out he (by omega) (by omega) (by omega)).mono ?_
      rintro r w3 ⟨A3, n3, c3, rfl, hl3, _, _, hb3⟩
      have L3 := Lib.hid hl3
      have X3 := Lib.hid (X2.out.under hb3 X2.out.lt)
      have Y3 := Lib.hid (Y2.out.under hb3 Y2.out.lt)
      have B3 := Lib.hid (B2.out.trans (hb3.mono B2.out.size))
      have hn3 : n3 ≤ 80 + 226 * np + 8 * na := by
        have h1 := hl3.len
        rw [BC_length] at h1
        have h2 := putsL_length e
        rw [HE.out.lenP, HE.out.lenA] at h2
        omega
      clear hl3 hb3 X2 Y2 B2 E2
      have E3 := Lib.hid ((HE.out.under B3.out).up B3.out.size)
      go_wp2_with (refine wpList_load_at 29 24 (.tmp 2) rfl rfl rfl w.heap.size rfl #[.int .u64 (e.lsn : Nat), .int .i64 e.kind, .int .u64 (e.txn : Nat), .int .u64 (e.prev : Nat), .int .u64 (e.next : Nat), .int .u64 (e.rc.id : Nat), .int .u64 (e.rc.key : Nat), .int .u32 (e.rc.x : Nat), .int .u32 (e.rc.y : Nat), .string (strOf e.rc.val), .bool e.rc.ghost, .slice PA np pc, .slice QA na qc] 13 str29 rfl X3.out ?_)
      refine (erefPut_all e PA QA np pc na qc w3 E3.out he (by omega) (by omega) (by omega)).mono ?_
      rintro r w4 ⟨A4, n4, c4, rfl, hl4, _, _, hb4⟩
      have L4 := Lib.hid hl4
      have M4 := Lib.hid (L3.out.under hb4)
      have X4 := Lib.hid (X3.out.under hb4 X3.out.lt)
      have Y4 := Lib.hid (Y3.out.under hb4 Y3.out.lt)
      have B4 := Lib.hid (B3.out.trans (hb4.mono B3.out.size))
      clear hl4 hb4 X3 Y3 B3 E3 L3
      obtain ⟨z, HZ⟩ : ∃ z, Hid (chk e = z) := ⟨_, Lib.hid rfl⟩
      rw [HZ.out]
      obtain ⟨q, HQ⟩ : ∃ q, Hid (sameE e f = q) := ⟨_, Lib.hid rfl⟩
      have hle : decide ((n3 : Int) ≤ ((80 + 226 * np + 8 * na : Nat) : Int)) = true := by simp; omega
      go_wp2_with fail
      refine wp_region_held_drew (S := fun x => At x w.heap.size 29 #[.int .u64 (e.lsn : Nat), .int .i64 e.kind, .int .u64 (e.txn : Nat), .int .u64 (e.prev : Nat), .int .u64 (e.next : Nat), .int .u64 (e.rc.id : Nat), .int .u64 (e.rc.key : Nat), .int .u32 (e.rc.x : Nat), .int .u32 (e.rc.y : Nat), .string (strOf e.rc.val), .bool e.rc.ghost, .slice PA np pc, .slice QA na qc] ∧ At x (w.heap.size + 1) 29 #[.int .u64 (f.lsn : Nat), .int .i64 f.kind, .int .u64 (f.txn : Nat), .int .u64 (f.prev : Nat), .int .u64 (f.next : Nat), .int .u64 (f.rc.id : Nat), .int .u64 (f.rc.key : Nat), .int .u32 (f.rc.x : Nat), .int .u32 (f.rc.y : Nat), .string (strOf f.rc.val), .bool f.rc.ghost, .slice RA mp rc, .slice SA ma sc]) (by kernel_rfl) ⟨X4.out, Y4.out⟩ (fun hS => ?_)
      refine takeH (i := 0) (d := 28) (v := ?vk0) rfl (by kernel_rfl) (by kernel_rfl) (by kernel_rfl) (fun _ _ _ h => h) rfl (by rfl) ?yk0 hS ?rk0
      case yk0 => (intro wz hz; go_simp <;> with_reducible rfl)
      simp only [List.setIfInBounds_toArray, List.set_cons_zero, List.set_cons_succ]
      refine takeH (i := 1) (d := 29) (v := ?vk1) rfl (by kernel_rfl) (by kernel_rfl) (by kernel_rfl) (fun _ _ _ h => h) rfl (by rfl) ?yk1 hS ?rk1
      case yk1 => (intro wz hz; go_simp <;> with_reducible rfl)
      simp only [List.setIfInBounds_toArray, List.set_cons_zero, List.set_cons_succ]
      refine wpAnyH_ready (rs := [2]) (by kernel_rfl) (by simp) ?_
      refine AllReadyH.cons rfl (fun K hK => ?_) AllReadyH.nil
      go_simp
      refine (same_any _ _ _ _ _ _ _ _ _ _ w4.drew (M4.out.under (Below.refl _ _).drew) (L4.out.under (Below.refl _ _).drew)).mono ?_
      rintro r wy ⟨rfl, rfl⟩
      rw [show (putsL e == putsL e) = true by simp]
      have B5 := Lib.hid B4.out.drew
      refine hK.out _ _ (hS) (fun hT => ?_)
      clear hK  hS
      have hS := hT
      clear hT
      refine takeH (i := 3) (d := 31) (v := ?vk3) rfl (by kernel_rfl) (by kernel_rfl) (by kernel_rfl) (fun _ _ _ h => h) rfl (by rfl) ?yk3 hS ?rk3
      case yk3 => (intro wz hz; go_simp <;> with_reducible rfl)
      simp only [List.setIfInBounds_toArray, List.set_cons_zero, List.set_cons_succ]
      refine takeH (i := 4) (d := 32) (v := ?vk4) rfl (by kernel_rfl) (by kernel_rfl) (by kernel_rfl) (fun _ _ _ h => h) rfl (by rfl) ?yk4 hS ?rk4
      case yk4 => (intro wz hz; go_simp <;> with_reducible rfl)
      simp only [List.setIfInBounds_toArray, List.set_cons_zero, List.set_cons_succ]
      refine takeH (i := 5) (d := 33) (v := ?vk5) rfl (by kernel_rfl) (by kernel_rfl) (by kernel_rfl) (fun _ _ _ h => h) rfl (by rfl) ?yk5 hS ?rk5
      case yk5 => (intro wz hz; go_simp <;> with_reducible rfl)
      simp only [List.setIfInBounds_toArray, List.set_cons_zero, List.set_cons_succ]
      refine takeH (i := 6) (d := 34) (v := ?vk6) rfl (by kernel_rfl) (by kernel_rfl) (by kernel_rfl) (fun _ _ _ h => h) rfl (by rfl) ?yk6 hS ?rk6
      case yk6 => (intro wz hz; go_simp <;> with_reducible rfl)
      simp only [List.setIfInBounds_toArray, List.set_cons_zero, List.set_cons_succ]
      refine takeH (i := 7) (d := 35) (v := ?vk7) rfl (by kernel_rfl) (by kernel_rfl) (by kernel_rfl) (fun _ _ _ h => h) rfl (by rfl) ?yk7 hS ?rk7
      case yk7 => (intro wz hz; go_simp <;> with_reducible rfl)
      simp only [List.setIfInBounds_toArray, List.set_cons_zero, List.set_cons_succ]
      refine takeH (i := 8) (d := 36) (v := ?vk8) rfl (by kernel_rfl) (by kernel_rfl) (by kernel_rfl) (fun _ _ _ h => h) rfl (by rfl) ?yk8 hS ?rk8
      case yk8 => (intro wz hz; go_simp <;> with_reducible rfl)
      simp only [List.setIfInBounds_toArray, List.set_cons_zero, List.set_cons_succ]
      refine takeH (i := 9) (d := 37) (v := .agg #[.int .u64 (e.lsn : Nat), .int .i64 e.kind, .int .u64 (e.txn : Nat), .int .u64 (e.prev : Nat), .int .u64 (e.next : Nat), .int .u64 (e.rc.id : Nat), .int .u64 (e.rc.key : Nat), .int .u32 (e.rc.x : Nat), .int .u32 (e.rc.y : Nat), .string (strOf e.rc.val), .bool e.rc.ghost, .slice PA np pc, .slice QA na qc]) rfl (by kernel_rfl) (by kernel_rfl) (by kernel_rfl) (fun _ _ _ h => h) rfl (by rfl) ?yk9 hS ?rk9
      case yk9 => (intro wz hz; exact exec_load_at 29 (.tmp 2) rfl (w.heap.size) rfl _ 13 str29 rfl hz.1)
      simp only [List.setIfInBounds_toArray, List.set_cons_zero, List.set_cons_succ]
      refine takeH (i := 11) (d := 39) (v := .agg #[.int .u64 (e.lsn : Nat), .int .i64 e.kind, .int .u64 (e.txn : Nat), .int .u64 (e.prev : Nat), .int .u64 (e.next : Nat), .int .u64 (e.rc.id : Nat), .int .u64 (e.rc.key : Nat), .int .u32 (e.rc.x : Nat), .int .u32 (e.rc.y : Nat), .string (strOf e.rc.val), .bool e.rc.ghost, .slice PA np pc, .slice QA na qc]) rfl (by kernel_rfl) (by kernel_rfl) (by kernel_rfl) (fun _ _ _ h => h) rfl (by rfl) ?yk11 hS ?rk11
      case yk11 => (intro wz hz; exact exec_load_at 29 (.tmp 2) rfl (w.heap.size) rfl _ 13 str29 rfl hz.1)
      simp only [List.setIfInBounds_toArray, List.set_cons_zero, List.set_cons_succ]
      refine wpAnyH_ready (rs := [10]) (by kernel_rfl) (by simp) ?_
      refine AllReadyH.cons rfl (fun K hK => ?_) AllReadyH.nil
      go_simp
      refine (check_any e PA QA np pc na qc _ ((HE.out.under B5.out).up B5.out.size) (by omega) (by omega) (by omega)).mono ?_
      rintro r x6 ⟨rfl, hbx6⟩
      rw [HZ.out]
      have Bx6 := Lib.hid (B5.out.trans (hbx6.mono B5.out.size))
      have Sx6 : At x6 w.heap.size 29 #[.int .u64 (e.lsn : Nat), .int .i64 e.kind, .int .u64 (e.txn : Nat), .int .u64 (e.prev : Nat), .int .u64 (e.next : Nat), .int .u64 (e.rc.id : Nat), .int .u64 (e.rc.key : Nat), .int .u32 (e.rc.x : Nat), .int .u32 (e.rc.y : Nat), .string (strOf e.rc.val), .bool e.rc.ghost, .slice PA np pc, .slice QA na qc] ∧ At x6 (w.heap.size + 1) 29 #[.int .u64 (f.lsn : Nat), .int .i64 f.kind, .int .u64 (f.txn : Nat), .int .u64 (f.prev : Nat), .int .u64 (f.next : Nat), .int .u64 (f.rc.id : Nat), .int .u64 (f.rc.key : Nat), .int .u32 (f.rc.x : Nat), .int .u32 (f.rc.y : Nat), .string (strOf f.rc.val), .bool f.rc.ghost, .slice RA mp rc, .slice SA ma sc] := ⟨hS.1.under hbx6 hS.1.lt, hS.2.under hbx6 hS.2.lt⟩
      clear hbx6
      refine hK.out _ _ (Sx6) (fun hT => ?_)
      clear hK  hS
      have hS := hT
      clear hT
      refine wpAnyH_ready (rs := [12]) (by kernel_rfl) (by simp) ?_
      refine AllReadyH.cons rfl (fun K hK => ?_) AllReadyH.nil
      go_simp
      refine (refCheck_any e PA QA np pc na qc _ ((HE.out.under Bx6.out).up Bx6.out.size) (by omega) (by omega) (by omega)).mono ?_
      rintro r x7 ⟨rfl, hbx7⟩
      rw [HZ.out]
      have Bx7 := Lib.hid (Bx6.out.trans (hbx7.mono Bx6.out.size))
      have Sx7 : At x7 w.heap.size 29 #[.int .u64 (e.lsn : Nat), .int .i64 e.kind, .int .u64 (e.txn : Nat), .int .u64 (e.prev : Nat), .int .u64 (e.next : Nat), .int .u64 (e.rc.id : Nat), .int .u64 (e.rc.key : Nat), .int .u32 (e.rc.x : Nat), .int .u32 (e.rc.y : Nat), .string (strOf e.rc.val), .bool e.rc.ghost, .slice PA np pc, .slice QA na qc] ∧ At x7 (w.heap.size + 1) 29 #[.int .u64 (f.lsn : Nat), .int .i64 f.kind, .int .u64 (f.txn : Nat), .int .u64 (f.prev : Nat), .int .u64 (f.next : Nat), .int .u64 (f.rc.id : Nat), .int .u64 (f.rc.key : Nat), .int .u32 (f.rc.x : Nat), .int .u32 (f.rc.y : Nat), .string (strOf f.rc.val), .bool f.rc.ghost, .slice RA mp rc, .slice SA ma sc] := ⟨hS.1.under hbx7 hS.1.lt, hS.2.under hbx7 hS.2.lt⟩
      clear hbx7
      refine hK.out _ _ (Sx7) (fun hT => ?_)
      clear hK  hS
      have hS := hT
      clear hT
      refine takeH (i := 13) (d := 41) (v := ?vk13) rfl (by kernel_rfl) (by kernel_rfl) (by kernel_rfl) (fun _ _ _ h => h) rfl (by rfl) ?yk13 hS ?rk13
      case yk13 => (intro wz hz; go_simp <;> with_reducible rfl)
      simp only [List.setIfInBounds_toArray, List.set_cons_zero, List.set_cons_succ]
      refine takeH (i := 14) (d := 42) (v := ?vk14) rfl (by kernel_rfl) (by kernel_rfl) (by kernel_rfl) (fun _ _ _ h => h) rfl (by rfl) ?yk14 hS ?rk14
      case yk14 => (intro wz hz; go_simp <;> with_reducible rfl)
      simp only [List.setIfInBounds_toArray, List.set_cons_zero, List.set_cons_succ]
      refine takeH (i := 15) (d := 43) (v := ?vk15) rfl (by kernel_rfl) (by kernel_rfl) (by kernel_rfl) (fun _ _ _ h => h) rfl (by rfl) ?yk15 hS ?rk15
      case yk15 => (intro wz hz; go_simp <;> with_reducible rfl)
      simp only [List.setIfInBounds_toArray, List.set_cons_zero, List.set_cons_succ]
      refine takeH (i := 16) (d := 44) (v := .agg #[.int .u64 (e.lsn : Nat), .int .i64 e.kind, .int .u64 (e.txn : Nat), .int .u64 (e.prev : Nat), .int .u64 (e.next : Nat), .int .u64 (e.rc.id : Nat), .int .u64 (e.rc.key : Nat), .int .u32 (e.rc.x : Nat), .int .u32 (e.rc.y : Nat), .string (strOf e.rc.val), .bool e.rc.ghost, .slice PA np pc, .slice QA na qc]) rfl (by kernel_rfl) (by kernel_rfl) (by kernel_rfl) (fun _ _ _ h => h) rfl (by rfl) ?yk16 hS ?rk16
      case yk16 => (intro wz hz; exact exec_load_at 29 (.tmp 2) rfl (w.heap.size) rfl _ 13 str29 rfl hz.1)
      simp only [List.setIfInBounds_toArray, List.set_cons_zero, List.set_cons_succ]
      refine takeH (i := 17) (d := 45) (v := .agg #[.int .u64 (f.lsn : Nat), .int .i64 f.kind, .int .u64 (f.txn : Nat), .int .u64 (f.prev : Nat), .int .u64 (f.next : Nat), .int .u64 (f.rc.id : Nat), .int .u64 (f.rc.key : Nat), .int .u32 (f.rc.x : Nat), .int .u32 (f.rc.y : Nat), .string (strOf f.rc.val), .bool f.rc.ghost, .slice RA mp rc, .slice SA ma sc]) rfl (by kernel_rfl) (by kernel_rfl) (by kernel_rfl) (fun _ _ _ h => h) rfl (by rfl) ?yk17 hS ?rk17
      case yk17 => (intro wz hz; exact exec_load_at 29 (.tmp 3) rfl (w.heap.size + 1) rfl _ 13 str29 rfl hz.2)
      simp only [List.setIfInBounds_toArray, List.set_cons_zero, List.set_cons_succ]
      refine takeH (i := 19) (d := 47) (v := .agg #[.int .u64 (e.lsn : Nat), .int .i64 e.kind, .int .u64 (e.txn : Nat), .int .u64 (e.prev : Nat), .int .u64 (e.next : Nat), .int .u64 (e.rc.id : Nat), .int .u64 (e.rc.key : Nat), .int .u32 (e.rc.x : Nat), .int .u32 (e.rc.y : Nat), .string (strOf e.rc.val), .bool e.rc.ghost, .slice PA np pc, .slice QA na qc]) rfl (by kernel_rfl) (by kernel_rfl) (by kernel_rfl) (fun _ _ _ h => h) rfl (by rfl) ?yk19 hS ?rk19
      case yk19 => (intro wz hz; exact exec_load_at 29 (.tmp 2) rfl (w.heap.size) rfl _ 13 str29 rfl hz.1)
      simp only [List.setIfInBounds_toArray, List.set_cons_zero, List.set_cons_succ]
      refine takeH (i := 20) (d := 48) (v := .agg #[.int .u64 (f.lsn : Nat), .int .i64 f.kind, .int .u64 (f.txn : Nat), .int .u64 (f.prev : Nat), .int .u64 (f.next : Nat), .int .u64 (f.rc.id : Nat), .int .u64 (f.rc.key : Nat), .int .u32 (f.rc.x : Nat), .int .u32 (f.rc.y : Nat), .string (strOf f.rc.val), .bool f.rc.ghost, .slice RA mp rc, .slice SA ma sc]) rfl (by kernel_rfl) (by kernel_rfl) (by kernel_rfl) (fun _ _ _ h => h) rfl (by rfl) ?yk20 hS ?rk20
      case yk20 => (intro wz hz; exact exec_load_at 29 (.tmp 3) rfl (w.heap.size + 1) rfl _ 13 str29 rfl hz.2)
      simp only [List.setIfInBounds_toArray, List.set_cons_zero, List.set_cons_succ]
      refine wpAnyH_ready (rs := [18]) (by kernel_rfl) (by simp) ?_
      refine AllReadyH.cons rfl (fun K hK => ?_) AllReadyH.nil
      go_simp
      refine (eSame_any e f PA QA RA SA np pc na qc mp rc ma sc _ ((HE.out.under Bx7.out).up Bx7.out.size) ((HF.out.under Bx7.out).up Bx7.out.size) (by omega) (by omega) (by omega) (by omega)).mono ?_
      rintro r x8 ⟨rfl, hbx8⟩
      rw [HQ.out]
      have Bx8 := Lib.hid (Bx7.out.trans (hbx8.mono Bx7.out.size))
      have Sx8 : At x8 w.heap.size 29 #[.int .u64 (e.lsn : Nat), .int .i64 e.kind, .int .u64 (e.txn : Nat), .int .u64 (e.prev : Nat), .int .u64 (e.next : Nat), .int .u64 (e.rc.id : Nat), .int .u64 (e.rc.key : Nat), .int .u32 (e.rc.x : Nat), .int .u32 (e.rc.y : Nat), .string (strOf e.rc.val), .bool e.rc.ghost, .slice PA np pc, .slice QA na qc] ∧ At x8 (w.heap.size + 1) 29 #[.int .u64 (f.lsn : Nat), .int .i64 f.kind, .int .u64 (f.txn : Nat), .int .u64 (f.prev : Nat), .int .u64 (f.next : Nat), .int .u64 (f.rc.id : Nat), .int .u64 (f.rc.key : Nat), .int .u32 (f.rc.x : Nat), .int .u32 (f.rc.y : Nat), .string (strOf f.rc.val), .bool f.rc.ghost, .slice RA mp rc, .slice SA ma sc] := ⟨hS.1.under hbx8 hS.1.lt, hS.2.under hbx8 hS.2.lt⟩
      clear hbx8
      refine hK.out _ _ (Sx8) (fun hT => ?_)
      clear hK  hS
      have hS := hT
      clear hT
      refine wpAnyH_ready (rs := [21]) (by kernel_rfl) (by simp) ?_
      refine AllReadyH.cons rfl (fun K hK => ?_) AllReadyH.nil
      go_simp
      refine (refSame_any e f PA QA RA SA np pc na qc mp rc ma sc _ ((HE.out.under Bx8.out).up Bx8.out.size) ((HF.out.under Bx8.out).up Bx8.out.size) (by omega) (by omega) (by omega) (by omega)).mono ?_
      rintro r x9 ⟨rfl, hbx9⟩
      rw [HQ.out]
      have Bx9 := Lib.hid (Bx8.out.trans (hbx9.mono Bx8.out.size))
      have Sx9 : At x9 w.heap.size 29 #[.int .u64 (e.lsn : Nat), .int .i64 e.kind, .int .u64 (e.txn : Nat), .int .u64 (e.prev : Nat), .int .u64 (e.next : Nat), .int .u64 (e.rc.id : Nat), .int .u64 (e.rc.key : Nat), .int .u32 (e.rc.x : Nat), .int .u32 (e.rc.y : Nat), .string (strOf e.rc.val), .bool e.rc.ghost, .slice PA np pc, .slice QA na qc] ∧ At x9 (w.heap.size + 1) 29 #[.int .u64 (f.lsn : Nat), .int .i64 f.kind, .int .u64 (f.txn : Nat), .int .u64 (f.prev : Nat), .int .u64 (f.next : Nat), .int .u64 (f.rc.id : Nat), .int .u64 (f.rc.key : Nat), .int .u32 (f.rc.x : Nat), .int .u32 (f.rc.y : Nat), .string (strOf f.rc.val), .bool f.rc.ghost, .slice RA mp rc, .slice SA ma sc] := ⟨hS.1.under hbx9 hS.1.lt, hS.2.under hbx9 hS.2.lt⟩
      clear hbx9
      refine hK.out _ _ (Sx9) (fun hT => ?_)
      clear hK  hS
      have hS := hT
      clear hT
      refine takeH (i := 22) (d := 50) (v := ?vk22) rfl (by kernel_rfl) (by kernel_rfl) (by kernel_rfl) (fun _ _ _ h => h) rfl (by rfl) ?yk22 hS ?rk22
      case yk22 => (intro wz hz; go_simp <;> with_reducible rfl)
      simp only [List.setIfInBounds_toArray, List.set_cons_zero, List.set_cons_succ]
      refine takeH (i := 23) (d := 51) (v := ?vk23) rfl (by kernel_rfl) (by kernel_rfl) (by kernel_rfl) (fun _ _ _ h => h) rfl (by rfl) ?yk23 hS ?rk23
      case yk23 => (intro wz hz; go_simp <;> with_reducible rfl)
      simp only [List.setIfInBounds_toArray, List.set_cons_zero, List.set_cons_succ]
      refine takeH (i := 24) (d := 52) (v := ?vk24) rfl (by kernel_rfl) (by kernel_rfl) (by kernel_rfl) (fun _ _ _ h => h) rfl (by rfl) ?yk24 hS ?rk24
      case yk24 => (intro wz hz; go_simp <;> with_reducible rfl)
      simp only [List.setIfInBounds_toArray, List.set_cons_zero, List.set_cons_succ]
      refine takeH (i := 25) (d := 53) (v := ?vk25) rfl (by kernel_rfl) (by kernel_rfl) (by kernel_rfl) (fun _ _ _ h => h) rfl (by rfl) ?yk25 hS ?rk25
      case yk25 => (intro wz hz; go_simp <;> with_reducible rfl)
      simp only [List.setIfInBounds_toArray, List.set_cons_zero, List.set_cons_succ]
      refine takeH (i := 26) (d := 54) (v := ?vk26) rfl (by kernel_rfl) (by kernel_rfl) (by kernel_rfl) (fun _ _ _ h => h) rfl (by rfl) ?yk26 hS ?rk26
      case yk26 => (intro wz hz; go_simp <;> with_reducible rfl)
      simp only [List.setIfInBounds_toArray, List.set_cons_zero, List.set_cons_succ]
      refine takeH (i := 27) (d := 55) (v := ?vk27) rfl (by kernel_rfl) (by kernel_rfl) (by kernel_rfl) (fun _ _ _ h => h) rfl (by rfl) ?yk27 hS ?rk27
      case yk27 => (intro wz hz; go_simp <;> with_reducible rfl)
      simp only [List.setIfInBounds_toArray, List.set_cons_zero, List.set_cons_succ]
      refine takeH (i := 28) (d := 56) (v := .slice PA np pc) rfl (by kernel_rfl) (by kernel_rfl) (by kernel_rfl) (fun _ _ _ h => h) rfl (by rfl) ?yk28 hS ?rk28
      case yk28 => (intro wz hz; have hz2 : wz.cell? ⟨w.heap.size, 11, none⟩ = some (.slice PA np pc) := hz.1.cell 11; go_simp <;> with_reducible rfl)
      simp only [List.setIfInBounds_toArray, List.set_cons_zero, List.set_cons_succ]
      refine takeH (i := 29) (d := 57) (v := ?vk29) rfl (by kernel_rfl) (by kernel_rfl) (by kernel_rfl) (fun _ _ _ h => h) rfl (by rfl) ?yk29 hS ?rk29
      case yk29 => (intro wz hz; go_simp <;> with_reducible rfl)
      simp only [List.setIfInBounds_toArray, List.set_cons_zero, List.set_cons_succ]
      refine takeH (i := 30) (d := 58) (v := ?vk30) rfl (by kernel_rfl) (by kernel_rfl) (by kernel_rfl) (fun _ _ _ h => h) rfl (by rfl) ?yk30 hS ?rk30
      case yk30 => (intro wz hz; go_simp <;> with_reducible rfl)
      simp only [List.setIfInBounds_toArray, List.set_cons_zero, List.set_cons_succ]
      refine takeH (i := 31) (d := 59) (v := .slice QA na qc) rfl (by kernel_rfl) (by kernel_rfl) (by kernel_rfl) (fun _ _ _ h => h) rfl (by rfl) ?yk31 hS ?rk31
      case yk31 => (intro wz hz; have hz2 : wz.cell? ⟨w.heap.size, 12, none⟩ = some (.slice QA na qc) := hz.1.cell 12; go_simp <;> with_reducible rfl)
      simp only [List.setIfInBounds_toArray, List.set_cons_zero, List.set_cons_succ]
      refine takeH (i := 32) (d := 60) (v := ?vk32) rfl (by kernel_rfl) (by kernel_rfl) (by kernel_rfl) (fun _ _ _ h => h) rfl (by rfl) ?yk32 hS ?rk32
      case yk32 => (intro wz hz; go_simp <;> with_reducible rfl)
      simp only [List.setIfInBounds_toArray, List.set_cons_zero, List.set_cons_succ]
      refine wpAnyH_ready (rs := [33]) (by kernel_rfl) (by simp) ?_
      refine AllReadyH.cons rfl (fun K hK => ?_) AllReadyH.nil
      go_simp
      refine (bound_any np na _ (by omega) (by omega)).mono ?_
      rintro r wy2 ⟨rfl, rfl⟩
      refine hK.out _ _ (hS) (fun hT => ?_)
      clear hK  hS
      have hS := hT
      clear hT
      refine takeH (i := 34) (d := 62) (v := ?vk34) rfl (by kernel_rfl) (by kernel_rfl) (by kernel_rfl) (fun _ _ _ h => h) rfl (by rfl) ?yk34 hS ?rk34
      case yk34 => (intro wz hz; go_simp <;> with_reducible rfl)
      simp only [List.setIfInBounds_toArray, List.set_cons_zero, List.set_cons_succ]
      refine takeH (i := 35) (d := 63) (v := ?vk35) rfl (by kernel_rfl) (by kernel_rfl) (by kernel_rfl) (fun _ _ _ h => h) rfl (by rfl) ?yk35 hS ?rk35
      case yk35 => (intro wz hz; go_simp <;> with_reducible rfl)
      simp only [List.setIfInBounds_toArray, List.set_cons_zero, List.set_cons_succ]
      refine takeH (i := 36) (d := 64) (v := ?vk36) rfl (by kernel_rfl) (by kernel_rfl) (by kernel_rfl) (fun _ _ _ h => h) rfl (by rfl) ?yk36 hS ?rk36
      case yk36 => (intro wz hz; go_simp <;> with_reducible rfl)
      simp only [List.setIfInBounds_toArray, List.set_cons_zero, List.set_cons_succ]
      refine wpAnyH_ready (rs := [37]) (by kernel_rfl) (by simp) ?_
      refine AllReadyH.cons rfl (fun K hK => ?_) AllReadyH.nil
      go_simp
      rw [if_pos (show (n3 : Int) ≤ 80 + 226 * (np : Int) + 8 * (na : Int) by omega)]
      refine (works_any _).mono ?_
      rintro r x10 ⟨rfl, hbx10⟩
      have B9 := Lib.hid (Bx9.out.trans (hbx10.mono Bx9.out.size))
      have Sx10 : At x10 w.heap.size 29 #[.int .u64 (e.lsn : Nat), .int .i64 e.kind, .int .u64 (e.txn : Nat), .int .u64 (e.prev : Nat), .int .u64 (e.next : Nat), .int .u64 (e.rc.id : Nat), .int .u64 (e.rc.key : Nat), .int .u32 (e.rc.x : Nat), .int .u32 (e.rc.y : Nat), .string (strOf e.rc.val), .bool e.rc.ghost, .slice PA np pc, .slice QA na qc] ∧ At x10 (w.heap.size + 1) 29 #[.int .u64 (f.lsn : Nat), .int .i64 f.kind, .int .u64 (f.txn : Nat), .int .u64 (f.prev : Nat), .int .u64 (f.next : Nat), .int .u64 (f.rc.id : Nat), .int .u64 (f.rc.key : Nat), .int .u32 (f.rc.x : Nat), .int .u32 (f.rc.y : Nat), .string (strOf f.rc.val), .bool f.rc.ghost, .slice RA mp rc, .slice SA ma sc] := ⟨hS.1.under hbx10 hS.1.lt, hS.2.under hbx10 hS.2.lt⟩
      clear hbx10
      refine hK.out _ _ (Sx10) (fun hT => ?_)
      clear hK  hS
      have hS := hT
      clear hT
      refine takeH (i := 38) (d := 66) (v := ?vk38) rfl (by kernel_rfl) (by kernel_rfl) (by kernel_rfl) (fun _ _ _ h => h) rfl (by rfl) ?yk38 hS ?rk38
      case yk38 => (intro wz hz; go_simp <;> with_reducible rfl)
      simp only [List.setIfInBounds_toArray, List.set_cons_zero, List.set_cons_succ]
      refine takeH (i := 39) (d := 4) (v := ?vk39) rfl (by kernel_rfl) (by kernel_rfl) (by kernel_rfl) (fun _ _ _ h => h) rfl (by rfl) ?yk39 hS ?rk39
      case yk39 => (intro wz hz; go_simp <;> with_reducible rfl)
      simp only [List.setIfInBounds_toArray, List.set_cons_zero, List.set_cons_succ]
      refine wpAnyH_done (by kernel_rfl) ?_ _
      go_wp2_with fail
      go_ret
      exact ⟨congrArg (fun b => Ending.returned (.bool b)) (show decide ((n3 : Int) ≤ 80 + 226 * (np : Int) + 8 * (na : Int)) = true by simp; omega), B9.out⟩
    · go_wp2_with fail
      refine (works_any _).mono ?_
      rintro r w3 ⟨rfl, hb3⟩
      have B3 := Lib.hid (B2.out.trans (hb3.mono B2.out.size))
      clear hb3
      go_wp2_with fail
      go_ret
      exact ⟨rfl, B3.out⟩
  · go_wp2_with fail
    refine (works_any _).mono ?_
    rintro r w3 ⟨rfl, hb3⟩
    have B3 := Lib.hid (B1.out.trans (hb3.mono B1.out.size))
    clear hb3
    go_wp2_with fail
    go_ret
    exact ⟨rfl, B3.out⟩
end Go.Proofs.YtihlmjknhgnjpaaDoor
