/-
  Walks: the reference's Check.
  Conditions: at most 1000 pages, numbers and bytes of the value.
-/
import Derived.Test.YtihlmjknhgnjpaaDoorC2
namespace Go.Proofs.YtihlmjknhgnjpaaDoor
open Go.RowKit
set_option maxRecDepth 8000

set_option maxHeartbeats 1600000 in
theorem refCheck_any (e : Ent) (PA QA : Option Addr) (np pc na qc : Nat) (w : World) (h : EL w w.heap.size e PA np QA na) (hnp : np ≤ 1000) (hna : na ≤ 1000) (hv : e.rc.val.length ≤ 1000) :
    Calls Tryd.prog 12 #[.agg #[.int .u64 (e.lsn : Nat), .int .i64 e.kind, .int .u64 (e.txn : Nat), .int .u64 (e.prev : Nat), .int .u64 (e.next : Nat), .int .u64 (e.rc.id : Nat), .int .u64 (e.rc.key : Nat), .int .u32 (e.rc.x : Nat), .int .u32 (e.rc.y : Nat), .string (strOf e.rc.val), .bool e.rc.ghost, .slice PA np pc, .slice QA na qc]] w (RetC w (chk e)) := by
  have h1 := h.lenP
  have h2 := h.lenA
  have hs := strOf_size e.rc.val
  have B1 := Lib.hid ((Below.refl w.heap.size w).alloc (Nat.le_refl _) (.cells #[.int .u64 (e.lsn : Nat), .int .i64 e.kind, .int .u64 (e.txn : Nat), .int .u64 (e.prev : Nat), .int .u64 (e.next : Nat), .int .u64 (e.rc.id : Nat), .int .u64 (e.rc.key : Nat), .int .u32 (e.rc.x : Nat), .int .u32 (e.rc.y : Nat), .string (strOf e.rc.val), .bool e.rc.ghost, .slice PA np pc, .slice QA na qc] 29))
  have HP := Lib.hid (h.pages.alloc (Nat.le_refl _) (.cells #[.int .u64 (e.lsn : Nat), .int .i64 e.kind, .int .u64 (e.txn : Nat), .int .u64 (e.prev : Nat), .int .u64 (e.next : Nat), .int .u64 (e.rc.id : Nat), .int .u64 (e.rc.key : Nat), .int .u32 (e.rc.x : Nat), .int .u32 (e.rc.y : Nat), .string (strOf e.rc.val), .bool e.rc.ghost, .slice PA np pc, .slice QA na qc] 29))
  have fin : ∀ z : Int, chk e = z → RetC w (chk e) (.returned (.int .i64 z)) (w.alloc (.cells #[.int .u64 (e.lsn : Nat), .int .i64 e.kind, .int .u64 (e.txn : Nat), .int .u64 (e.prev : Nat), .int .u64 (e.next : Nat), .int .u64 (e.rc.id : Nat), .int .u64 (e.rc.key : Nat), .int .u32 (e.rc.x : Nat), .int .u32 (e.rc.y : Nat), .string (strOf e.rc.val), .bool e.rc.ghost, .slice PA np pc, .slice QA na qc] 29)) := fun z hz => ⟨by rw [hz], B1.out⟩
  have FIN := Lib.hid fin
  clear fin h
  by_cases k1 : e.kind < 1
  · have C := Lib.hid (show chk e = 1 by rw [chk, if_pos (.inl k1)])
    go_enter Tryd.func12, Tryd.ntmps12
    go_wp2_with fail
    go_ret
    exact FIN.out _ C.out
  by_cases k2 : 10 < e.kind
  · have C := Lib.hid (show chk e = 1 by rw [chk, if_pos (.inr k2)])
    go_enter Tryd.func12, Tryd.ntmps12
    go_wp2_with fail
    go_ret
    exact FIN.out _ C.out
  have K := Lib.hid (show ¬ (e.kind < 1 ∨ 10 < e.kind) by omega)
  by_cases k3 : 15 < e.rc.val.length
  · have C := Lib.hid (show chk e = 9 by rw [chk, if_neg K.out, if_pos k3])
    go_enter Tryd.func12, Tryd.ntmps12
    go_wp2_with fail
    go_ret
    exact FIN.out _ C.out
  by_cases k4 : 24 < np
  · have C := Lib.hid (show chk e = 13 by rw [chk, if_neg K.out, if_neg k3, if_pos (.inl (by omega))])
    go_enter Tryd.func12, Tryd.ntmps12
    go_wp2_with fail
    go_ret
    exact FIN.out _ C.out
  by_cases k5 : 64 < na
  · have C := Lib.hid (show chk e = 13 by rw [chk, if_neg K.out, if_neg k3, if_pos (.inr (by omega))])
    go_enter Tryd.func12, Tryd.ntmps12
    go_wp2_with fail
    go_ret
    exact FIN.out _ C.out
  have C := Lib.hid (show chk e = if risB (-1) e.pages = true then 0 else 2 by rw [chk, if_neg K.out, if_neg k3, if_neg (by omega)])
  have H1 := Lib.hid h1
  clear h1 B1
  go_enter Tryd.func12, Tryd.ntmps12
  go_wp2_with fail
  go_loop [3, 4] (fun p i => ∃ (k : Nat) (last : Int), k ≤ np ∧ i = .int .i64 k ∧ p = .int .i64 last ∧ Hid (risB last (e.pages.drop k) = risB (-1) e.pages)) (fun _ i => np - (intOf i).toNat)
  case atStart => exact ⟨0, -1, Nat.zero_le _, rfl, rfl, Lib.hid rfl⟩
  case round =>
    obtain ⟨k, last, hk, rfl, rfl, hr⟩ := hrel
    by_cases hlt : k < np
    · obtain ⟨b, o, hl, rfl, hbB, hra⟩ := HP.out.at hlt
      have hc := im_page hra
      have EQ1 := Lib.hid (fun h => ris_no (last := last) hl h)
      have EQ2 := Lib.hid (fun h => ris_yes (last := last) hl h)
      clear hra
      generalize e.pages[k] = im at *
      by_cases j1 : im.page ≤ last
      · go_wp2_with fail
        go_ret
        exact FIN.out _ (by rw [C.out, ← hr.out, EQ1.out (.inl j1)]; rfl)
      · by_cases j2 : 255 < im.page
        · go_wp2_with fail
          go_ret
          exact FIN.out _ (by rw [C.out, ← hr.out, EQ1.out (.inr j2)]; rfl)
        · go_wp2_with fail
          go_round
          case rel => exact ⟨k + 1, im.page, by omega, by go_num, rfl, Lib.hid (by rw [← hr.out, EQ2.out (by omega)])⟩
          case measure => simp [intOf]; omega
    · go_wp2_with fail
      go_ret
      obtain rfl : k = np := by omega
      have e' : e.pages.drop k = [] := List.drop_of_length_le (by rw [H1.out]; exact Nat.le_refl _)
      have := hr.out
      rw [e'] at this
      exact FIN.out _ (by rw [C.out, ← this]; rfl)
end Go.Proofs.YtihlmjknhgnjpaaDoor
