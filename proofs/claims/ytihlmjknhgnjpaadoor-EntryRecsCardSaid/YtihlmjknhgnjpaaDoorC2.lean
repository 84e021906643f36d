/-
  Walks: rising, Check, the reference's Check, Light, Bound.
  Conditions: none beyond those that each theorem names.
-/
import Derived.Test.YtihlmjknhgnjpaaDoorC1
namespace Go.Proofs.YtihlmjknhgnjpaaDoor
open Go.RowKit
set_option maxRecDepth 8000


def RisR (w : World) (B : Nat) (A : Option Addr) (n : Nat) (l : List Im) (p i : Value) (wr : World) : Prop :=
  ∃ (k : Nat) (last : Int), k ≤ n ∧ i = .int .i64 k ∧ p = .int .i64 last ∧ Hid (risB last (l.drop k) = risB (-1) l) ∧ Hid (LI wr B A n l) ∧ Below w.heap.size w wr
theorem ris_no {l : List Im} {k : Nat} {last : Int} (hk : k < l.length) (h : l[k].page ≤ last ∨ 255 < l[k].page) : risB last (l.drop k) = false := by
  rw [List.drop_eq_getElem_cons hk, risB, if_pos h]
theorem ris_yes {l : List Im} {k : Nat} {last : Int} (hk : k < l.length) (h : ¬ (l[k].page ≤ last ∨ 255 < l[k].page)) : risB last (l.drop k) = risB l[k].page (l.drop (k + 1)) := by
  rw [List.drop_eq_getElem_cons hk, risB, if_neg h]

set_option maxHeartbeats 800000 in
theorem rising_any (B n c : Nat) (A : Option Addr) (l : List Im) (w : World) (h : LI w B A n l) (hB : B ≤ w.heap.size) (hn : n ≤ 1000) :
    Calls Tryd.prog 27 #[.slice A n c] w fun e w' => e = .returned (.bool (risB (-1) l)) ∧ Below w.heap.size w w' := by
  have HL := Lib.hid h.len
  have HH := Lib.hid h
  clear h
  go_enter Tryd.func27, Tryd.ntmps27
  go_wp2_with fail
  go_loopw [3, 8] (fun p i wr => RisR w B A n l p i wr) (fun _ i _ => n - (intOf i).toNat)
  case atStart => exact ⟨0, -1, Nat.zero_le _, rfl, rfl, Lib.hid rfl, HH, Below.refl _ _⟩
  case round =>
    obtain ⟨k, last, hk, rfl, rfl, hr, hli, hb⟩ := hrel
    by_cases hlt : k < n
    · obtain ⟨b, o, hl, rfl, hbB, hra⟩ := hli.out.at hlt
      have RA := Lib.hid hra
      have sb := hb.size
      have EQ1 := Lib.hid (fun h => ris_no (last := last) hl h)
      have EQ2 := Lib.hid (fun h => ris_yes (last := last) hl h)
      clear hra
      generalize hi : l[k] = im at *
      by_cases h1 : im.page ≤ last
      · have B1 := Lib.hid (hb.alloc sb (.cells (imA im) 51))
        have cp : (wr.alloc (.cells (imA im) 51)).cell? ⟨wr.heap.size, 0, none⟩ = some (.int .i64 im.page) := (At.new wr 51 (imA im)).cell 0
        go_wp2_with (first
          | refine wpList_load_im 11 (.tmp 10) rfl rfl rfl b (o + k * 225) rfl im RA.out ?_
          | refine wpList_store_new 51 (.tmp 5) (.tmp 11) rfl rfl rfl wr.heap.size wr rfl rfl (imA im) Tryd.zeroCells51 225 rfl str51 (imA_size _) Tryd.zeroCells51_size (imA_one _) rfl ?_)
        replace B1 := B1.out
        go_ret
        exact ⟨by rw [← hr.out, EQ1.out (.inl h1)]; rfl, B1⟩
      · by_cases h2 : 255 < im.page
        · have B1 := Lib.hid (hb.alloc sb (.cells (imA im) 51))
          have cp : (wr.alloc (.cells (imA im) 51)).cell? ⟨wr.heap.size, 0, none⟩ = some (.int .i64 im.page) := (At.new wr 51 (imA im)).cell 0
          go_wp2_with (first
            | refine wpList_load_im 11 (.tmp 10) rfl rfl rfl b (o + k * 225) rfl im RA.out ?_
            | refine wpList_store_new 51 (.tmp 5) (.tmp 11) rfl rfl rfl wr.heap.size wr rfl rfl (imA im) Tryd.zeroCells51 225 rfl str51 (imA_size _) Tryd.zeroCells51_size (imA_one _) rfl ?_)
          replace B1 := B1.out
          go_ret
          exact ⟨by rw [← hr.out, EQ1.out (.inr h2)]; rfl, B1⟩
        · have B1 := Lib.hid (hb.alloc sb (.cells (imA im) 51))
          have cp : (wr.alloc (.cells (imA im) 51)).cell? ⟨wr.heap.size, 0, none⟩ = some (.int .i64 im.page) := (At.new wr 51 (imA im)).cell 0
          go_wp2_with (first
            | refine wpList_load_im 11 (.tmp 10) rfl rfl rfl b (o + k * 225) rfl im RA.out ?_
            | refine wpList_store_new 51 (.tmp 5) (.tmp 11) rfl rfl rfl wr.heap.size wr rfl rfl (imA im) Tryd.zeroCells51 225 rfl str51 (imA_size _) Tryd.zeroCells51_size (imA_one _) rfl ?_)
          replace B1 := B1.out
          refine ⟨⟨k + 1, im.page, by omega, by go_num, rfl, Lib.hid ?_, Lib.hid ?_, B1⟩, by simp [intOf]; omega⟩
          · rw [← hr.out, EQ2.out (by omega)]
          · exact hli.out.under ((Below.refl _ _).alloc (by omega) _)
    · go_wp2_with fail
      go_ret
      obtain rfl : k = n := by omega
      have e : l.drop k = [] := List.drop_of_length_le (by rw [HL.out]; exact Nat.le_refl _)
      refine ⟨?_, hb⟩
      have := hr.out
      rw [e] at this
      rw [← this]
      rfl

/-- The slices of an entry. -/
structure EL (w : World) (B : Nat) (e : Ent) (PA : Option Addr) (np : Nat) (QA : Option Addr) (na : Nat) : Prop where
  pages : LI w B PA np e.pages
  act : Lies w B 1 QA na (UC e.act)
section
variable {w w' : World} {B B' np na : Nat} {e : Ent} {PA QA : Option Addr}
theorem EL.under (h : EL w B e PA np QA na) (hb : Below B w w') : EL w' B e PA np QA na := ⟨h.pages.under hb, h.act.under hb⟩
theorem EL.up (h : EL w B e PA np QA na) (hB : B ≤ B') : EL w B' e PA np QA na := ⟨h.pages.up hB, h.act.up hB⟩
theorem EL.lenP (h : EL w B e PA np QA na) : e.pages.length = np := h.pages.len
theorem EL.lenA (h : EL w B e PA np QA na) : e.act.length = na := by have := h.act.len; rw [UC_length] at this; omega
end

/-- A code comes back; what was there is as it was. -/
def RetC (w : World) (z : Int) (e : Ending) (w' : World) : Prop := e = .returned (.int .i64 z) ∧ Below w.heap.size w w'

set_option maxHeartbeats 800000 in
theorem check_any (e : Ent) (PA QA : Option Addr) (np pc na qc : Nat) (w : World) (h : EL w w.heap.size e PA np QA na) (hnp : np ≤ 1000) (hna : na ≤ 1000) (hv : e.rc.val.length ≤ 1000) :
    Calls Tryd.prog 11 #[.agg #[.int .u64 (e.lsn : Nat), .int .i64 e.kind, .int .u64 (e.txn : Nat), .int .u64 (e.prev : Nat), .int .u64 (e.next : Nat), .int .u64 (e.rc.id : Nat), .int .u64 (e.rc.key : Nat), .int .u32 (e.rc.x : Nat), .int .u32 (e.rc.y : Nat), .string (strOf e.rc.val), .bool e.rc.ghost, .slice PA np pc, .slice QA na qc]] w (RetC w (chk e)) := by
  have h1 := h.lenP
  have h2 := h.lenA
  have hs := strOf_size e.rc.val
  have B1 := Lib.hid ((Below.refl w.heap.size w).alloc (Nat.le_refl _) (.cells #[.int .u64 (e.lsn : Nat), .int .i64 e.kind, .int .u64 (e.txn : Nat), .int .u64 (e.prev : Nat), .int .u64 (e.next : Nat), .int .u64 (e.rc.id : Nat), .int .u64 (e.rc.key : Nat), .int .u32 (e.rc.x : Nat), .int .u32 (e.rc.y : Nat), .string (strOf e.rc.val), .bool e.rc.ghost, .slice PA np pc, .slice QA na qc] 29))
  have HP := Lib.hid h.pages
  have fin : ∀ z : Int, chk e = z → RetC w (chk e) (.returned (.int .i64 z)) (w.alloc (.cells #[.int .u64 (e.lsn : Nat), .int .i64 e.kind, .int .u64 (e.txn : Nat), .int .u64 (e.prev : Nat), .int .u64 (e.next : Nat), .int .u64 (e.rc.id : Nat), .int .u64 (e.rc.key : Nat), .int .u32 (e.rc.x : Nat), .int .u32 (e.rc.y : Nat), .string (strOf e.rc.val), .bool e.rc.ghost, .slice PA np pc, .slice QA na qc] 29)) := fun z hz => ⟨by rw [hz], B1.out⟩
  have FIN := Lib.hid fin
  clear fin h
  by_cases k1 : e.kind < 1
  · have C := Lib.hid (show chk e = 1 by rw [chk, if_pos (.inl k1)])
    go_enter Tryd.func11, Tryd.ntmps11
    go_wp2_with fail
    go_ret
    exact FIN.out _ C.out
  by_cases k2 : 10 < e.kind
  · have C := Lib.hid (show chk e = 1 by rw [chk, if_pos (.inr k2)])
    go_enter Tryd.func11, Tryd.ntmps11
    go_wp2_with fail
    go_ret
    exact FIN.out _ C.out
  have K := Lib.hid (show ¬ (e.kind < 1 ∨ 10 < e.kind) by omega)
  by_cases k3 : 15 < e.rc.val.length
  · have C := Lib.hid (show chk e = 9 by rw [chk, if_neg K.out, if_pos k3])
    go_enter Tryd.func11, Tryd.ntmps11
    go_wp2_with fail
    go_ret
    exact FIN.out _ C.out
  by_cases k4 : 24 < np
  · have C := Lib.hid (show chk e = 13 by rw [chk, if_neg K.out, if_neg k3, if_pos (.inl (by omega))])
    go_enter Tryd.func11, Tryd.ntmps11
    go_wp2_with fail
    go_ret
    exact FIN.out _ C.out
  by_cases k5 : 64 < na
  · have C := Lib.hid (show chk e = 13 by rw [chk, if_neg K.out, if_neg k3, if_pos (.inr (by omega))])
    go_enter Tryd.func11, Tryd.ntmps11
    go_wp2_with fail
    go_ret
    exact FIN.out _ C.out
  have C := Lib.hid (show chk e = if risB (-1) e.pages = true then 0 else 2 by rw [chk, if_neg K.out, if_neg k3, if_neg (by omega)])
  clear FIN
  have RI := Lib.hid (rising_any w.heap.size np pc PA e.pages (w.alloc (.cells #[.int .u64 (e.lsn : Nat), .int .i64 e.kind, .int .u64 (e.txn : Nat), .int .u64 (e.prev : Nat), .int .u64 (e.next : Nat), .int .u64 (e.rc.id : Nat), .int .u64 (e.rc.key : Nat), .int .u32 (e.rc.x : Nat), .int .u32 (e.rc.y : Nat), .string (strOf e.rc.val), .bool e.rc.ghost, .slice PA np pc, .slice QA na qc] 29)) (HP.out.alloc (Nat.le_refl _) _) (by simp) hnp)
  generalize hq : risB (-1) e.pages = q at *
  clear hq
  go_enter Tryd.func11, Tryd.ntmps11
  go_wp2_with fail
  refine RI.out.mono ?_
  rintro e1 w1 ⟨rfl, hb⟩
  have B2 := B1.out.trans (hb.mono (by simp))
  cases q with
  | true =>
    go_wp2_with fail
    go_ret
    exact ⟨by rw [C.out]; rfl, B2⟩
  | false =>
    go_wp2_with fail
    go_ret
    exact ⟨by rw [C.out]; rfl, B2⟩

set_option maxHeartbeats 400000 in
theorem bound_any (p a : Nat) (w : World) (hp : p ≤ 1000) (ha : a ≤ 1000) : Calls Tryd.prog 15 #[.int .i64 (p : Int), .int .i64 (a : Int)] w fun e w' => e = .returned (.int .i64 ((80 + 226 * p + 8 * a : Nat) : Int)) ∧ w = w' := by
  go_enter Tryd.func15, Tryd.ntmps15
  go_wp2_with fail
  go_ret
  refine ⟨?_, rfl⟩
  congr 2

def lightI (v p a : Nat) : Int := if 100 < v ∨ 40 < p ∨ 100 < a then 1 else 0
set_option maxHeartbeats 400000 in
theorem light_any (e : Ent) (PA QA : Option Addr) (np pc na qc : Nat) (w : World) (hnp : np ≤ maxLen) (hna : na ≤ maxLen) (hv : e.rc.val.length ≤ maxLen) :
    Calls Tryd.prog 6 #[.agg #[.int .u64 (e.lsn : Nat), .int .i64 e.kind, .int .u64 (e.txn : Nat), .int .u64 (e.prev : Nat), .int .u64 (e.next : Nat), .int .u64 (e.rc.id : Nat), .int .u64 (e.rc.key : Nat), .int .u32 (e.rc.x : Nat), .int .u32 (e.rc.y : Nat), .string (strOf e.rc.val), .bool e.rc.ghost, .slice PA np pc, .slice QA na qc]] w (RetC w (lightI e.rc.val.length np na)) := by
  have hs := strOf_size e.rc.val
  unfold maxLen at hnp hna hv
  have fin : ∀ z : Int, lightI e.rc.val.length np na = z → RetC w (lightI e.rc.val.length np na) (.returned (.int .i64 z)) (w.alloc (.cells #[.int .u64 (e.lsn : Nat), .int .i64 e.kind, .int .u64 (e.txn : Nat), .int .u64 (e.prev : Nat), .int .u64 (e.next : Nat), .int .u64 (e.rc.id : Nat), .int .u64 (e.rc.key : Nat), .int .u32 (e.rc.x : Nat), .int .u32 (e.rc.y : Nat), .string (strOf e.rc.val), .bool e.rc.ghost, .slice PA np pc, .slice QA na qc] 29)) := fun z hz => ⟨by rw [hz], (Below.refl w.heap.size w).alloc (Nat.le_refl _) _⟩
  have FIN := Lib.hid fin
  clear fin
  by_cases k1 : 100 < e.rc.val.length
  · have C := Lib.hid (show lightI e.rc.val.length np na = 1 by rw [lightI, if_pos (by omega)])
    go_enter Tryd.func6, Tryd.ntmps6
    go_wp2_with fail
    go_ret
    exact FIN.out _ C.out
  by_cases k2 : 40 < np
  · have C := Lib.hid (show lightI e.rc.val.length np na = 1 by rw [lightI, if_pos (by omega)])
    go_enter Tryd.func6, Tryd.ntmps6
    go_wp2_with fail
    go_ret
    exact FIN.out _ C.out
  by_cases k3 : 100 < na
  · have C := Lib.hid (show lightI e.rc.val.length np na = 1 by rw [lightI, if_pos (by omega)])
    go_enter Tryd.func6, Tryd.ntmps6
    go_wp2_with fail
    go_ret
    exact FIN.out _ C.out
  have C := Lib.hid (show lightI e.rc.val.length np na = 0 by rw [lightI, if_neg (by omega)])
  go_enter Tryd.func6, Tryd.ntmps6
  go_wp2_with fail
  go_ret
  exact FIN.out _ C.out
end Go.Proofs.YtihlmjknhgnjpaaDoor
