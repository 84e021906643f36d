/-
  Walks: Num, Noughts, parseField, the reader's Text, the reference's IsText.
  Conditions: readers over at most 10000 bytes.
-/
import Derived.Test.YtpffnjnncgmgnaaWRead
import Derived.Deep.QuietTactic
import Derived.BigQuiet
import Derived.RegionTactic
namespace Go.Proofs.Ytpffnjnncgmgnaa
open Go.RowKit
set_option maxRecDepth 8000

/-- The string whose field the bytes are. -/
def parseF : List UInt8 → Option (List UInt8)
  | [] => none
  | b :: rest => if b.toNat ≤ rest.length ∧ zeroB (rest.drop b.toNat) = true then some (rest.take b.toNat) else none
def fldS (l : List UInt8) : List UInt8 := (parseF l).getD []
def fldB (l : List UInt8) : Bool := (parseF l).isSome
def FieldIs (w : World) (l : List UInt8) (e : Ending) (w' : World) : Prop :=
  e = .returned (.tuple #[.string (strOf (fldS l)), .bool (fldB l)]) ∧ Below w.heap.size w w'

set_option maxHeartbeats 400000 in
theorem parse_empty (c : Nat) (A : Option Addr) (w : World) : Calls Try.prog 68 #[.slice A 0 c] w (FieldIs w []) := by
  go_enter Try.func68, Try.ntmps68
  go_wp2_with fail
  go_ret2
  exact ⟨rfl, Below.refl _ _⟩

theorem Lies.drewN {w : World} {B size n : Nat} {A : Option Addr} {xs : List Value} (h : Lies w B size A n xs) (k : Nat) : Lies (w.drewN k) B size A n xs :=
  h.of_cells fun _ _ => World.cell?_of_block rfl

theorem tailAt {w : World} {B n k : Nat} {a : Addr} {b : UInt8} {rest : List UInt8} (h : Lies w B 1 (some a) n (BC (b :: rest))) (hk : k ≤ rest.length) (A' : Option Addr)
    (hA : k < rest.length → A' = some ⟨a.block, a.off + 1 + k, none⟩) : Lies w B 1 A' (n - 1 - k) (BC (rest.drop k)) := by
  have hl : rest.length + 1 = n := by have := h.len; rw [BC_length] at this; simp at this; omega
  have h1 := h.tail (k := 1 + k) (by omega) A' (by
    intro hlt
    rw [hA (by omega)]
    simp only [Option.map_some, Addr.add]
    rw [if_neg (by omega), Nat.add_assoc])
  have e1 : (BC (b :: rest)).drop (1 + k) = BC (rest.drop k) := by
    rw [BC_drop, Nat.add_comm, List.drop_succ_cons]
  rw [e1] at h1
  have e2 : n - (1 + k) = n - 1 - k := by omega
  rw [e2] at h1
  exact h1

set_option maxHeartbeats 1000000 in
theorem parse_some (B n c : Nat) (A : Option Addr) (b : UInt8) (rest : List UInt8) (w : World) (h : Lies w B 1 A n (BC (b :: rest))) (hn : n ≤ 10000) (hc : n ≤ c) (hm : c ≤ maxLen) :
    Calls Try.prog 68 #[.slice A n c] w (FieldIs w (b :: rest)) := by
  have hl : rest.length + 1 = n := by have := h.len; rw [BC_length] at this; simp at this; omega
  obtain ⟨a, u, rfl, hb, hx, hcell⟩ := h.get (k := 0) (by omega)
  simp [BC] at hx
  subst hx
  have hb8 := u8_lt b
  unfold maxLen at hm
  have hne : ((n : Int) == 0) = false := by rw [beq_eq_false_iff_ne]; omega
  have hn1 : (1 : Int) ≤ n := by omega
  have hn0 : (0 : Int) < n := by omega
  have HH := Lib.hid h
  have HL := Lib.hid hl
  clear h hl
  have hcell0 : w.cell? a = some (.int .u8 b.toNat) := by simpa [Addr.add] using hcell
  have hnN : 0 < n := by omega
  have hw64 : IntKind.i64.wrap (b.toNat : Int) = (b.toNat : Int) := by rw [IntKind.wrap_i64]; omega
  by_cases hlen : b.toNat ≤ n - 1
  · have d1 : decide (n - 1 < b.toNat) = false := by simp; omega
    have hcb : b.toNat ≤ c - 1 := by omega
    have hlr : b.toNat ≤ rest.length := by have := HL.out; omega
    have hcv : ∀ nq cc : Nat, (convert 67 9 (.slice (some ⟨a.block, a.off + 1, none⟩) b.toNat cc)).run Try.prog (w.drewN nq) = .ok (.string (strOf (rest.take b.toNat))) (w.drewN nq) := by
      intro nq cc
      have h1 := tailAt HH.out (k := 0) (Nat.zero_le _) (some ⟨a.block, a.off + 1, none⟩) (fun _ => rfl)
      have h2 : Lies (w.drewN nq) B 1 (some ⟨a.block, a.off + 1, none⟩) (n - 1 - 0) (BC rest) := h1.drewN nq
      have h3 := h2.head (k := b.toNat) (by omega)
      rw [BC_take] at h3
      exact run_conv h3 67 9 5 cc Try.underlying67 Try.underlying5 Try.underlying9
    have hcv1 : c = 1 → ∀ nq : Nat, (convert 67 9 (.slice (some a) 0 0)).run Try.prog (w.drewN nq) = .ok (.string (strOf (rest.take b.toNat))) (w.drewN nq) := by
      intro h1 nq
      have e0 : b.toNat = 0 := by omega
      rw [e0]
      exact run_conv (B := B) Lies.empty 67 9 5 0 Try.underlying67 Try.underlying5 Try.underlying9
    have AZ : Hid (∀ (nq m cc : Nat) (A' : Option Addr), m = n - 1 - b.toNat → (b.toNat < rest.length → A' = some ⟨a.block, a.off + 1 + b.toNat, none⟩) →
        Calls Try.prog 69 #[.slice A' m cc] (w.drewN nq) fun e w' => e = .returned (.bool (zeroB (rest.drop b.toNat))) ∧ w.drewN nq = w') := by
      intro nq m cc A' hm hA
      subst hm
      exact allZero_any B _ cc A' (rest.drop b.toNat) _ (show Lies (w.drewN nq) B 1 A' (n - 1 - b.toNat) _ from (tailAt HH.out hlr A' hA).drewN nq) (by omega)
    have hrl : rest.length = n - 1 := by have := HL.out; omega
    have HRL := Lib.hid hrl
    clear hrl
    by_cases hz : zeroB (rest.drop b.toNat) = true
    · have FIN : Hid (∀ k, FieldIs w (b :: rest) (.returned (.tuple #[.string (strOf (rest.take b.toNat)), .bool true])) (w.drewN k)) := by
        intro k
        refine ⟨?_, ⟨rfl, rfl, rfl, Nat.le_refl _, fun _ _ => rfl⟩⟩
        have hsome : parseF (b :: rest) = some (rest.take b.toNat) := by simp only [parseF]; rw [if_pos ⟨hlr, hz⟩]
        rw [fldS, fldB, hsome]
        rfl
      rw [hz] at AZ
      clear hz
      by_cases hc1 : c = 1
      · have hcv2 := hcv1 hc1
        obtain rfl : n = 1 := by omega
        subst hc1
        clear hcv1
        go_enter Try.func68, Try.ntmps68
        go_wp2_with fail
        go_quiet (fail)
        go_wp2_with (go_at_call 69; refine (AZ.out _ _ _ _ (by omega) (by intro hq; rw [HRL.out] at hq; omega)).mono ?_; rintro e w' ⟨rfl, rfl⟩)
        all_goals
          go_ret2
          exact FIN.out _
      · clear hcv1
        go_enter Try.func68, Try.ntmps68
        go_wp2_with fail
        go_quiet (fail)
        go_wp2_with (go_at_call 69; refine (AZ.out _ _ _ _ (by omega) (by intro hq; rw [HRL.out] at hq; first | (split <;> first | omega | rfl) | rfl | omega)).mono ?_; rintro e w' ⟨rfl, rfl⟩)
        all_goals
          go_ret2
          exact FIN.out _
    · have hz : zeroB (rest.drop b.toNat) = false := by simpa using hz
      have FIN : Hid (∀ k, FieldIs w (b :: rest) (.returned (.tuple #[.string { data := #[] }, .bool false])) (w.drewN k)) := by
        intro k
        refine ⟨?_, ⟨rfl, rfl, rfl, Nat.le_refl _, fun _ _ => rfl⟩⟩
        have hnone : parseF (b :: rest) = none := by simp only [parseF]; rw [if_neg (by rw [hz]; simp)]
        rw [fldS, fldB, hnone]
        rfl
      rw [hz] at AZ
      clear hz hcv hcv1
      by_cases hc1 : c = 1
      · obtain rfl : n = 1 := by omega
        subst hc1
        go_enter Try.func68, Try.ntmps68
        go_wp2_with fail
        go_quiet (fail)
        go_wp2_with (go_at_call 69; refine (AZ.out _ _ _ _ (by omega) (by intro hq; rw [HRL.out] at hq; omega)).mono ?_; rintro e w' ⟨rfl, rfl⟩)
        all_goals
          go_ret2
          exact FIN.out _
      · go_enter Try.func68, Try.ntmps68
        go_wp2_with fail
        go_quiet (fail)
        go_wp2_with (go_at_call 69; refine (AZ.out _ _ _ _ (by omega) (by intro hq; rw [HRL.out] at hq; first | (split <;> first | omega | rfl) | rfl | omega)).mono ?_; rintro e w' ⟨rfl, rfl⟩)
        all_goals
          go_ret2
          exact FIN.out _
  · have d1 : decide (n - 1 < b.toNat) = true := by simp; omega
    have hnone : parseF (b :: rest) = none := by
      have := HL.out
      simp only [parseF]
      rw [if_neg (by omega)]
    have FIN : Hid (∀ k, FieldIs w (b :: rest) (.returned (.tuple #[.string { data := #[] }, .bool false])) (w.drewN k)) := by
      intro k
      refine ⟨?_, ⟨rfl, rfl, rfl, Nat.le_refl _, fun _ _ => rfl⟩⟩
      rw [fldS, fldB, hnone]
      rfl
    clear hnone
    go_enter Try.func68, Try.ntmps68
    go_wp2_with fail
    go_quiet (fail)
    go_wp2_with fail
    all_goals
      go_ret2
      exact FIN.out _

theorem parse_any (B n c : Nat) (A : Option Addr) (l : List UInt8) (w : World) (h : Lies w B 1 A n (BC l)) (hn : n ≤ 10000) (hc : n ≤ c) (hm : c ≤ maxLen) :
    Calls Try.prog 68 #[.slice A n c] w (FieldIs w l) := by
  cases l with
  | nil =>
    have : n = 0 := by have := h.len; rw [BC_length] at this; simp at this; omega
    subst this
    exact parse_empty c A w
  | cons b rest => exact parse_some B n c A b rest w h hn hc hm

theorem Rdr.grown {w w' : World} {g : Nat} {l : List UInt8} {b : Bool} (h : Rdr w g l b) {g' : Nat} (hg : w.grownBy w' (some g')) (hlt : g < g') : Rdr w' g l b :=
  h.kept fun k hk => hg.block k (by have := h.lt; omega) (by intro e; injection e with e; omega)

/-- The reader's error state is set. -/
theorem Rdr.fail {w : World} {g : Nat} {l : List UInt8} {b : Bool} (h : Rdr w g l b) : Rdr (w.setCell ⟨g, 1, none⟩ (.bool true)) g l true := by
  obtain ⟨A, c, hh, hli, hc, hm⟩ := h
  refine ⟨A, c, ?_, hli.setCell (Nat.le_refl _) _, hc, hm⟩
  rw [heap_set w g 1 _ _ _ hh]
  rfl

def ReadText (w : World) (g : Nat) (s l : List UInt8) (b : Bool) (e : Ending) (w' : World) : Prop :=
  e = .returned (.string (strOf s)) ∧ Rdr w' g l b ∧ w.grownBy w' (some g)
def ReadNum (w : World) (g : Nat) (n : Int) (l : List UInt8) (b : Bool) (e : Ending) (w' : World) : Prop :=
  e = .returned (.int .u64 n) ∧ Rdr w' g l b ∧ w.grownBy w' (some g)

set_option maxHeartbeats 400000 in
theorem rtext_fail (g : Nat) (l : List UInt8) (b : Bool) (k : Int) (w : World) (h : Rdr w g l b) (hl : l.length ≤ 10000) (hk : b = true ∨ k < 0 ∨ (l.length : Int) < k) :
    Calls Try.prog 65 #[.pointer (some ⟨g, 0, none⟩), .int .i64 k] w (ReadText w g [] l true) := by
  have TF := Lib.hid (take_fail g l b k w h (by omega) hk)
  clear h hk
  go_enter Try.func65, Try.ntmps65
  go_wp2_with (first
    | (go_at_call 63; refine TF.out.mono ?_; rintro e w1 ⟨rfl, hr, hg⟩; have HR := Lib.hid hr; clear hr)
    | (go_at_call 68; refine (parse_empty 0 none w1).mono ?_; rintro e w2 ⟨rfl, hb⟩; have HB := Lib.hid hb
       have HR2 := Lib.hid (HR.out.below hb)
       obtain ⟨A2, c2, hh2, _⟩ := HR2.out
       have hc2 : w2.cell? ⟨g, 1, none⟩ = some (.bool true) := cell_of_row w2 g 1 _ _ _ hh2
       have hf2 : w2.frozen? ⟨g, 1, none⟩ = false := by simp [World.frozen?, hh2]
       clear hh2))
  go_ret
  exact ⟨rfl, HR2.out.fail, (hg.trans (grown_below HB.out _)).trans (grown_set w2 g 1 _)⟩
end Go.Proofs.Ytpffnjnncgmgnaa
