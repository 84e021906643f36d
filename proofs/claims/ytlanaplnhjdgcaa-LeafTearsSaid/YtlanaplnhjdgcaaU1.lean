/-
  The walk of leaf.Write.
  Conditions: disks of at most 100000 sectors.
-/
import Derived.Test.YtlanaplnhjdgcaaS1
namespace Go.Proofs.Ytlanaplnhjdgcaa
open Go.RowKit

section
variable (X : Nat → Prop) (g gs : Nat) (S : List Sect) (nw fu : Int) (kp : List Bool) (dn : Bool) (w : World)
set_option maxRecDepth 8000 in
set_option maxHeartbeats 800000 in
theorem lwrite_yes (base n lsn : Nat) (p : Pg) (h : Plat X w g gs S nw fu kp dn) (hn : S.length ≤ 100000) (hf : base + 4 * n + 4 ≤ S.length) (hX : ∀ k, X k → k < w.heap.size) (S' : List Sect) (nw' fu' : Int) (kp' : List Bool) (dn' : Bool) (code : Int)
    (hw : ∀ wq A c, Plat X wq g gs S nw fu kp dn → Lz (own g gs) wq 64 A 4 (flat (puts p lsn)) → (∀ k, X k → k < wq.heap.size) → Calls Try.prog 26 #[.pointer (some ⟨g, 0, none⟩), .int .i64 ((base + 4 * n : Nat) : Int), .slice A 4 c] wq (Wrote X wq g gs S' nw' fu' kp' dn' code)) :
    Calls Try.prog 13 #[.pointer (some ⟨g, 0, none⟩), .int .i64 base, .int .i64 n, .agg (pgA p), .int .u64 lsn] w (Wrote X w g gs S' nw' fu' kp' dn' code) := by
  have B1 : Below w.heap.size w (w.alloc (.cells (pgA p) 22)) := (Below.refl _ _).alloc (Nat.le_refl _) _
  have h1 := h.below B1
  have EX := Lib.hid (exists_yes X g gs S nw fu kp dn (w.alloc (.cells (pgA p) 22)) base n h1 hn hf)
  have R0 := Lib.hid (row_pg w p)
  have WR := Lib.hid hw
  have PD0 := Lib.hid h1
  have HB1 := Lib.hid B1
  have HX0 := Lib.hid hX
  obtain ⟨l1, l2, l3⟩ := h.lt
  have NG : Hid (¬ own g gs w.heap.size) := fun hh => by rcases hh with hh | hh <;> omega
  clear h h1 hw B1 hX
  go_enter Try.func13, Try.ntmps13
  go_wp2_with (go_at_call 25; refine EX.out.mono ?_; rintro e w1 ⟨rfl, rfl⟩)
  have PD : Hid (Plat X (w.alloc (.cells (pgA p) 22)).drew g gs S nw fu kp dn) := PD0.out.drewN 1
  have HX1 : Hid (∀ k, X k → k < (w.alloc (.cells (pgA p) 22)).drew.heap.size) := fun k hk => Nat.lt_of_lt_of_le (HX0.out k hk) HB1.out.size
  have OW : Hid (∀ k, own g gs k → k < (w.alloc (.cells (pgA p) 22)).drew.heap.size) := fun k hk => by
    have hs : w.heap.size ≤ (w.alloc (.cells (pgA p) 22)).drew.heap.size := HB1.out.size
    rcases hk with rfl | rfl <;> omega
  have MD : Hid (Mod (own g gs) w (w.alloc (.cells (pgA p) 22)).drew) := Mod.of_below (below_drew HB1.out) _
  have RD := Lib.hid R0.out.drew
  refine wp_region_held_drew (S := fun z => RowAt z w.heap.size 22 p.toList) (by kernel_rfl) RD.out (fun hS => ?_)
  generalize (w.alloc (.cells (pgA p) 22)).drew = wz0 at *
  refine takeH (i := 0) (d := 16) (v := ?vw0) rfl (by kernel_rfl) (by kernel_rfl) (by kernel_rfl) (fun _ _ _ h => h) rfl (by rfl) ?yw0 hS ?rw0
  case yw0 => (intro wz hz; go_simp <;> with_reducible rfl)
  simp only [List.setIfInBounds_toArray, List.set_cons_zero, List.set_cons_succ]
  refine takeH (i := 1) (d := 17) (v := ?vw1) rfl (by kernel_rfl) (by kernel_rfl) (by kernel_rfl) (fun _ _ _ h => h) rfl (by rfl) ?yw1 hS ?rw1
  case yw1 => (intro wz hz; go_simp <;> with_reducible rfl)
  simp only [List.setIfInBounds_toArray, List.set_cons_zero, List.set_cons_succ]
  refine takeH (i := 2) (d := 18) (v := ?vw2) rfl (by kernel_rfl) (by kernel_rfl) (by kernel_rfl) (fun _ _ _ h => h) rfl (by rfl) ?yw2 hS ?rw2
  case yw2 => (intro wz hz; go_simp <;> with_reducible rfl)
  simp only [List.setIfInBounds_toArray, List.set_cons_zero, List.set_cons_succ]
  refine takeH (i := 4) (d := 20) (v := .agg (pgA p)) rfl (by kernel_rfl) (by kernel_rfl) (by kernel_rfl) (fun _ _ _ h => h) rfl (by rfl) ?yw4 hS ?rw4
  case yw4 => (intro wz hz; exact exec_load_pg (.tmp 8) rfl w.heap.size rfl p hz)
  simp only [List.setIfInBounds_toArray, List.set_cons_zero, List.set_cons_succ]
  refine takeH (i := 5) (d := 21) (v := ?vw5) rfl (by kernel_rfl) (by kernel_rfl) (by kernel_rfl) (fun _ _ _ h => h) rfl (by rfl) ?yw5 hS ?rw5
  case yw5 => (intro wz hz; go_simp <;> with_reducible rfl)
  simp only [List.setIfInBounds_toArray, List.set_cons_zero, List.set_cons_succ]
  refine wpAnyH_ready (rs := [3]) (by kernel_rfl) (by simp) ?_
  refine AllReadyH.cons rfl (fun K hK => ?_) AllReadyH.nil
  go_simp
  refine (where_any base n _ (by omega) (by omega)).mono ?_
  rintro e w1 ⟨rfl, rfl⟩
  obtain ⟨at_, hat⟩ : ∃ at_, at_ = base + 4 * n := ⟨_, rfl⟩
  rw [← hat] at WR ⊢
  clear hat
  refine hK.out _ _ (hS) (fun hT => ?_)
  clear hK  hS
  have hS := hT
  clear hT
  refine wpAnyH_ready (rs := [6]) (by kernel_rfl) (by simp) ?_
  refine AllReadyH.cons rfl (fun K hK => ?_) AllReadyH.nil
  go_simp
  refine (put_any p lsn _).mono ?_
  rintro e w2 ⟨A2, c2, rfl, ho, hb⟩
  have hpl : (puts p lsn).length = 4 := rfl
  rw [hpl] at ho ⊢
  have HO := Lib.hid ho
  have HB := Lib.hid hb
  clear ho hb hpl
  refine hK.out _ _ (hS.below HB.out) (fun hT => ?_)
  clear hK  hS
  have hS := hT
  clear hT
  refine wpAnyH_ready (rs := [7]) (by kernel_rfl) (by simp) ?_
  refine AllReadyH.cons rfl (fun K hK => ?_) AllReadyH.nil
  go_simp
  refine (WR.out _ A2 c2 (PD.out.below HB.out) (Lz.of_own HO.out (fun k hk => OW.out k hk)) (fun k hk => Nat.lt_of_lt_of_le (HX1.out k hk) HB.out.size)).mono ?_
  rintro e w3 ⟨rfl, hp3, hm3⟩
  have P3 := Lib.hid hp3
  have M3 := Lib.hid hm3
  clear hp3 hm3
  refine hK.out _ _ ((hS).kept M3.out NG.out) (fun hT => ?_)
  clear hK  hS
  have hS := hT
  clear hT
  refine takeH (i := 8) (d := 10) (v := ?vw8) rfl (by kernel_rfl) (by kernel_rfl) (by kernel_rfl) (fun _ _ _ h => h) rfl (by rfl) ?yw8 hS ?rw8
  case yw8 => (intro wz hz; go_simp <;> with_reducible rfl)
  simp only [List.setIfInBounds_toArray, List.set_cons_zero, List.set_cons_succ]
  refine wpAnyH_done (by kernel_rfl) ?_ _
  go_wp2_with fail
  go_ret
  exact ⟨rfl, P3.out, (MD.out.trans (Mod.of_below HB.out _)).trans M3.out⟩
set_option maxRecDepth 8000 in
set_option maxHeartbeats 400000 in
theorem lwrite_no (base n lsn : Int) (p : Pg) (h : Plat X w g gs S nw fu kp dn) (hn : S.length ≤ 100000) (hb1 : -9223372036854775808 ≤ base) (hb2 : base ≤ 9223372036854775807) (hf : ¬ (0 ≤ base ∧ 0 ≤ n ∧ base + 4 * n + 4 ≤ S.length)) :
    Calls Try.prog 13 #[.pointer (some ⟨g, 0, none⟩), .int .i64 base, .int .i64 n, .agg (pgA p), .int .u64 lsn] w fun e w' => e = .returned (.int .i64 2) ∧ Below w.heap.size w w' := by
  have B1 : Below w.heap.size w (w.alloc (.cells (pgA p) 22)) := (Below.refl _ _).alloc (Nat.le_refl _) _
  have EX := Lib.hid (exists_no X g gs S nw fu kp dn (w.alloc (.cells (pgA p) 22)) base n (h.below B1) hn hb1 hb2 hf)
  have HB1 := Lib.hid B1
  clear h B1 hf
  go_enter Try.func13, Try.ntmps13
  go_wp2_with (go_at_call 25; refine EX.out.mono ?_; rintro e w1 ⟨rfl, rfl⟩)
  go_ret
  exact ⟨rfl, HB1.out⟩
set_option maxRecDepth 8000 in
set_option maxHeartbeats 400000 in
theorem lwrite_nil (base n lsn : Int) (p : Pg) :
    Calls Try.prog 13 #[.pointer none, .int .i64 base, .int .i64 n, .agg (pgA p), .int .u64 lsn] w fun e w' => e = .returned (.int .i64 2) ∧ Below w.heap.size w w' := by
  have HB1 := Lib.hid (show Below w.heap.size w (w.alloc (.cells (pgA p) 22)) from (Below.refl _ _).alloc (Nat.le_refl _) _)
  go_enter Try.func13, Try.ntmps13
  go_wp2_with (go_at_call 25; refine (exists_nil _ _ _).mono ?_; rintro e w1 ⟨rfl, rfl⟩)
  go_ret
  exact ⟨rfl, HB1.out⟩
theorem lwrite_ok (base n lsn : Nat) (p : Pg) (h : Plat X w g gs S nw fu kp false) (hn : S.length ≤ 100000) (hf : base + 4 * n + 4 ≤ S.length) (hX : ∀ k, X k → k < w.heap.size)
    (hf0 : fu ≠ 0) (hf1 : -9223372036854775808 ≤ fu) (hf2 : fu ≤ 9223372036854775807) (hw0 : 0 ≤ nw) (hw1 : nw ≤ 1000000) :
    Calls Try.prog 13 #[.pointer (some ⟨g, 0, none⟩), .int .i64 base, .int .i64 n, .agg (pgA p), .int .u64 lsn] w (Wrote X w g gs (upd S (base + 4 * n) (puts p lsn) (fun _ => true)) (nw + 1) (if 0 < fu then fu - 1 else fu) kp false 0) :=
  lwrite_yes X g gs S nw fu kp false w base n lsn p h hn hf hX _ _ _ _ _ _ fun wq A c hp hL _ => write_ok X g gs S nw fu kp wq (base + 4 * n) 4 c _ A hp hn rfl (by omega) (by omega) hL hf0 hf1 hf2 hw0 hw1
theorem lwrite_torn (base n lsn : Nat) (p : Pg) (h : Plat X w g gs S nw 0 kp false) (hn : S.length ≤ 100000) (hf : base + 4 * n + 4 ≤ S.length) (hX : ∀ k, X k → k < w.heap.size) (hkp : kp.length ≤ 100000) :
    Calls Try.prog 13 #[.pointer (some ⟨g, 0, none⟩), .int .i64 base, .int .i64 n, .agg (pgA p), .int .u64 lsn] w (Wrote X w g gs (upd S (base + 4 * n) (puts p lsn) (fun j => kp.getD j false)) nw (-1) [] true 4) :=
  lwrite_yes X g gs S nw 0 kp false w base n lsn p h hn hf hX _ _ _ _ _ _ fun wq A c hp hL hx => write_torn X g gs S nw kp wq (base + 4 * n) 4 c _ A hp hn rfl (by omega) (by omega) hL hkp hx
end
end Go.Proofs.Ytlanaplnhjdgcaa
