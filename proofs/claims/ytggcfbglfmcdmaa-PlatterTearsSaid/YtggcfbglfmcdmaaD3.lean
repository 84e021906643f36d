/-
  The walks of do where sectors are read, where the power goes and comes, and where nothing is done.
  Conditions: disks of at most 100000 sectors.
-/
import Derived.Test.YtggcfbglfmcdmaaD2
namespace Go.Proofs.Ytggcfbglfmcdmaa
open Go.RowKit

theorem S4.lt4 {w z : World} {R O : Array Value} (h : S4 w R O z) : w.heap.size < z.heap.size := (Array.getElem?_eq_some_iff.1 h.b4).1
theorem below_over {w z z' : World} (hb : Below w.heap.size w z) (hm : Mod (fun k => k = w.heap.size + 2) z z') : Below w.heap.size w z' :=
  hm.below hb (fun k e => by omega) hb.size
section
variable {ops : Array Oper} {rest : List Oper} {op : Oper} {a : Act} {w : World} {Q : Exit → Act → World → Prop}
theorem wpList_load_box (d : Nat) (x : Operand) (hop : op.dst = some d) (hgd : op.guard = none) (ho : op.op = .load 32 x) (b : Nat) (hx : a.eval x = .pointer (some ⟨b, 0, none⟩)) (C : Array Value) (hb : w.heap[b]? = some (.cells C 32 (0, 0))) (hs : C.size = 5)
    (h : wpList Try.prog ops Q rest (a.put (some d) (.agg C)) w) : wpList Try.prog ops Q (op :: rest) a w := by
  refine wpList_load_row hgd 32 x ho b hx 32 C (0, 0) _ hb Try.underlying32 rfl (by rw [hs]; exact info32) ?_
  rw [hop]
  exact h
theorem wpList_store_box (x y : Operand) (hop : op.dst = none) (hgd : op.guard = none) (ho : op.op = .store 32 x y) (b : Nat) (hx : a.eval x = .pointer (some ⟨b, 0, none⟩)) (C : Array Value) (hy : a.eval y = .agg C) (C0 : Array Value)
    (hb : w.heap[b]? = some (.cells C0 32 (0, 0))) (h0 : C0.size = 5) (hs : C.size = 5) (h1 : C.all (·.oneCell') = true)
    (h : ∀ w', w'.heap[b]? = some (.cells C 32 (0, 0)) → Mod (fun k => k = b) w w' → wpList Try.prog ops Q rest (a.put none undef) w') : wpList Try.prog ops Q (op :: rest) a w := by
  obtain ⟨ts, ds⟩ := a
  exact wpList_plain hgd fun K hK => wp_store_box (K := K) x y hop ho b hx C hy C0 hb h0 hs h1 (fun w' h1 h2 => hK _ _ (h w' h1 h2))
end

section
variable (X : Nat → Prop) (g gs : Nat) (w : World) (A : Option Addr) (S Sr : List Int) (c : Nat) (nw nwr fu fu2 : Int) (kp : List Bool) (K : Option Addr) (kl : List Bool) (kc : Nat) (dn dnr : Bool) (p N : Int) (B : Option Addr) (n cB : Nat) (E : Option Addr) (e1 e2 : Nat)
set_option maxHeartbeats 4000000 in
set_option maxRecDepth 100000 in
theorem do_read (code : Int) (L : List Int) (hL : L.length ≤ 100000) (hp : Plat X w g gs S nw fu kp dn) (hr : RefAt X w A c K kc Sr kl)
    (hRR : ∀ z, Below w.heap.size w z → Calls Try.prog 26 #[.agg #[.slice A Sr.length c, .int .i64 nwr, .int .i64 fu2, .slice K kl.length kc, .bool dnr], .int .i64 p, .int .i64 N] z fun e z' => ∃ A2 c2, e = .returned (.tuple #[.slice A2 L.length c2, .int .i64 code]) ∧ Lz (fun _ => False) z' 64 A2 L.length (flat L) ∧ Below z.heap.size z z')
    (hPR : ∀ z, Below w.heap.size w z → Calls Try.prog 20 #[.pointer (some ⟨g, 0, none⟩), .int .i64 p, .int .i64 N] z fun e z' => ∃ A2 c2, e = .returned (.tuple #[.slice A2 L.length c2, .int .i64 code]) ∧ Lz (fun _ => False) z' 64 A2 L.length (flat L) ∧ Below z.heap.size z z') :
    Calls Try.prog 10 #[.pointer (some ⟨g, 0, none⟩), .agg #[.slice A Sr.length c, .int .i64 nwr, .int .i64 fu2, .slice K kl.length kc, .bool dnr], .agg #[.int .i64 2, .int .i64 p, .int .i64 N, .slice B n cB, .slice E e1 e2]] w (Did X w g gs S nw fu kp dn Sr nwr fu2 K kl kc dnr true) := by
  have HP := Lib.hid hp
  have HR := Lib.hid hr
  have HRR := Lib.hid hRR
  have HPR := Lib.hid hPR
  have ST := Lib.hid (S4.start w #[.slice A Sr.length c, .int .i64 nwr, .int .i64 fu2, .slice K kl.length kc, .bool dnr] #[.int .i64 2, .int .i64 p, .int .i64 N, .slice B n cB, .slice E e1 e2])
  clear hp hr hRR hPR
  go_enter Try.func10, Try.ntmps10
  go_wp2_with (first
    | (go_at_call 26; refine (HRR.out _ ST.out.below).mono ?_; rintro e wt ⟨A1, c1, rfl, hl1, hb1⟩; have HS1 := Lib.hid (ST.out.under hb1); have L1 := Lib.hid hl1; have o1 := HS1.out.o1; have o2 := HS1.out.o2; clear hl1 hb1)
    | (go_at_call 20; refine (HPR.out _ HS1.out.below).mono ?_; rintro e wu ⟨A2, c2, rfl, hl2, hb2⟩; have HS2 := Lib.hid (HS1.out.under hb2); have L2 := Lib.hid hl2; have L1' := Lib.hid (L1.out.below hb2); clear L1 o1 o2; have L1 := L1'; clear L1' hl2 hb2))
  refine wp_region_held_drew (S := fun z => z.heap[w.heap.size]? = some (.cells #[.slice A Sr.length c, .int .i64 nwr, .int .i64 fu2, .slice K kl.length kc, .bool dnr] 32 (0, 0))) (by kernel_rfl) HS2.out.b4 (fun hS => ?_)
  refine takeH (i := 0) (d := 59) (v := .agg #[.slice A Sr.length c, .int .i64 nwr, .int .i64 fu2, .slice K kl.length kc, .bool dnr]) rfl (by kernel_rfl) (by kernel_rfl) (by kernel_rfl) (fun _ _ _ h => h) rfl (by rfl) ?yra0 hS ?rra0
  case yra0 => (intro wz hz; exact exec_box (.tmp 4) rfl _ rfl _ hz rfl)
  simp only [List.setIfInBounds_toArray, List.set_cons_zero, List.set_cons_succ]
  refine takeH (i := 1) (d := 60) (v := ?vra1) rfl (by kernel_rfl) (by kernel_rfl) (by kernel_rfl) (fun _ _ _ h => h) rfl (by rfl) ?yra1 hS ?rra1
  case yra1 => (intro wz hz; go_simp <;> with_reducible rfl)
  simp only [List.setIfInBounds_toArray, List.set_cons_zero, List.set_cons_succ]
  refine takeH (i := 2) (d := 61) (v := ?vra2) rfl (by kernel_rfl) (by kernel_rfl) (by kernel_rfl) (fun _ _ _ h => h) rfl (by rfl) ?yra2 hS ?rra2
  case yra2 => (intro wz hz; go_simp <;> with_reducible rfl)
  simp only [List.setIfInBounds_toArray, List.set_cons_zero, List.set_cons_succ]
  refine takeH (i := 3) (d := 62) (v := ?vra3) rfl (by kernel_rfl) (by kernel_rfl) (by kernel_rfl) (fun _ _ _ h => h) rfl (by rfl) ?yra3 hS ?rra3
  case yra3 => (intro wz hz; go_simp <;> with_reducible rfl)
  simp only [List.setIfInBounds_toArray, List.set_cons_zero, List.set_cons_succ]
  refine takeH (i := 4) (d := 63) (v := ?vra4) rfl (by kernel_rfl) (by kernel_rfl) (by kernel_rfl) (fun _ _ _ h => h) rfl (by rfl) ?yra4 hS ?rra4
  case yra4 => (intro wz hz; go_simp <;> with_reducible rfl)
  simp only [List.setIfInBounds_toArray, List.set_cons_zero, List.set_cons_succ]
  refine takeH (i := 5) (d := 64) (v := ?vra5) rfl (by kernel_rfl) (by kernel_rfl) (by kernel_rfl) (fun _ _ _ h => h) rfl (by rfl) ?yra5 hS ?rra5
  case yra5 => (intro wz hz; go_simp <;> with_reducible rfl)
  simp only [List.setIfInBounds_toArray, List.set_cons_zero, List.set_cons_succ]
  refine takeH (i := 6) (d := 65) (v := ?vra6) rfl (by kernel_rfl) (by kernel_rfl) (by kernel_rfl) (fun _ _ _ h => h) rfl (by rfl) ?yra6 hS ?rra6
  case yra6 => (intro wz hz; go_simp <;> with_reducible rfl)
  simp only [List.setIfInBounds_toArray, List.set_cons_zero, List.set_cons_succ]
  refine wpAnyH_ready (rs := [7]) (by kernel_rfl) (by simp) ?_
  refine AllReadyH.cons rfl (fun K0 hK => ?_) AllReadyH.nil
  go_simp
  refine (same_is (fun _ => False) (fun _ => False) _ _ _ _ _ _ L _ (L1.out.kept (Mod.refl _ _).drew) (L2.out.kept (Mod.refl _ _).drew) hL hL).mono ?_
  rintro e w7 ⟨rfl, m, rfl⟩
  refine hK.out _ _ (hS) (fun hT => ?_)
  clear hK hS
  have hS := hT
  clear hT
  refine takeH (i := 8) (d := 67) (v := ?vrb8) rfl (by kernel_rfl) (by kernel_rfl) (by kernel_rfl) (fun _ _ _ h => h) rfl (by rfl) ?yrb8 hS ?rrb8
  case yrb8 => (intro wz hz; go_simp <;> with_reducible rfl)
  simp only [List.setIfInBounds_toArray, List.set_cons_zero, List.set_cons_succ]
  refine wpAnyH_ready (rs := [9]) (by kernel_rfl) (by simp) ?_
  refine AllReadyH.cons rfl (fun K0 hK => ?_) AllReadyH.nil
  rw [if_pos (by rfl)]
  refine wp_store_box (.tmp 6) (.tmp 59) rfl rfl (w.heap.size + 2) rfl #[.slice A Sr.length c, .int .i64 nwr, .int .i64 fu2, .slice K kl.length kc, .bool dnr] rfl _ HS2.out.b6 rfl rfl (ref_one _ _ _ _ _ _ _ _ _) ?_
  intro w8 h6 hm8
  have H6 := Lib.hid h6
  have HM8 := Lib.hid hm8
  clear h6 hm8
  refine hK.out _ _ ((HM8.out.block _ HS2.out.lt4 (by omega)).trans HS2.out.b4) (fun hT => ?_)
  clear hK hS
  have hS := hT
  clear hT
  refine takeH (i := 10) (d := 7) (v := ?vrc10) rfl (by kernel_rfl) (by kernel_rfl) (by kernel_rfl) (fun _ _ _ h => h) rfl (by rfl) ?yrc10 hS ?rrc10
  case yrc10 => (intro wz hz; go_simp <;> with_reducible rfl)
  simp only [List.setIfInBounds_toArray, List.set_cons_zero, List.set_cons_succ]
  refine wpAnyH_done (by kernel_rfl) ?_ _
  clear hS
  go_wp2_with fail
  refine bodyPost_ret (v := .tuple #[.agg #[.slice A Sr.length c, .int .i64 nwr, .int .i64 fu2, .slice K kl.length kc, .bool dnr], .bool true]) (results_box Try.results10 _ _ _ _ _ rfl H6.out rfl rfl) rfl ?_
  have hb8 : Below w.heap.size w w8 := below_over (below_drewN HS2.out.below.drew m) HM8.out
  exact ⟨A, c, rfl, HP.out.below hb8, HR.out.below hb8, Mod.of_below hb8 _⟩

set_option maxHeartbeats 4000000 in
set_option maxRecDepth 100000 in
theorem do_none (kd : Int) (hk : ¬ (kd = 0 ∨ kd = 1 ∨ kd = 2 ∨ kd = 3 ∨ kd = 4)) (hp : Plat X w g gs S nw fu kp dn) (hr : RefAt X w A c K kc Sr kl) :
    Calls Try.prog 10 #[.pointer (some ⟨g, 0, none⟩), .agg #[.slice A Sr.length c, .int .i64 nwr, .int .i64 fu2, .slice K kl.length kc, .bool dnr], .agg #[.int .i64 kd, .int .i64 p, .int .i64 N, .slice B n cB, .slice E e1 e2]] w (Did X w g gs S nw fu kp dn Sr nwr fu2 K kl kc dnr true) := by
  have HP := Lib.hid hp
  have HR := Lib.hid hr
  have k0 : (kd == 0) = false := by rw [beq_eq_false_iff_ne]; omega
  have k1 : (kd == 1) = false := by rw [beq_eq_false_iff_ne]; omega
  have k2 : (kd == 2) = false := by rw [beq_eq_false_iff_ne]; omega
  have k3 : (kd == 3) = false := by rw [beq_eq_false_iff_ne]; omega
  have k4 : (kd == 4) = false := by rw [beq_eq_false_iff_ne]; omega
  have ST := Lib.hid (S4.start w #[.slice A Sr.length c, .int .i64 nwr, .int .i64 fu2, .slice K kl.length kc, .bool dnr] #[.int .i64 kd, .int .i64 p, .int .i64 N, .slice B n cB, .slice E e1 e2])
  clear hp hr hk
  go_enter Try.func10, Try.ntmps10
  go_wp2_with (first
    | refine wpList_load_box 88 (.tmp 4) rfl rfl rfl _ rfl #[.slice A Sr.length c, .int .i64 nwr, .int .i64 fu2, .slice K kl.length kc, .bool dnr] ST.out.b4 rfl ?_
    | (refine wpList_store_box (.tmp 6) (.tmp 88) rfl rfl rfl (w.heap.size + 2) rfl #[.slice A Sr.length c, .int .i64 nwr, .int .i64 fu2, .slice K kl.length kc, .bool dnr] rfl _ ST.out.b6 rfl rfl (ref_one _ _ _ _ _ _ _ _ _) ?_; intro w8 h6 hm8; have H6 := Lib.hid h6; have HM8 := Lib.hid hm8; clear h6 hm8))
  refine bodyPost_ret (v := .tuple #[.agg #[.slice A Sr.length c, .int .i64 nwr, .int .i64 fu2, .slice K kl.length kc, .bool dnr], .bool true]) (results_box Try.results10 _ _ _ _ _ rfl H6.out rfl rfl) rfl ?_
  have hb8 : Below w.heap.size w w8 := below_over ST.out.below HM8.out
  exact ⟨A, c, rfl, HP.out.below hb8, HR.out.below hb8, Mod.of_below hb8 _⟩

theorem turn_fin {X : Nat → Prop} {w w3 w5 w6 w8 : World} {g gs : Nat} {S : List Int} {nw fu : Int} {kp : List Bool} {dn dnr : Bool} {Sr : List Int} {nwr fu2 : Int} {A K : Option Addr} {kl : List Bool} {c kc : Nat}
    (h3 : Below w.heap.size w w3) (h5 : Mod (own g gs) w3 w5) (h6 : Below w5.heap.size w5 w6) (h8 : Mod (fun k => k = w.heap.size + 2) w6 w8) (hp : Plat (fun b => X b ∨ b = w.heap.size + 2) w5 g gs S nw fu kp dn)
    (hr : RefAt X w A c K kc Sr kl) (hG : ∀ k, own g gs k → k < w.heap.size) (hX : ∀ k, own g gs k → X k) :
    Did X w g gs S nw fu kp dn Sr nwr fu2 K kl kc dnr true (.returned (.tuple #[.agg #[.slice A Sr.length c, .int .i64 nwr, .int .i64 fu2, .slice K kl.length kc, .bool dnr], .bool true])) w8 := by
  have g1 := hG g (.inl rfl)
  have g2 := hG gs (.inr rfl)
  have hm : Mod (own g gs) w w8 := by
    refine ⟨(h8.os.trans h6.os).trans (h5.os.trans h3.os), (h8.tape.trans h6.tape).trans (h5.tape.trans h3.tape), (h8.output.trans h6.output).trans (h5.output.trans h3.output), Nat.le_trans (Nat.le_trans h3.size h5.size) (Nat.le_trans h6.size h8.size), fun k hk hx => ?_⟩
    have s3 := h3.size
    have s5 := h5.size
    have s6 := h6.size
    rw [h8.block k (by omega) (by omega), h6.block k (by omega), h5.block k (by omega) hx, h3.block k hk]
  exact ⟨A, c, rfl, ((hp.below h6).kept h8 (by omega) (by omega) (fun k _ e => .inr e)).mono (fun k _ h => .inl h), hr.kept (hm.mono (fun k _ h => hX k h)), hm⟩

theorem S4.mod {w z z' : World} {R O : Array Value} (h : S4 w R O z) {Y : Nat → Prop} (hm : Mod Y z z') (hY : ∀ k, Y k → k < w.heap.size) :
    z'.heap[w.heap.size]? = some (.cells R 32 (0, 0)) ∧ z'.heap[w.heap.size + 1]? = some (.cells O 40 (0, 0)) ∧ z'.heap[w.heap.size + 2]? = some (.cells #[.slice none 0 0, .int .i64 0, .int .i64 0, .slice none 0 0, .bool false] 32 (0, 0)) := by
  have := h.size
  exact ⟨by rw [hm.block _ (by omega) (fun hx => by have := hY _ hx; omega)]; exact h.b4, by rw [hm.block _ (by omega) (fun hx => by have := hY _ hx; omega)]; exact h.b5, by rw [hm.block _ (by omega) (fun hx => by have := hY _ hx; omega)]; exact h.b6⟩

set_option maxHeartbeats 4000000 in
set_option maxRecDepth 100000 in
theorem do_fuse (el : List Bool) (hp : Plat X w g gs S nw fu kp dn) (hr : RefAt X w A c K kc Sr kl) (hE : Lz X w 1 E el.length (BL el)) (he : el.length ≤ e2) (hem : e2 ≤ maxLen) (hs : S.length ≤ 100000) (hG : ∀ k, own g gs k → k < w.heap.size) (hX : ∀ k, own g gs k → X k) (hXl : ∀ k, X k → k < w.heap.size) :
    Calls Try.prog 10 #[.pointer (some ⟨g, 0, none⟩), .agg #[.slice A Sr.length c, .int .i64 nwr, .int .i64 fu2, .slice K kl.length kc, .bool dnr], .agg #[.int .i64 3, .int .i64 p, .int .i64 N, .slice B n cB, .slice E el.length e2]] w (Did X w g gs S nw N (el.take S.length) dn Sr nwr (if N < 0 then -1 else N) E el e2 dnr true) := by
  obtain ⟨f2, hf2⟩ : ∃ f2, f2 = if N < 0 then -1 else N := ⟨_, rfl⟩
  rw [← hf2]
  have RF : Hid (∀ W, Calls Try.prog 27 #[.agg #[.slice A Sr.length c, .int .i64 nwr, .int .i64 fu2, .slice K kl.length kc, .bool dnr], .int .i64 N, .slice E el.length e2] W fun e w' => e = .returned (.agg #[.slice A Sr.length c, .int .i64 nwr, .int .i64 f2, .slice E el.length e2, .bool dnr]) ∧ Below W.heap.size W w') := fun W => by
    have := refFuse_any A Sr.length c nwr fu2 K kl.length kc dnr W N E el.length e2
    rw [← hf2] at this
    exact this
  clear hf2
  have HR : Hid (RefAt X w A c E e2 Sr el) := ⟨hr.sect, hE, hr.c1, hr.c2, he, hem⟩
  have ST := Lib.hid (S4.start w #[.slice A Sr.length c, .int .i64 nwr, .int .i64 fu2, .slice K kl.length kc, .bool dnr] #[.int .i64 3, .int .i64 p, .int .i64 N, .slice B n cB, .slice E el.length e2])
  have hsz := ST.out.size
  have FU := Lib.hid (fuse_any (fun b => X b ∨ b = w.heap.size + 2) g gs S nw fu kp dn _ N E el.length e2 el ((hp.mono (Y := fun b => X b ∨ b = w.heap.size + 2) (fun k hk h => h.elim id (fun e => by omega))).below ST.out.below) ((hE.mono (fun k _ h => hX k h)).below ST.out.below) he hem hs (fun k hk => by rcases hk with hk | rfl; exact Nat.lt_of_lt_of_le (hXl k hk) ST.out.below.size; omega))
  have HG := Lib.hid hG
  have HX := Lib.hid hX
  clear hp hr hE hG hX hXl hsz
  go_enter Try.func10, Try.ntmps10
  go_wp2_with (first
    | (go_at_call 14; refine FU.out.mono ?_; rintro e w5 ⟨rfl, hp5, hm5⟩; have HP5 := Lib.hid hp5; have HM5 := Lib.hid hm5; obtain ⟨x4, x5, x6⟩ := ST.out.mod hm5 HG.out; have B4 := Lib.hid x4; have B6 := Lib.hid x6; have o2 := cell_of_row w5 _ 2 _ _ _ x5; have o4 := cell_of_row w5 _ 4 _ _ _ x5; simp at o2 o4; clear x4 x5 x6 hp5 hm5)
    | refine wpList_load_box 76 (.tmp 4) rfl rfl rfl _ rfl #[.slice A Sr.length c, .int .i64 nwr, .int .i64 fu2, .slice K kl.length kc, .bool dnr] B4.out rfl ?_
    | (go_at_call 27; refine (RF.out _).mono ?_; rintro e w6 ⟨rfl, hb6⟩; have HB6 := Lib.hid hb6; clear hb6)
    | (refine wpList_store_box (.tmp 6) (.tmp 81) rfl rfl rfl (w.heap.size + 2) rfl #[.slice A Sr.length c, .int .i64 nwr, .int .i64 f2, .slice E el.length e2, .bool dnr] rfl _ (row_one B6.out HB6.out (Array.getElem?_eq_some_iff.1 B6.out).1) rfl rfl (ref_one _ _ _ _ _ _ _ _ _) ?_; intro w8 h6 hm8; have H6 := Lib.hid h6; have HM8 := Lib.hid hm8; clear h6 hm8))
  refine bodyPost_ret (v := .tuple #[.agg #[.slice A Sr.length c, .int .i64 nwr, .int .i64 f2, .slice E el.length e2, .bool dnr], .bool true]) (results_box Try.results10 _ _ _ _ _ rfl H6.out rfl rfl) rfl ?_
  exact turn_fin ST.out.below HM5.out HB6.out HM8.out HP5.out HR.out HG.out HX.out

set_option maxHeartbeats 4000000 in
set_option maxRecDepth 100000 in
theorem do_up (hp : Plat X w g gs S nw fu kp dn) (hr : RefAt X w A c K kc Sr kl) (hs : S.length ≤ 100000) (hG : ∀ k, own g gs k → k < w.heap.size) (hX : ∀ k, own g gs k → X k) (hXl : ∀ k, X k → k < w.heap.size) :
    Calls Try.prog 10 #[.pointer (some ⟨g, 0, none⟩), .agg #[.slice A Sr.length c, .int .i64 nwr, .int .i64 fu2, .slice K kl.length kc, .bool dnr], .agg #[.int .i64 4, .int .i64 p, .int .i64 N, .slice B n cB, .slice E e1 e2]] w (Did X w g gs S nw (-1) [] false Sr nwr (-1) none [] 0 false true) := by
  have HR : Hid (RefAt X w A c none 0 Sr []) := ⟨hr.sect, Lz.empty, hr.c1, hr.c2, Nat.le_refl _, by simp [maxLen]⟩
  have ST := Lib.hid (S4.start w #[.slice A Sr.length c, .int .i64 nwr, .int .i64 fu2, .slice K kl.length kc, .bool dnr] #[.int .i64 4, .int .i64 p, .int .i64 N, .slice B n cB, .slice E e1 e2])
  have hsz := ST.out.size
  have FU := Lib.hid (up_any (fun b => X b ∨ b = w.heap.size + 2) g gs S nw fu kp dn _ ((hp.mono (Y := fun b => X b ∨ b = w.heap.size + 2) (fun k hk h => h.elim id (fun e => by omega))).below ST.out.below) hs (fun k hk => by rcases hk with hk | rfl; exact Nat.lt_of_lt_of_le (hXl k hk) ST.out.below.size; omega))
  have HG := Lib.hid hG
  have HX := Lib.hid hX
  clear hp hr hG hX hXl hsz
  go_enter Try.func10, Try.ntmps10
  go_wp2_with (first
    | (go_at_call 12; refine FU.out.mono ?_; rintro e w5 ⟨rfl, hp5, hm5⟩; have HP5 := Lib.hid hp5; have HM5 := Lib.hid hm5; obtain ⟨x4, x5, x6⟩ := ST.out.mod hm5 HG.out; have B4 := Lib.hid x4; have B6 := Lib.hid x6; clear x4 x5 x6 hp5 hm5)
    | refine wpList_load_box 86 (.tmp 4) rfl rfl rfl _ rfl #[.slice A Sr.length c, .int .i64 nwr, .int .i64 fu2, .slice K kl.length kc, .bool dnr] B4.out rfl ?_
    | (go_at_call 28; refine (refUp_any _ _ _ _ _ _ _ _ _ _).mono ?_; rintro e w6 ⟨rfl, hb6⟩; have HB6 := Lib.hid hb6; clear hb6)
    | (refine wpList_store_box (.tmp 6) (.tmp 87) rfl rfl rfl (w.heap.size + 2) rfl #[.slice A Sr.length c, .int .i64 nwr, .int .i64 (-1), .slice none 0 0, .bool false] rfl _ (row_one B6.out HB6.out (Array.getElem?_eq_some_iff.1 B6.out).1) rfl rfl (ref_one _ _ _ _ _ _ _ _ _) ?_; intro w8 h6 hm8; have H6 := Lib.hid h6; have HM8 := Lib.hid hm8; clear h6 hm8))
  refine bodyPost_ret (v := .tuple #[.agg #[.slice A Sr.length c, .int .i64 nwr, .int .i64 (-1), .slice none 0 0, .bool false], .bool true]) (results_box Try.results10 _ _ _ _ _ rfl H6.out rfl rfl) rfl ?_
  exact turn_fin ST.out.below HM5.out HB6.out HM8.out HP5.out HR.out HG.out HX.out
end
end Go.Proofs.Ytggcfbglfmcdmaa
