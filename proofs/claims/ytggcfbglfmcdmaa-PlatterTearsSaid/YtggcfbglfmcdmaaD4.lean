/-
  The walk of do where two reads answer unlike codes; the contracts of the writes and reads as do takes them.
  Conditions: disks of at most 100000 sectors.
-/
import Derived.Test.YtggcfbglfmcdmaaD3
namespace Go.Proofs.Ytggcfbglfmcdmaa
open Go.RowKit

section
variable (X : Nat → Prop) (g gs : Nat) (w : World) (A : Option Addr) (S Sr : List Int) (c : Nat) (nw nwr fu fu2 : Int) (kp : List Bool) (K : Option Addr) (kl : List Bool) (kc : Nat) (dn dnr : Bool) (p N : Int) (B : Option Addr) (n cB : Nat) (E : Option Addr) (e1 e2 : Nat)
set_option maxHeartbeats 4000000 in
set_option maxRecDepth 100000 in
theorem do_readne (codeR codeP : Int) (hcd : (codeP == codeR) = false) (Lr Lp : List Int) (hp : Plat X w g gs S nw fu kp dn) (hr : RefAt X w A c K kc Sr kl)
    (hRR : ∀ z, Below w.heap.size w z → Calls Try.prog 26 #[.agg #[.slice A Sr.length c, .int .i64 nwr, .int .i64 fu2, .slice K kl.length kc, .bool dnr], .int .i64 p, .int .i64 N] z fun e z' => ∃ A2 c2, e = .returned (.tuple #[.slice A2 Lr.length c2, .int .i64 codeR]) ∧ Lz (fun _ => False) z' 64 A2 Lr.length (flat Lr) ∧ Below z.heap.size z z')
    (hPR : ∀ z, Below w.heap.size w z → Calls Try.prog 20 #[.pointer (some ⟨g, 0, none⟩), .int .i64 p, .int .i64 N] z fun e z' => ∃ A2 c2, e = .returned (.tuple #[.slice A2 Lp.length c2, .int .i64 codeP]) ∧ Lz (fun _ => False) z' 64 A2 Lp.length (flat Lp) ∧ Below z.heap.size z z') :
    Calls Try.prog 10 #[.pointer (some ⟨g, 0, none⟩), .agg #[.slice A Sr.length c, .int .i64 nwr, .int .i64 fu2, .slice K kl.length kc, .bool dnr], .agg #[.int .i64 2, .int .i64 p, .int .i64 N, .slice B n cB, .slice E e1 e2]] w (Did X w g gs S nw fu kp dn Sr nwr fu2 K kl kc dnr false) := by
  have HP := Lib.hid hp
  have HR := Lib.hid hr
  have HRR := Lib.hid hRR
  have HPR := Lib.hid hPR
  have HC := Lib.hid hcd
  have ST := Lib.hid (S4.start w #[.slice A Sr.length c, .int .i64 nwr, .int .i64 fu2, .slice K kl.length kc, .bool dnr] #[.int .i64 2, .int .i64 p, .int .i64 N, .slice B n cB, .slice E e1 e2])
  clear hp hr hRR hPR hcd
  go_enter Try.func10, Try.ntmps10
  go_wp2_with (first
    | (go_at_call 26; refine (HRR.out _ ST.out.below).mono ?_; rintro e wt ⟨A1, c1, rfl, hl1, hb1⟩; have HS1 := Lib.hid (ST.out.under hb1); have o1 := HS1.out.o1; have o2 := HS1.out.o2; clear hl1 hb1)
    | (go_at_call 20; refine (HPR.out _ HS1.out.below).mono ?_; rintro e wu ⟨A2, c2, rfl, hl2, hb2⟩; have HS2 := Lib.hid (HS1.out.under hb2); clear o1 o2; clear hl2 hb2))
  have hcd := HC.out
  refine wp_region_held_drew (S := fun z => z.heap[w.heap.size]? = some (.cells #[.slice A Sr.length c, .int .i64 nwr, .int .i64 fu2, .slice K kl.length kc, .bool dnr] 32 (0, 0))) (by kernel_rfl) HS2.out.b4 (fun hS => ?_)
  refine takeH (i := 0) (d := 59) (v := .agg #[.slice A Sr.length c, .int .i64 nwr, .int .i64 fu2, .slice K kl.length kc, .bool dnr]) rfl (by kernel_rfl) (by kernel_rfl) (by kernel_rfl) (fun _ _ _ h => h) rfl (by rfl) ?yna0 hS ?rna0
  case yna0 => (intro wz hz; exact exec_box (.tmp 4) rfl _ rfl _ hz rfl)
  simp only [List.setIfInBounds_toArray, List.set_cons_zero, List.set_cons_succ]
  refine takeH (i := 1) (d := 60) (v := ?vna1) rfl (by kernel_rfl) (by kernel_rfl) (by kernel_rfl) (fun _ _ _ h => h) rfl (by rfl) ?yna1 hS ?rna1
  case yna1 => (intro wz hz; go_simp <;> with_reducible rfl)
  simp only [List.setIfInBounds_toArray, List.set_cons_zero, List.set_cons_succ]
  refine takeH (i := 2) (d := 61) (v := ?vna2) rfl (by kernel_rfl) (by kernel_rfl) (by kernel_rfl) (fun _ _ _ h => h) rfl (by rfl) ?yna2 hS ?rna2
  case yna2 => (intro wz hz; go_simp <;> with_reducible rfl)
  simp only [List.setIfInBounds_toArray, List.set_cons_zero, List.set_cons_succ]
  refine takeH (i := 3) (d := 62) (v := .bool false) rfl (by kernel_rfl) (by kernel_rfl) (by kernel_rfl) (fun _ _ _ h => h) rfl (by rfl) ?yna3 hS ?rna3
  case yna3 => (intro wz hz; go_simp)
  simp only [List.setIfInBounds_toArray, List.set_cons_zero, List.set_cons_succ]
  refine takeH (i := 4) (d := 63) (v := ?vna4) rfl (by kernel_rfl) (by kernel_rfl) (by kernel_rfl) (fun _ _ _ h => h) rfl (by rfl) ?yna4 hS ?rna4
  case yna4 => (intro wz hz; go_simp <;> with_reducible rfl)
  simp only [List.setIfInBounds_toArray, List.set_cons_zero, List.set_cons_succ]
  refine skipH (i := 5) (d := 64) rfl (by kernel_rfl) (by kernel_rfl) (by kernel_rfl) (fun _ _ _ h => h) rfl (by rfl) hS ?_
  simp only [List.setIfInBounds_toArray, List.set_cons_zero, List.set_cons_succ]
  refine skipH (i := 6) (d := 65) rfl (by kernel_rfl) (by kernel_rfl) (by kernel_rfl) (fun _ _ _ h => h) rfl (by rfl) hS ?_
  simp only [List.setIfInBounds_toArray, List.set_cons_zero, List.set_cons_succ]
  refine skipH (i := 7) (d := 66) rfl (by kernel_rfl) (by kernel_rfl) (by kernel_rfl) (fun _ _ _ h => h) rfl (by rfl) hS ?_
  simp only [List.setIfInBounds_toArray, List.set_cons_zero, List.set_cons_succ]
  refine takeH (i := 8) (d := 67) (v := ?vna8) rfl (by kernel_rfl) (by kernel_rfl) (by kernel_rfl) (fun _ _ _ h => h) rfl (by rfl) ?yna8 hS ?rna8
  case yna8 => (intro wz hz; go_simp <;> with_reducible rfl)
  simp only [List.setIfInBounds_toArray, List.set_cons_zero, List.set_cons_succ]
  refine wpAnyH_ready (rs := [9]) (by kernel_rfl) (by simp) ?_
  refine AllReadyH.cons rfl (fun K0 hK => ?_) AllReadyH.nil
  rw [if_pos (by rfl)]
  refine wp_store_box (.tmp 6) (.tmp 59) rfl rfl (w.heap.size + 2) rfl #[.slice A Sr.length c, .int .i64 nwr, .int .i64 fu2, .slice K kl.length kc, .bool dnr] rfl _ HS2.out.b6 rfl rfl (ref_one _ _ _ _ _ _ _ _ _) ?_
  intro w8 h6 hm8
  have H6 := Lib.hid h6
  have HM8 := Lib.hid hm8
  clear h6 hm8
  refine hK.out _ _ ((HM8.out.block _ HS2.out.lt4 (by omega)).trans HS2.out.b4) (fun hT => ?_)
  clear hK hS
  have hS := hT
  clear hT
  refine takeH (i := 10) (d := 7) (v := ?vnc10) rfl (by kernel_rfl) (by kernel_rfl) (by kernel_rfl) (fun _ _ _ h => h) rfl (by rfl) ?ync10 hS ?rnc10
  case ync10 => (intro wz hz; go_simp <;> with_reducible rfl)
  simp only [List.setIfInBounds_toArray, List.set_cons_zero, List.set_cons_succ]
  refine wpAnyH_done (by kernel_rfl) ?_ _
  clear hS
  go_wp2_with fail
  refine bodyPost_ret (v := .tuple #[.agg #[.slice A Sr.length c, .int .i64 nwr, .int .i64 fu2, .slice K kl.length kc, .bool dnr], .bool false]) (results_box Try.results10 _ _ _ _ _ rfl H6.out rfl rfl) rfl ?_
  have hb8 : Below w.heap.size w w8 := below_over HS2.out.below.drew HM8.out
  exact ⟨A, c, rfl, HP.out.below hb8, HR.out.below hb8, Mod.of_below hb8 _⟩
end

/-- How the reference writes. -/
def RW (X : Nat → Prop) (w : World) (A : Option Addr) (Sr : List Int) (c : Nat) (nwr fu2 : Int) (K : Option Addr) (kl : List Bool) (kc : Nat) (dnr : Bool) (p : Int) (l : List Int) (codeR : Int) (Sr' : List Int) (nwr' fu2' : Int) (dnr' : Bool) : Prop :=
  ∀ z, Below w.heap.size w z → w.heap.size + 3 ≤ z.heap.size → ∀ Lx cx, Lz (fun _ => False) z 64 Lx l.length (flat l) → Calls Try.prog 25 #[.agg #[.slice A Sr.length c, .int .i64 nwr, .int .i64 fu2, .slice K kl.length kc, .bool dnr], .int .i64 p, .slice Lx l.length cx] z fun e z' =>
      ∃ A2 c2, e = .returned (.tuple #[.agg #[.slice A2 Sr'.length c2, .int .i64 nwr', .int .i64 fu2', .slice K kl.length kc, .bool dnr'], .int .i64 codeR]) ∧ RefAt (fun b => X b ∨ w.heap.size ≤ b ∧ b < z.heap.size) z' A2 c2 K kc Sr' kl ∧ Below z.heap.size z z'
/-- How the disk is written. -/
def PW (X : Nat → Prop) (w : World) (g gs : Nat) (p : Int) (l : List Int) (codeP : Int) (S' : List Int) (nw' fu' : Int) (kp' : List Bool) (dn' : Bool) : Prop :=
  ∀ z, Below w.heap.size w z → w.heap.size + 3 ≤ z.heap.size → ∀ Lx cx, Lz (own g gs) z 64 Lx l.length (flat l) → Calls Try.prog 15 #[.pointer (some ⟨g, 0, none⟩), .int .i64 p, .slice Lx l.length cx] z fun e z' =>
      e = .returned (.int .i64 codeP) ∧ Plat (fun b => X b ∨ b = w.heap.size + 2) z' g gs S' nw' fu' kp' dn' ∧ Mod (own g gs) z z'
/-- How the reference reads. -/
def RR (w : World) (A : Option Addr) (Sr : List Int) (c : Nat) (nwr fu2 : Int) (K : Option Addr) (kl : List Bool) (kc : Nat) (dnr : Bool) (p N : Int) (codeR : Int) (L : List Int) : Prop :=
  ∀ z, Below w.heap.size w z → Calls Try.prog 26 #[.agg #[.slice A Sr.length c, .int .i64 nwr, .int .i64 fu2, .slice K kl.length kc, .bool dnr], .int .i64 p, .int .i64 N] z fun e z' => ∃ A2 c2, e = .returned (.tuple #[.slice A2 L.length c2, .int .i64 codeR]) ∧ Lz (fun _ => False) z' 64 A2 L.length (flat L) ∧ Below z.heap.size z z'
def PR (w : World) (g : Nat) (p N : Int) (codeP : Int) (L : List Int) : Prop :=
  ∀ z, Below w.heap.size w z → Calls Try.prog 20 #[.pointer (some ⟨g, 0, none⟩), .int .i64 p, .int .i64 N] z fun e z' => ∃ A2 c2, e = .returned (.tuple #[.slice A2 L.length c2, .int .i64 codeP]) ∧ Lz (fun _ => False) z' 64 A2 L.length (flat L) ∧ Below z.heap.size z z'

section
variable {X : Nat → Prop} {w : World} {A : Option Addr} {Sr : List Int} {c : Nat} {nwr fu2 : Int} {K : Option Addr} {kl : List Bool} {kc : Nat} {dnr : Bool} {p : Int} {l : List Int}
theorem ref_up (hr : RefAt X w A c K kc Sr kl) {z z' : World} (hb : Below w.heap.size w z) (hb2 : Below z.heap.size z z') : RefAt (fun b => X b ∨ w.heap.size ≤ b ∧ b < z.heap.size) z' A c K kc Sr kl :=
  ((hr.mono (Y := fun b => X b ∨ w.heap.size ≤ b ∧ b < z.heap.size) (fun k hk h => h.elim id (fun h => absurd h.1 (by omega)))).below hb).below hb2
theorem rw_bad (hr : RefAt X w A c K kc Sr kl) (hs : Sr.length ≤ 100000) (hi : ¬ Inside Sr.length p l.length) : RW X w A Sr c nwr fu2 K kl kc dnr p l 2 Sr nwr fu2 dnr := by
  intro z hb _ Lx cx _
  refine (refWrite_bad A Sr.length c nwr fu2 K kl.length kc dnr z p l.length cx Lx hs hi).mono ?_
  rintro e z' ⟨rfl, hb2⟩
  exact ⟨A, c, rfl, ref_up hr hb hb2, hb2⟩
theorem rw_down (hr : RefAt X w A c K kc Sr kl) (hs : Sr.length ≤ 100000) (hi : Inside Sr.length p l.length) : RW X w A Sr c nwr fu2 K kl kc true p l 4 Sr nwr fu2 true := by
  intro z hb _ Lx cx _
  refine (refWrite_down A Sr.length c nwr fu2 K kl.length kc z p l.length cx Lx hs hi).mono ?_
  rintro e z' ⟨rfl, hb2⟩
  exact ⟨A, c, rfl, ref_up hr hb hb2, hb2⟩
theorem rw_new (hr : RefAt X w A c K kc Sr kl) (hXl : ∀ k, X k → k < w.heap.size) {z z' : World} (hb : Below w.heap.size w z) (hb2 : Below z.heap.size z z') {T : List Int} {A2 : Option Addr} {c2 : Nat}
    (ho : z'.ownsRow (z.heap.size + 4) 48 64 (.slice A2 T.length c2) T.length (flat T)) : RefAt (fun b => X b ∨ w.heap.size ≤ b ∧ b < z.heap.size) z' A2 c2 K kc T kl := by
  have h1 := ref_up hr hb hb2
  obtain ⟨A3, c3, e3, hc1, hc2⟩ := own_slice ho
  injection e3 with _ _ e3
  subst e3
  refine ⟨Lz.of_own ho (fun k hk => ?_), h1.keep, hc1, hc2, h1.k1, h1.k2⟩
  rcases hk with hk | hk
  · have := hXl k hk
    have := hb.size
    omega
  · omega
theorem rw_torn (hr : RefAt X w A c K kc Sr kl) (hs : Sr.length ≤ 100000) (hi : Inside Sr.length p l.length) (hXl : ∀ k, X k → k < w.heap.size) (hw0 : 0 ≤ nwr) (hw1 : nwr ≤ 1000000) :
    RW X w A Sr c nwr 0 K kl kc false p l 4 (upd Sr p.toNat l (keptB 0 kl)) nwr 0 true := by
  intro z hb _ Lx cx hL
  obtain ⟨i1, i2, i3, i4⟩ := hi
  obtain ⟨q, rfl⟩ := Int.eq_ofNat_of_zero_le i1
  have hrz := hr.below hb
  have := refWrite_core A c nwr 0 K kc z X (fun _ => False) Sr kl q l.length cx Lx l _ _ _ rfl rfl rfl hrz.sect hrz.keep hL rfl hs (by omega) (by omega) (by omega) (by omega) hw0 hw1
  rw [if_pos rfl] at this
  refine this.mono ?_
  rintro e z' ⟨A2, c2, rfl, ho, hb2⟩
  exact ⟨A2, c2, rfl, rw_new hr hXl hb hb2 ho, hb2⟩
theorem rw_ok (hr : RefAt X w A c K kc Sr kl) (hs : Sr.length ≤ 100000) (hi : Inside Sr.length p l.length) (hXl : ∀ k, X k → k < w.heap.size) (hw0 : 0 ≤ nwr) (hw1 : nwr ≤ 1000000) (hf : fu2 ≠ 0) (hf1 : -9223372036854775808 ≤ fu2) (hf2 : fu2 ≤ 9223372036854775807) :
    RW X w A Sr c nwr fu2 K kl kc false p l 0 (upd Sr p.toNat l (keptB fu2 kl)) (nwr + 1) (if 0 < fu2 then fu2 - 1 else fu2) false := by
  intro z hb _ Lx cx hL
  obtain ⟨i1, i2, i3, i4⟩ := hi
  obtain ⟨q, rfl⟩ := Int.eq_ofNat_of_zero_le i1
  have hrz := hr.below hb
  have := refWrite_core A c nwr fu2 K kc z X (fun _ => False) Sr kl q l.length cx Lx l _ _ _ rfl rfl rfl hrz.sect hrz.keep hL rfl hs (by omega) (by omega) hf1 hf2 hw0 hw1
  rw [if_neg hf] at this
  refine this.mono ?_
  rintro e z' ⟨A2, c2, rfl, ho, hb2⟩
  exact ⟨A2, c2, rfl, rw_new hr hXl hb hb2 ho, hb2⟩
variable {N : Int}
theorem rr_bad (hs : Sr.length ≤ 100000) (hi : ¬ Inside Sr.length p N) : RR w A Sr c nwr fu2 K kl kc dnr p N 2 [] := by
  intro z hb
  refine (refRead_bad A Sr.length c nwr fu2 K kl.length kc dnr z p N hs hi).mono ?_
  rintro e z' ⟨rfl, hb2⟩
  exact ⟨none, 0, rfl, Lz.empty, hb2⟩
theorem rr_down (hs : Sr.length ≤ 100000) (hi : Inside Sr.length p N) : RR w A Sr c nwr fu2 K kl kc true p N 4 [] := by
  intro z hb
  refine (refRead_down A Sr.length c nwr fu2 K kl.length kc z p N hs hi).mono ?_
  rintro e z' ⟨rfl, hb2⟩
  exact ⟨none, 0, rfl, Lz.empty, hb2⟩
theorem rr_ok (hr : RefAt X w A c K kc Sr kl) (hs : Sr.length ≤ 100000) (hi : Inside Sr.length p N) : RR w A Sr c nwr fu2 K kl kc false p N 0 ((Sr.drop p.toNat).take N.toNat) := by
  intro z hb
  obtain ⟨i1, i2, i3, i4⟩ := hi
  obtain ⟨q, rfl⟩ := Int.eq_ofNat_of_zero_le i1
  obtain ⟨m, rfl⟩ := Int.eq_ofNat_of_zero_le i3
  simp only [Int.toNat_natCast]
  have hlen : ((Sr.drop q).take m).length = m := by rw [List.length_take, List.length_drop]; omega
  refine (refRead_ok A c nwr fu2 K kl.length kc z X Sr q m (hr.below hb).sect hr.c1 hs (by omega) (by omega)).mono ?_
  rintro e z' ⟨A2, c2, rfl, hl, hb2⟩
  exact ⟨A2, c2, by rw [hlen], by rw [hlen]; exact (hl.mono (fun _ _ h => h.elim)).below hb2, hb2⟩
end

section
variable {X : Nat → Prop} {w : World} {g gs : Nat} {S : List Int} {nw fu : Int} {kp : List Bool} {dn : Bool} {p N : Int} {l : List Int}
theorem plat_up (hp : Plat X w g gs S nw fu kp dn) {z : World} (hb : Below w.heap.size w z) : Plat (fun b => X b ∨ b = w.heap.size + 2) z g gs S nw fu kp dn :=
  (hp.mono (Y := fun b => X b ∨ b = w.heap.size + 2) (fun k hk h => h.elim id (fun e => by omega))).below hb
theorem up_lt (hXl : ∀ k, X k → k < w.heap.size) {z : World} (hb : Below w.heap.size w z) (hz : w.heap.size + 3 ≤ z.heap.size) : ∀ k, X k ∨ k = w.heap.size + 2 → k < z.heap.size := fun k hk => by
  rcases hk with hk | rfl
  · exact Nat.lt_of_lt_of_le (hXl k hk) hb.size
  · omega
theorem pw_bad (hp : Plat X w g gs S nw fu kp dn) (hs : S.length ≤ 100000) (hi : ¬ Inside S.length p l.length) : PW X w g gs p l 2 S nw fu kp dn := by
  intro z hb _ Lx cx _
  have hpz := plat_up hp hb
  refine (write_no g z p l.length cx Lx 2 (by decide) (cut_bad _ g gs S nw fu kp dn z p l.length hpz hs hi)).mono ?_
  rintro e z' ⟨rfl, rfl⟩
  exact ⟨rfl, hpz, Mod.refl _ _⟩
theorem pw_down (hp : Plat X w g gs S nw fu kp true) (hs : S.length ≤ 100000) (hi : Inside S.length p l.length) : PW X w g gs p l 4 S nw fu kp true := by
  intro z hb _ Lx cx _
  have hpz := plat_up hp hb
  refine (write_no g z p l.length cx Lx 4 (by decide) (cut_down _ g gs S nw fu kp z p l.length hpz hs hi)).mono ?_
  rintro e z' ⟨rfl, rfl⟩
  exact ⟨rfl, hpz, Mod.refl _ _⟩
theorem pw_torn (hp : Plat X w g gs S nw 0 kp false) (hs : S.length ≤ 100000) (hi : Inside S.length p l.length) (hkp : kp.length ≤ 100000) (hXl : ∀ k, X k → k < w.heap.size) :
    PW X w g gs p l 4 (upd S p.toNat l (fun j => kp.getD j false)) nw (-1) [] true := by
  intro z hb hz Lx cx hL
  obtain ⟨i1, i2, i3, i4⟩ := hi
  obtain ⟨q, rfl⟩ := Int.eq_ofNat_of_zero_le i1
  exact write_torn _ g gs S nw kp z q l.length cx l Lx (plat_up hp hb) hs rfl (by omega) (by omega) hL hkp (up_lt hXl hb hz)
theorem pw_ok (hp : Plat X w g gs S nw fu kp false) (hs : S.length ≤ 100000) (hi : Inside S.length p l.length) (hf0 : fu ≠ 0) (hf1 : -9223372036854775808 ≤ fu) (hf2 : fu ≤ 9223372036854775807) (hw0 : 0 ≤ nw) (hw1 : nw ≤ 1000000) :
    PW X w g gs p l 0 (upd S p.toNat l (fun _ => true)) (nw + 1) (if 0 < fu then fu - 1 else fu) kp false := by
  intro z hb hz Lx cx hL
  obtain ⟨i1, i2, i3, i4⟩ := hi
  obtain ⟨q, rfl⟩ := Int.eq_ofNat_of_zero_le i1
  exact write_ok _ g gs S nw fu kp z q l.length cx l Lx (plat_up hp hb) hs rfl (by omega) (by omega) hL hf0 hf1 hf2 hw0 hw1
theorem pr_bad (hp : Plat X w g gs S nw fu kp dn) (hs : S.length ≤ 100000) (hi : ¬ Inside S.length p N) : PR w g p N 2 [] := by
  intro z hb
  refine (read_no g z p N 2 (cut_bad _ g gs S nw fu kp dn z p N (hp.below hb) hs hi)).mono ?_
  rintro e z' ⟨rfl, rfl⟩
  exact ⟨none, 0, rfl, Lz.empty, Below.refl _ _⟩
theorem pr_down (hp : Plat X w g gs S nw fu kp true) (hs : S.length ≤ 100000) (hi : Inside S.length p N) : PR w g p N 4 [] := by
  intro z hb
  refine (read_no g z p N 4 (cut_down _ g gs S nw fu kp z p N (hp.below hb) hs hi)).mono ?_
  rintro e z' ⟨rfl, rfl⟩
  exact ⟨none, 0, rfl, Lz.empty, Below.refl _ _⟩
theorem pr_ok (hp : Plat X w g gs S nw fu kp false) (hs : S.length ≤ 100000) (hi : Inside S.length p N) : PR w g p N 0 ((S.drop p.toNat).take N.toNat) := by
  intro z hb
  obtain ⟨i1, i2, i3, i4⟩ := hi
  obtain ⟨q, rfl⟩ := Int.eq_ofNat_of_zero_le i1
  obtain ⟨m, rfl⟩ := Int.eq_ofNat_of_zero_le i3
  simp only [Int.toNat_natCast]
  refine (read_ok X g gs S nw fu kp z q m (hp.below hb) hs (by omega) (by omega)).mono ?_
  rintro e z' ⟨A2, c2, rfl, ho, hb2⟩
  exact ⟨A2, c2, rfl, Lz.of_own ho (fun _ h => h.elim), hb2⟩
end
end Go.Proofs.Ytggcfbglfmcdmaa
