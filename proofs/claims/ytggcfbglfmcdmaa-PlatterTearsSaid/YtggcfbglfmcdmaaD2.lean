/-
  The walk of do where sectors are written, over any contracts of the two writes.
  Conditions: disks of at most 100000 sectors.
-/
import Derived.Test.YtggcfbglfmcdmaaD1
namespace Go.Proofs.Ytggcfbglfmcdmaa
open Go.RowKit

theorem info32 : (Try.prog.info? 32).map (·.size) = some 5 := by kernel_rfl
/-- A box of five cells is read. -/
theorem exec_box {op : Oper} {a : Act} {w : World} (x : Operand) (ho : op.op = .load 32 x) (b : Nat) (hx : a.eval x = .pointer (some ⟨b, 0, none⟩)) (C : Array Value) (hb : w.heap[b]? = some (.cells C 32 (0, 0))) (hs : C.size = 5) :
    (execOp a.eval op).run Try.prog w = .ok (.value (.agg C)) w := by
  have := exec_load (P := Try.prog) (w := w) 32 x ho b 0 hx C.toList _ (row_range w b C.toList 32 (by simpa using hb)) Try.underlying32 rfl (by rw [Array.length_toList, hs]; exact info32)
  simpa using this
section
variable {w : World} {ts : Array Value} {ds : List Deferred} {op : Oper} {K : Act → World → Prop} {Q : Exit → Act → World → Prop}
/-- A box of five cells is stored. -/
theorem wp_store_box (x y : Operand) (hop : op.dst = none) (ho : op.op = .store 32 x y) (b : Nat) (hx : Act.eval ⟨ts, ds⟩ x = .pointer (some ⟨b, 0, none⟩)) (C : Array Value) (hy : Act.eval ⟨ts, ds⟩ y = .agg C) (C0 : Array Value)
    (hb : w.heap[b]? = some (.cells C0 32 (0, 0))) (h0 : C0.size = 5) (hs : C.size = 5) (h1 : C.all (·.oneCell') = true)
    (h : ∀ w', w'.heap[b]? = some (.cells C 32 (0, 0)) → Mod (fun k => k = b) w w' → K ⟨ts, ds⟩ w') : Oper.wp Try.prog op ⟨ts, ds⟩ w K Q := by
  have hb' : w.heap[b]? = some (.cells C0.toList.toArray 32 (0, 0)) := by simpa using hb
  refine wp_store_mid 32 x y ho b 0 C hx hy (there_row hb' (by simp [h0, hs])) (by rw [hs]; exact info32) h1 ?_
  rw [hop]
  refine h _ ?_ (Mod.setCells (X := fun k => k = b) (Mod.refl _ w) (.inl rfl) _ _)
  rw [setCells_row b 32 C.toList 0 C0.toList w hb' (by simp [h0, hs])]
  have e : splice C0.toList 0 C.toList = C.toList := by
    unfold splice
    rw [List.take_zero, List.nil_append, List.drop_of_length_le (by simp [h0, hs]), List.append_nil]
  rw [e]
end
theorem results_box {fn : Func} {p t : Tmp} (h : fn.results = #[.cell p 32, .tmp t]) (tmps : Array Value) (w : World) (g : Nat) (C : Array Value) (v : Value) (hp : tmps.getD p undef = .pointer (some ⟨g, 0, none⟩)) (hg : w.heap[g]? = some (.cells C 32 (0, 0))) (hs : C.size = 5) (hv : tmps.getD t undef = v) :
    (results fn tmps).run Try.prog w = .ok (.tuple #[.agg C, v]) w := by
  have hp' : tmps[p]?.getD undef = .pointer (some ⟨g, 0, none⟩) := by simpa using hp
  have hv' : tmps[t]?.getD undef = v := by simpa using hv
  simp [results, h, hp', hv', asAddr, run_loadVar_row (P := Try.prog) w g 32 32 C (0, 0) _ hg Try.underlying32 rfl (by rw [hs]; exact info32)]

theorem RefAt.mono {X Y : Nat → Prop} {w : World} {A : Option Addr} {c : Nat} {K : Option Addr} {kc : Nat} {S : List Int} {kl : List Bool} (h : RefAt X w A c K kc S kl) (hY : ∀ k, k < w.heap.size → Y k → X k) : RefAt Y w A c K kc S kl :=
  ⟨h.sect.mono hY, h.keep.mono hY, h.c1, h.c2, h.k1, h.k2⟩
theorem mod_new {X : Nat → Prop} {w w' : World} {o : Obj} (h : Mod (fun k => k = w.heap.size) (w.alloc o) w') : Mod X w w' :=
  ⟨h.os, h.tape, h.output, by have := h.size; simp at this; omega, fun k hk _ => by
    rw [h.block k (by simp; omega) (by omega), Below.heap_alloc _ _ _ hk]⟩
theorem row_one {b : Nat} {o : Obj} {z z' : World} (h : z.heap[b]? = some o) (hb : Below z.heap.size z z') (hl : b < z.heap.size) : z'.heap[b]? = some o := by rw [hb.block b hl]; exact h
theorem row_two {b : Nat} {o : Obj} {z z' z'' : World} (h : z.heap[b]? = some o) (hb : Below z.heap.size z z') (hb2 : Below z'.heap.size z' z'') (hl : b < z.heap.size) : z''.heap[b]? = some o :=
  row_one (row_one h hb hl) hb2 (Nat.lt_of_lt_of_le hl hb.size)

theorem ref_one (A : Option Addr) (n c : Nat) (nw fu : Int) (K : Option Addr) (k kc : Nat) (dn : Bool) : (#[.slice A n c, .int .i64 nw, .int .i64 fu, .slice K k kc, .bool dn] : Array Value).all (·.oneCell') = true := by simp [Value.oneCell']

/-- The boxes of do: the reference's disk, the act, the result. -/
structure S4 (w : World) (R O : Array Value) (z : World) : Prop where
  below : Below w.heap.size w z
  b4 : z.heap[w.heap.size]? = some (.cells R 32 (0, 0))
  b5 : z.heap[w.heap.size + 1]? = some (.cells O 40 (0, 0))
  b6 : z.heap[w.heap.size + 2]? = some (.cells #[.slice none 0 0, .int .i64 0, .int .i64 0, .slice none 0 0, .bool false] 32 (0, 0))
section
variable {w z z' : World} {R O R2 : Array Value} {b8 : Nat}
theorem S4.size (h : S4 w R O z) : w.heap.size + 3 ≤ z.heap.size := (Array.getElem?_eq_some_iff.1 h.b6).1
theorem S4.under (h : S4 w R O z) (hb : Below z.heap.size z z') : S4 w R O z' := by
  have := h.size
  exact ⟨h.below.trans (hb.mono (by omega)), by rw [hb.block _ (by omega)]; exact h.b4, by rw [hb.block _ (by omega)]; exact h.b5, by rw [hb.block _ (by omega)]; exact h.b6⟩
theorem S4.alloc (h : S4 w R O z) (o : Obj) : S4 w R O (z.alloc o) := h.under ((Below.refl _ z).alloc (Nat.le_refl _) o)
theorem S4.drew (h : S4 w R O z) : S4 w R O z.drew := ⟨h.below.drew, h.b4, h.b5, h.b6⟩
theorem S4.over (h : S4 w R O z) {b : Nat} (hm : Mod (fun k => k = b) z z') (hb : w.heap.size + 3 ≤ b) : S4 w R O z' := by
  have := h.size
  exact ⟨hm.below h.below (fun k e => by omega) (by omega), by rw [hm.block _ (by omega) (by omega)]; exact h.b4, by rw [hm.block _ (by omega) (by omega)]; exact h.b5, by rw [hm.block _ (by omega) (by omega)]; exact h.b6⟩
theorem S4.o1 {k v1 v2 v3 v4 : Value} (h : S4 w R #[k, v1, v2, v3, v4] z) : z.cell? ⟨w.heap.size + 1, 1, none⟩ = some v1 := cell_of_row z _ 1 _ _ _ h.b5
theorem S4.o2 {k v1 v2 v3 v4 : Value} (h : S4 w R #[k, v1, v2, v3, v4] z) : z.cell? ⟨w.heap.size + 1, 2, none⟩ = some v2 := cell_of_row z _ 2 _ _ _ h.b5
theorem S4.o3 {k v1 v2 v3 v4 : Value} (h : S4 w R #[k, v1, v2, v3, v4] z) : z.cell? ⟨w.heap.size + 1, 3, none⟩ = some v3 := cell_of_row z _ 3 _ _ _ h.b5
theorem S4.o4 {k v1 v2 v3 v4 : Value} (h : S4 w R #[k, v1, v2, v3, v4] z) : z.cell? ⟨w.heap.size + 1, 4, none⟩ = some v4 := cell_of_row z _ 4 _ _ _ h.b5
theorem S4.row6 (h : S4 w R O z) {X : Nat → Prop} (hm : Mod X z z') (hX : ∀ k, X k → k < w.heap.size) : z'.heap[w.heap.size + 2]? = some (.cells #[.slice none 0 0, .int .i64 0, .int .i64 0, .slice none 0 0, .bool false] 32 (0, 0)) := by
  have := h.size
  rw [hm.block _ (by omega) (fun hx => by have := hX _ hx; omega)]
  exact h.b6
theorem S4.lt8 (h : S4 w R O z) {b : Nat} {C : Array Value} (hb : z.heap[b]? = some (.cells C 32 (0, 0))) : b < z.heap.size := by
  have := h.size
  exact (Array.getElem?_eq_some_iff.1 hb).1
theorem S4.start (w : World) (R O : Array Value) : S4 w R O (((w.alloc (.cells R 32)).alloc (.cells O 40)).alloc (.cells #[.slice none 0 0, .int .i64 0, .int .i64 0, .slice none 0 0, .bool false] 32)) := by
  refine ⟨(((Below.refl _ _).alloc (Nat.le_refl _) _).alloc (by simp) _).alloc (by simp; omega) _, ?_, ?_, ?_⟩
  · rw [Below.heap_alloc _ _ _ (by simp; omega)]
    exact heap_alloc2_old w _ _
  · rw [Below.heap_alloc _ _ _ (by simp)]
    exact heap_alloc2_new w _ _
  · have := heap_alloc_new ((w.alloc (.cells R 32)).alloc (.cells O 40)) (.cells #[.slice none 0 0, .int .i64 0, .int .i64 0, .slice none 0 0, .bool false] 32)
    simpa using this
/-- The act's box, and the box of the reference's disk as it was written. -/
structure S5 (w : World) (b8 : Nat) (O R2 : Array Value) (z : World) : Prop where
  b5 : z.heap[w.heap.size + 1]? = some (.cells O 40 (0, 0))
  b8 : z.heap[b8]? = some (.cells R2 32 (0, 0))
theorem S5.under (h : S5 w b8 O R2 z) (hb : Below z.heap.size z z') : S5 w b8 O R2 z' :=
  ⟨by rw [hb.block _ (Array.getElem?_eq_some_iff.1 h.b5).1]; exact h.b5, by rw [hb.block _ (Array.getElem?_eq_some_iff.1 h.b8).1]; exact h.b8⟩
theorem S5.mod (h : S5 w b8 O R2 z) {X : Nat → Prop} (hm : Mod X z z') (hX : ∀ k, X k → k < w.heap.size) (h8 : w.heap.size ≤ b8) : S5 w b8 O R2 z' :=
  ⟨by rw [hm.block _ (Array.getElem?_eq_some_iff.1 h.b5).1 (fun hx => by have := hX _ hx; omega)]; exact h.b5, by rw [hm.block _ (Array.getElem?_eq_some_iff.1 h.b8).1 (fun hx => by have := hX _ hx; omega)]; exact h.b8⟩
theorem S5.over (h : S5 w b8 O R2 z) (hm : Mod (fun k => k = w.heap.size + 2) z z') (h8 : b8 ≠ w.heap.size + 2) : S5 w b8 O R2 z' :=
  ⟨by rw [hm.block _ (Array.getElem?_eq_some_iff.1 h.b5).1 (by omega)]; exact h.b5, by rw [hm.block _ (Array.getElem?_eq_some_iff.1 h.b8).1 h8]; exact h.b8⟩
theorem S5.o1 {k v1 v2 v3 v4 : Value} (h : S5 w b8 #[k, v1, v2, v3, v4] R2 z) : z.cell? ⟨w.heap.size + 1, 1, none⟩ = some v1 := cell_of_row z _ 1 _ _ _ h.b5
theorem S5.o2 {k v1 v2 v3 v4 : Value} (h : S5 w b8 #[k, v1, v2, v3, v4] R2 z) : z.cell? ⟨w.heap.size + 1, 2, none⟩ = some v2 := cell_of_row z _ 2 _ _ _ h.b5
theorem S5.o3 {k v1 v2 v3 v4 : Value} (h : S5 w b8 #[k, v1, v2, v3, v4] R2 z) : z.cell? ⟨w.heap.size + 1, 3, none⟩ = some v3 := cell_of_row z _ 3 _ _ _ h.b5
theorem S5.o4 {k v1 v2 v3 v4 : Value} (h : S5 w b8 #[k, v1, v2, v3, v4] R2 z) : z.cell? ⟨w.heap.size + 1, 4, none⟩ = some v4 := cell_of_row z _ 4 _ _ _ h.b5
end

/-- What do leaves. -/
def Did (X : Nat → Prop) (w : World) (g gs : Nat) (S : List Int) (nw fu : Int) (kp : List Bool) (dn : Bool) (Sr : List Int) (nwr fu2 : Int) (K : Option Addr) (kl : List Bool) (kc : Nat) (dnr bb : Bool) (e : Ending) (w' : World) : Prop :=
  ∃ A c, e = .returned (.tuple #[.agg #[.slice A Sr.length c, .int .i64 nwr, .int .i64 fu2, .slice K kl.length kc, .bool dnr], .bool bb]) ∧ Plat X w' g gs S nw fu kp dn ∧ RefAt X w' A c K kc Sr kl ∧ Mod (own g gs) w w'

theorem do_fin {X : Nat → Prop} {w w5 w6 w7 w8 : World} {g gs : Nat} {S : List Int} {nw fu : Int} {kp : List Bool} {dn dnr bb : Bool} {Sr : List Int} {nwr fu2 : Int} {A K : Option Addr} {kl : List Bool} {c kc : Nat} {R O : Array Value}
    (h5 : S4 w R O w5) (h6 : Below w5.drew.heap.size w5.drew w6) (h7 : Mod (own g gs) w6 w7) (h8 : Mod (fun k => k = w.heap.size + 2) w7 w8) (hp : Plat (fun b => X b ∨ b = w.heap.size + 2) w7 g gs S nw fu kp dn)
    (hr : RefAt (fun b => X b ∨ b = w.heap.size + 2) w5 A c K kc Sr kl) (hG : ∀ k, own g gs k → k < w.heap.size) (hX : ∀ k, own g gs k → X k) :
    Did X w g gs S nw fu kp dn Sr nwr fu2 K kl kc dnr bb (.returned (.tuple #[.agg #[.slice A Sr.length c, .int .i64 nwr, .int .i64 fu2, .slice K kl.length kc, .bool dnr], .bool bb])) w8 := by
  have g1 := hG g (.inl rfl)
  have g2 := hG gs (.inr rfl)
  refine ⟨A, c, rfl, ?_, ?_, ?_⟩
  · exact (hp.kept h8 (by omega) (by omega) (fun k _ e => .inr e)).mono (fun k _ h => .inl h)
  · have r6 : RefAt (fun b => X b ∨ b = w.heap.size + 2) w6 A c K kc Sr kl := (hr.kept ((Mod.refl _ w5).drew)).below h6
    have r7 := r6.kept (h7.mono (fun k _ h => .inl (hX k h)))
    have r8 := r7.kept (h8.mono (fun k _ h => .inr h))
    exact r8.mono (fun k _ h => .inl h)
  · have b6 : Below w.heap.size w w6 := h5.below.drew.trans (h6.mono (by have := h5.size; show w.heap.size ≤ w5.heap.size; omega))
    have s6 := b6.size
    refine ⟨(h8.os.trans h7.os).trans b6.os, (h8.tape.trans h7.tape).trans b6.tape, (h8.output.trans h7.output).trans b6.output, Nat.le_trans b6.size (Nat.le_trans h7.size h8.size), fun k hk hx => ?_⟩
    rw [h8.block k (by have := h7.size; omega) (by omega), h7.block k (by omega) hx, b6.block k hk]

set_option maxHeartbeats 8000000 in
set_option maxRecDepth 100000 in
theorem do_write0 (X : Nat → Prop) (g gs : Nat) (w : World) (A : Option Addr) (Sr : List Int) (c : Nat) (nwr fu2 : Int) (K : Option Addr) (kl : List Bool) (kc : Nat) (dnr : Bool) (p N : Int) (B : Option Addr) (n cB : Nat) (E : Option Addr) (e1 e2 : Nat) (l : List Int)
    (codeR codeP : Int) (bb : Bool) (S' Sr' : List Int) (nw' nwr' fu' : Int) (kp' : List Bool) (dn' dnr' : Bool) (fu2' : Int) (hc : (codeP == codeR) = bb)
    (hB : Lz X w 1 B n (IL l)) (hln : n ≤ 100000) (hG : ∀ k, own g gs k → k < w.heap.size) (hX : ∀ k, own g gs k → X k)
    (hRW : ∀ z, Below w.heap.size w z → w.heap.size + 3 ≤ z.heap.size → ∀ Lx cx, Lz (fun _ => False) z 64 Lx l.length (flat l) → Calls Try.prog 25 #[.agg #[.slice A Sr.length c, .int .i64 nwr, .int .i64 fu2, .slice K kl.length kc, .bool dnr], .int .i64 p, .slice Lx l.length cx] z fun e z' =>
      ∃ A2 c2, e = .returned (.tuple #[.agg #[.slice A2 Sr'.length c2, .int .i64 nwr', .int .i64 fu2', .slice K kl.length kc, .bool dnr'], .int .i64 codeR]) ∧ RefAt (fun b => X b ∨ w.heap.size ≤ b ∧ b < z.heap.size) z' A2 c2 K kc Sr' kl ∧ Below z.heap.size z z')
    (hPW : ∀ z, Below w.heap.size w z → w.heap.size + 3 ≤ z.heap.size → ∀ Lx cx, Lz (own g gs) z 64 Lx l.length (flat l) → Calls Try.prog 15 #[.pointer (some ⟨g, 0, none⟩), .int .i64 p, .slice Lx l.length cx] z fun e z' =>
      e = .returned (.int .i64 codeP) ∧ Plat (fun b => X b ∨ b = w.heap.size + 2) z' g gs S' nw' fu' kp' dn' ∧ Mod (own g gs) z z') :
    Calls Try.prog 10 #[.pointer (some ⟨g, 0, none⟩), .agg #[.slice A Sr.length c, .int .i64 nwr, .int .i64 fu2, .slice K kl.length kc, .bool dnr], .agg #[.int .i64 0, .int .i64 p, .int .i64 N, .slice B n cB, .slice E e1 e2]] w (Did X w g gs S' nw' fu' kp' dn' Sr' nwr' fu2' K kl kc dnr' bb) := by
  have HC := Lib.hid hc
  have HB := Lib.hid hB
  have HG := Lib.hid hG
  have HX := Lib.hid hX
  have HRW := Lib.hid hRW
  have HPW := Lib.hid hPW
  have ST := Lib.hid (S4.start w #[.slice A Sr.length c, .int .i64 nwr, .int .i64 fu2, .slice K kl.length kc, .bool dnr] #[.int .i64 0, .int .i64 p, .int .i64 N, .slice B n cB, .slice E e1 e2]).drew
  clear hc hB hG hX hRW hPW
  go_enter Try.func10, Try.ntmps10
  go_wp2_with fail
  refine wp_region_held_drew (S := S4 w #[.slice A Sr.length c, .int .i64 nwr, .int .i64 fu2, .slice K kl.length kc, .bool dnr] #[.int .i64 0, .int .i64 p, .int .i64 N, .slice B n cB, .slice E e1 e2]) (by kernel_rfl) ST.out (fun hS => ?_)
  clear ST
  generalize World.drew _ = zz at hS ⊢
  refine takeH (i := 0) (d := 20) (v := .agg #[.slice A Sr.length c, .int .i64 nwr, .int .i64 fu2, .slice K kl.length kc, .bool dnr]) rfl (by kernel_rfl) (by kernel_rfl) (by kernel_rfl) (fun _ _ _ h => h) rfl (by rfl) ?yq0a0 hS ?rq0a0
  case yq0a0 => (intro wz hz; have o1 := hz.o1; have o2 := hz.o2; have o3 := hz.o3; have o4 := hz.o4; exact exec_box (.tmp 4) rfl _ rfl _ hz.b4 rfl)
  simp only [List.setIfInBounds_toArray, List.set_cons_zero, List.set_cons_succ]
  refine takeH (i := 1) (d := 21) (v := ?vq0a1) rfl (by kernel_rfl) (by kernel_rfl) (by kernel_rfl) (fun _ _ _ h => h) rfl (by rfl) ?yq0a1 hS ?rq0a1
  case yq0a1 => (intro wz hz; have o1 := hz.o1; have o2 := hz.o2; have o3 := hz.o3; have o4 := hz.o4; go_simp <;> with_reducible rfl)
  simp only [List.setIfInBounds_toArray, List.set_cons_zero, List.set_cons_succ]
  refine takeH (i := 2) (d := 22) (v := ?vq0a2) rfl (by kernel_rfl) (by kernel_rfl) (by kernel_rfl) (fun _ _ _ h => h) rfl (by rfl) ?yq0a2 hS ?rq0a2
  case yq0a2 => (intro wz hz; have o1 := hz.o1; have o2 := hz.o2; have o3 := hz.o3; have o4 := hz.o4; go_simp <;> with_reducible rfl)
  simp only [List.setIfInBounds_toArray, List.set_cons_zero, List.set_cons_succ]
  refine takeH (i := 3) (d := 23) (v := ?vq0a3) rfl (by kernel_rfl) (by kernel_rfl) (by kernel_rfl) (fun _ _ _ h => h) rfl (by rfl) ?yq0a3 hS ?rq0a3
  case yq0a3 => (intro wz hz; have o1 := hz.o1; have o2 := hz.o2; have o3 := hz.o3; have o4 := hz.o4; go_simp <;> with_reducible rfl)
  simp only [List.setIfInBounds_toArray, List.set_cons_zero, List.set_cons_succ]
  refine takeH (i := 4) (d := 24) (v := ?vq0a4) rfl (by kernel_rfl) (by kernel_rfl) (by kernel_rfl) (fun _ _ _ h => h) rfl (by rfl) ?yq0a4 hS ?rq0a4
  case yq0a4 => (intro wz hz; have o1 := hz.o1; have o2 := hz.o2; have o3 := hz.o3; have o4 := hz.o4; go_simp <;> with_reducible rfl)
  simp only [List.setIfInBounds_toArray, List.set_cons_zero, List.set_cons_succ]
  refine wpAnyH_ready (rs := [5, 10]) (by kernel_rfl) (by simp) ?_
  refine AllReadyH.cons rfl (fun K0 hK => ?_) (AllReadyH.cons rfl (fun K0 hK => ?_) AllReadyH.nil)
  · go_simp
    refine (sectors_any (fun _ => False) _ _ _ l _ ((HB.out.below hS.below).mono (fun _ _ h => h.elim)) hln).mono ?_
    rintro e ws ⟨AL, cL, rfl, hoL, hbL⟩
    have HOL := Lib.hid hoL
    have HBL := Lib.hid hbL
    clear hoL hbL
    refine hK.out _ _ (hS.under HBL.out) (fun hT => ?_)
    clear hK hS
    have hS := hT
    clear hT
    refine wpAnyH_ready (rs := [6, 10]) (by kernel_rfl) (by simp) ?_
    refine AllReadyH.cons rfl (fun K0 hK => ?_) (AllReadyH.cons rfl (fun K0 hK => ?_) AllReadyH.nil)
    · have hzs0 := hS.size
      go_simp
      refine (HRW.out _ hS.below hS.size _ _ (Lz.of_own HOL.out (fun _ h => h.elim))).mono ?_
      rintro e wt ⟨A2, c2, rfl, href, hbt⟩
      have REF := Lib.hid href
      have HBT := Lib.hid hbt
      clear href hbt
      refine hK.out _ _ (hS.under HBT.out) (fun hT => ?_)
      clear hK hS
      have hS := hT
      clear hT
      refine takeH (i := 7) (d := 19) (v := ?vq0l7) rfl (by kernel_rfl) (by kernel_rfl) (by kernel_rfl) (fun _ _ _ h => h) rfl (by rfl) ?yq0l7 hS ?rq0l7
      case yq0l7 => (intro wz hz; have o1 := hz.o1; have o2 := hz.o2; have o3 := hz.o3; have o4 := hz.o4; go_simp <;> with_reducible rfl)
      simp only [List.setIfInBounds_toArray, List.set_cons_zero, List.set_cons_succ]
      refine takeH (i := 8) (d := 27) (v := ?vq0l8) rfl (by kernel_rfl) (by kernel_rfl) (by kernel_rfl) (fun _ _ _ h => h) rfl (by rfl) ?yq0l8 hS ?rq0l8
      case yq0l8 => (intro wz hz; have o1 := hz.o1; have o2 := hz.o2; have o3 := hz.o3; have o4 := hz.o4; go_simp <;> with_reducible rfl)
      simp only [List.setIfInBounds_toArray, List.set_cons_zero, List.set_cons_succ]
      refine takeH (i := 9) (d := 28) (v := ?vq0l9) rfl (by kernel_rfl) (by kernel_rfl) (by kernel_rfl) (fun _ _ _ h => h) rfl (by rfl) ?yq0l9 hS ?rq0l9
      case yq0l9 => (intro wz hz; have o1 := hz.o1; have o2 := hz.o2; have o3 := hz.o3; have o4 := hz.o4; go_simp <;> with_reducible rfl)
      simp only [List.setIfInBounds_toArray, List.set_cons_zero, List.set_cons_succ]
      have hzs := hS.size
      have b8v := Lib.hid (heap_alloc_new wt (.cells #[.slice none 0 0, .int .i64 0, .int .i64 0, .slice none 0 0, .bool false] 32))
      refine wpAnyH_ready (rs := [10]) (by kernel_rfl) (by simp) ?_
      refine AllReadyH.cons rfl (fun K0 hK => ?_) AllReadyH.nil
      go_simp
      refine hK.out _ _ (hS.alloc _) (fun hT => ?_)
      clear hK hS
      have hS := hT
      clear hT
      refine wpAnyH_ready (rs := [11]) (by kernel_rfl) (by simp) ?_
      refine AllReadyH.cons rfl (fun K0 hK => ?_) AllReadyH.nil
      rw [if_pos (by rfl)]
      refine wp_store_box (.tmp 8) (.tmp 27) rfl rfl wt.heap.size rfl #[.slice A2 Sr'.length c2, .int .i64 nwr', .int .i64 fu2', .slice K kl.length kc, .bool dnr'] rfl _ b8v.out rfl rfl (ref_one _ _ _ _ _ _ _ _ _) ?_
      intro w5 h8 hm5
      have H8 := Lib.hid h8
      have REF5 : Hid (RefAt (fun b => X b ∨ b = w.heap.size + 2) w5 A2 c2 K kc Sr' kl) := (REF.out.kept (mod_new hm5)).mono (fun k _ e => e.imp id (fun e => ⟨by omega, by omega⟩))
      have hle := hS.size
      have hS5 := hS.over hm5 (by have := hS.size; first | omega | (simp at *; omega))
      clear h8 hm5
      refine hK.out _ _ (hS5) (fun hT => ?_)
      clear hK hS
      have hS := hT
      clear hT
      refine takeH (i := 12) (d := 9) (v := ?vq0m12) rfl (by kernel_rfl) (by kernel_rfl) (by kernel_rfl) (fun _ _ _ h => h) rfl (by rfl) ?yq0m12 hS ?rq0m12
      case yq0m12 => (intro wz hz; have o1 := hz.o1; have o2 := hz.o2; have o3 := hz.o3; have o4 := hz.o4; go_simp <;> with_reducible rfl)
      simp only [List.setIfInBounds_toArray, List.set_cons_zero, List.set_cons_succ]
      refine wpAnyH_done (by kernel_rfl) ?_ _
      have HS := Lib.hid hS
      clear hS
      go_wp2_with fail
      refine wp_region_held_drew (S := S5 w wt.heap.size #[.int .i64 0, .int .i64 p, .int .i64 N, .slice B n cB, .slice E e1 e2] #[.slice A2 Sr'.length c2, .int .i64 nwr', .int .i64 fu2', .slice K kl.length kc, .bool dnr']) (by kernel_rfl) ⟨HS.out.b5, H8.out⟩ (fun hS => ?_)
      refine takeH (i := 0) (d := 29) (v := .agg #[.slice A2 Sr'.length c2, .int .i64 nwr', .int .i64 fu2', .slice K kl.length kc, .bool dnr']) rfl (by kernel_rfl) (by kernel_rfl) (by kernel_rfl) (fun _ _ _ h => h) rfl (by rfl) ?yq0n0 hS ?rq0n0
      case yq0n0 => (intro wz hz; have o1 := hz.o1; have o2 := hz.o2; have o3 := hz.o3; have o4 := hz.o4; exact exec_box (.tmp 8) rfl _ rfl _ hz.b8 rfl)
      simp only [List.setIfInBounds_toArray, List.set_cons_zero, List.set_cons_succ]
      refine takeH (i := 1) (d := 30) (v := ?vq0n1) rfl (by kernel_rfl) (by kernel_rfl) (by kernel_rfl) (fun _ _ _ h => h) rfl (by rfl) ?yq0n1 hS ?rq0n1
      case yq0n1 => (intro wz hz; have o1 := hz.o1; have o2 := hz.o2; have o3 := hz.o3; have o4 := hz.o4; go_simp <;> with_reducible rfl)
      simp only [List.setIfInBounds_toArray, List.set_cons_zero, List.set_cons_succ]
      refine takeH (i := 2) (d := 31) (v := ?vq0n2) rfl (by kernel_rfl) (by kernel_rfl) (by kernel_rfl) (fun _ _ _ h => h) rfl (by rfl) ?yq0n2 hS ?rq0n2
      case yq0n2 => (intro wz hz; have o1 := hz.o1; have o2 := hz.o2; have o3 := hz.o3; have o4 := hz.o4; go_simp <;> with_reducible rfl)
      simp only [List.setIfInBounds_toArray, List.set_cons_zero, List.set_cons_succ]
      refine takeH (i := 3) (d := 32) (v := ?vq0n3) rfl (by kernel_rfl) (by kernel_rfl) (by kernel_rfl) (fun _ _ _ h => h) rfl (by rfl) ?yq0n3 hS ?rq0n3
      case yq0n3 => (intro wz hz; have o1 := hz.o1; have o2 := hz.o2; have o3 := hz.o3; have o4 := hz.o4; go_simp <;> with_reducible rfl)
      simp only [List.setIfInBounds_toArray, List.set_cons_zero, List.set_cons_succ]
      refine takeH (i := 4) (d := 33) (v := ?vq0n4) rfl (by kernel_rfl) (by kernel_rfl) (by kernel_rfl) (fun _ _ _ h => h) rfl (by rfl) ?yq0n4 hS ?rq0n4
      case yq0n4 => (intro wz hz; have o1 := hz.o1; have o2 := hz.o2; have o3 := hz.o3; have o4 := hz.o4; go_simp <;> with_reducible rfl)
      simp only [List.setIfInBounds_toArray, List.set_cons_zero, List.set_cons_succ]
      refine takeH (i := 5) (d := 34) (v := ?vq0n5) rfl (by kernel_rfl) (by kernel_rfl) (by kernel_rfl) (fun _ _ _ h => h) rfl (by rfl) ?yq0n5 hS ?rq0n5
      case yq0n5 => (intro wz hz; have o1 := hz.o1; have o2 := hz.o2; have o3 := hz.o3; have o4 := hz.o4; go_simp <;> with_reducible rfl)
      simp only [List.setIfInBounds_toArray, List.set_cons_zero, List.set_cons_succ]
      refine takeH (i := 8) (d := 37) (v := ?vq0n8) rfl (by kernel_rfl) (by kernel_rfl) (by kernel_rfl) (fun _ _ _ h => h) rfl (by rfl) ?yq0n8 hS ?rq0n8
      case yq0n8 => (intro wz hz; have o1 := hz.o1; have o2 := hz.o2; have o3 := hz.o3; have o4 := hz.o4; go_simp <;> with_reducible rfl)
      simp only [List.setIfInBounds_toArray, List.set_cons_zero, List.set_cons_succ]
      refine wpAnyH_ready (rs := [6]) (by kernel_rfl) (by simp) ?_
      refine AllReadyH.cons rfl (fun K0 hK => ?_) AllReadyH.nil
      go_simp
      refine (sectors_any (fun _ => False) _ _ _ l _ ((HB.out.below HS.out.below.drew).mono (fun _ _ h => h.elim)) hln).mono ?_
      rintro e w6 ⟨AM, cM, rfl, hoM, hbM⟩
      have HOM := Lib.hid hoM
      have HBM := Lib.hid hbM
      clear hoM hbM
      refine hK.out _ _ (hS.under HBM.out) (fun hT => ?_)
      clear hK hS
      have hS := hT
      clear hT
      have HS6 := Lib.hid (HS.out.drew.under HBM.out)
      refine wpAnyH_ready (rs := [7]) (by kernel_rfl) (by simp) ?_
      refine AllReadyH.cons rfl (fun K0 hK => ?_) AllReadyH.nil
      go_simp
      refine (HPW.out _ HS6.out.below HS6.out.size _ _ (Lz.of_own HOM.out (fun k hk => Nat.lt_of_lt_of_le (HG.out k hk) HS.out.below.size))).mono ?_
      rintro e w7 ⟨rfl, hpl, hm7⟩
      have HPL := Lib.hid hpl
      have HM7 := Lib.hid hm7
      clear hpl hm7
      refine hK.out _ _ (hS.mod HM7.out (fun k hk => HG.out k hk) (by omega)) (fun hT => ?_)
      clear hK hS
      have hS := hT
      clear hT
      have hcode := HC.out
      refine takeH (i := 9) (d := 38) (v := .bool bb) rfl (by kernel_rfl) (by kernel_rfl) (by kernel_rfl) (fun _ _ _ h => h) rfl (by rfl) ?yq0o9 hS ?rq0o9
      case yq0o9 => (intro wz hz; have o1 := hz.o1; have o2 := hz.o2; have o3 := hz.o3; have o4 := hz.o4; go_simp)
      simp only [List.setIfInBounds_toArray, List.set_cons_zero, List.set_cons_succ]
      clear hcode
      refine wpAnyH_ready (rs := [10]) (by kernel_rfl) (by simp) ?_
      refine AllReadyH.cons rfl (fun K0 hK => ?_) AllReadyH.nil
      rw [if_pos (by rfl)]
      refine wp_store_box (.tmp 6) (.tmp 29) rfl rfl (w.heap.size + 2) rfl #[.slice A2 Sr'.length c2, .int .i64 nwr', .int .i64 fu2', .slice K kl.length kc, .bool dnr'] rfl _ (HS6.out.row6 HM7.out (fun k hk => HG.out k hk)) rfl rfl (ref_one _ _ _ _ _ _ _ _ _) ?_
      intro w8 h6 hm8
      have H6 := Lib.hid h6
      have HM8 := Lib.hid hm8
      clear h6 hm8
      refine hK.out _ _ (hS.over HM8.out (by omega)) (fun hT => ?_)
      clear hK hS
      have hS := hT
      clear hT
      refine takeH (i := 11) (d := 7) (v := ?vq0p11) rfl (by kernel_rfl) (by kernel_rfl) (by kernel_rfl) (fun _ _ _ h => h) rfl (by rfl) ?yq0p11 hS ?rq0p11
      case yq0p11 => (intro wz hz; have o1 := hz.o1; have o2 := hz.o2; have o3 := hz.o3; have o4 := hz.o4; go_simp <;> with_reducible rfl)
      simp only [List.setIfInBounds_toArray, List.set_cons_zero, List.set_cons_succ]
      refine wpAnyH_done (by kernel_rfl) ?_ _
      clear hS
      go_wp2_with fail
      refine bodyPost_ret (v := .tuple #[.agg #[.slice A2 Sr'.length c2, .int .i64 nwr', .int .i64 fu2', .slice K kl.length kc, .bool dnr'], .bool bb]) (results_box Try.results10 _ _ _ _ _ rfl H6.out rfl rfl) rfl ?_
      exact do_fin HS.out HBM.out HM7.out HM8.out HPL.out REF5.out HG.out HX.out
    · have b8v := Lib.hid (heap_alloc_new ws (.cells #[.slice none 0 0, .int .i64 0, .int .i64 0, .slice none 0 0, .bool false] 32))
      have hzs := hS.size
      go_simp
      refine hK.out _ _ (hS.alloc _) (fun hT => ?_)
      clear hK hS
      have hS := hT
      clear hT
      refine wpAnyH_ready (rs := [6]) (by kernel_rfl) (by simp) ?_
      refine AllReadyH.cons rfl (fun K0 hK => ?_) AllReadyH.nil
      go_simp
      refine (HRW.out _ hS.below hS.size _ _ ((Lz.of_own HOL.out (fun _ h => h.elim)).alloc _)).mono ?_
      rintro e wt ⟨A2, c2, rfl, href, hbt⟩
      have REF := Lib.hid href
      have HBT := Lib.hid hbt
      clear href hbt
      refine hK.out _ _ (hS.under HBT.out) (fun hT => ?_)
      clear hK hS
      have hS := hT
      clear hT
      refine takeH (i := 7) (d := 19) (v := ?vq0g7) rfl (by kernel_rfl) (by kernel_rfl) (by kernel_rfl) (fun _ _ _ h => h) rfl (by rfl) ?yq0g7 hS ?rq0g7
      case yq0g7 => (intro wz hz; have o1 := hz.o1; have o2 := hz.o2; have o3 := hz.o3; have o4 := hz.o4; go_simp <;> with_reducible rfl)
      simp only [List.setIfInBounds_toArray, List.set_cons_zero, List.set_cons_succ]
      refine takeH (i := 8) (d := 27) (v := ?vq0g8) rfl (by kernel_rfl) (by kernel_rfl) (by kernel_rfl) (fun _ _ _ h => h) rfl (by rfl) ?yq0g8 hS ?rq0g8
      case yq0g8 => (intro wz hz; have o1 := hz.o1; have o2 := hz.o2; have o3 := hz.o3; have o4 := hz.o4; go_simp <;> with_reducible rfl)
      simp only [List.setIfInBounds_toArray, List.set_cons_zero, List.set_cons_succ]
      refine takeH (i := 9) (d := 28) (v := ?vq0g9) rfl (by kernel_rfl) (by kernel_rfl) (by kernel_rfl) (fun _ _ _ h => h) rfl (by rfl) ?yq0g9 hS ?rq0g9
      case yq0g9 => (intro wz hz; have o1 := hz.o1; have o2 := hz.o2; have o3 := hz.o3; have o4 := hz.o4; go_simp <;> with_reducible rfl)
      simp only [List.setIfInBounds_toArray, List.set_cons_zero, List.set_cons_succ]
      refine wpAnyH_ready (rs := [11]) (by kernel_rfl) (by simp) ?_
      refine AllReadyH.cons rfl (fun K0 hK => ?_) AllReadyH.nil
      rw [if_pos (by rfl)]
      refine wp_store_box (.tmp 8) (.tmp 27) rfl rfl ws.heap.size rfl #[.slice A2 Sr'.length c2, .int .i64 nwr', .int .i64 fu2', .slice K kl.length kc, .bool dnr'] rfl _ (row_one b8v.out HBT.out (by simp)) rfl rfl (ref_one _ _ _ _ _ _ _ _ _) ?_
      intro w5 h8 hm5
      have H8 := Lib.hid h8
      have REF5 : Hid (RefAt (fun b => X b ∨ b = w.heap.size + 2) w5 A2 c2 K kc Sr' kl) := (REF.out.kept (hm5.mono (fun k _ e => .inr ⟨by omega, by simp; omega⟩))).mono (fun k _ e => e.imp id (fun e => ⟨by omega, by simp; omega⟩))
      have hle := hS.size
      have hS5 := hS.over hm5 (by have := hS.size; first | omega | (simp at *; omega))
      clear h8 hm5
      refine hK.out _ _ (hS5) (fun hT => ?_)
      clear hK hS
      have hS := hT
      clear hT
      refine takeH (i := 12) (d := 9) (v := ?vq0h12) rfl (by kernel_rfl) (by kernel_rfl) (by kernel_rfl) (fun _ _ _ h => h) rfl (by rfl) ?yq0h12 hS ?rq0h12
      case yq0h12 => (intro wz hz; have o1 := hz.o1; have o2 := hz.o2; have o3 := hz.o3; have o4 := hz.o4; go_simp <;> with_reducible rfl)
      simp only [List.setIfInBounds_toArray, List.set_cons_zero, List.set_cons_succ]
      refine wpAnyH_done (by kernel_rfl) ?_ _
      have HS := Lib.hid hS
      clear hS
      go_wp2_with fail
      refine wp_region_held_drew (S := S5 w ws.heap.size #[.int .i64 0, .int .i64 p, .int .i64 N, .slice B n cB, .slice E e1 e2] #[.slice A2 Sr'.length c2, .int .i64 nwr', .int .i64 fu2', .slice K kl.length kc, .bool dnr']) (by kernel_rfl) ⟨HS.out.b5, H8.out⟩ (fun hS => ?_)
      refine takeH (i := 0) (d := 29) (v := .agg #[.slice A2 Sr'.length c2, .int .i64 nwr', .int .i64 fu2', .slice K kl.length kc, .bool dnr']) rfl (by kernel_rfl) (by kernel_rfl) (by kernel_rfl) (fun _ _ _ h => h) rfl (by rfl) ?yq0i0 hS ?rq0i0
      case yq0i0 => (intro wz hz; have o1 := hz.o1; have o2 := hz.o2; have o3 := hz.o3; have o4 := hz.o4; exact exec_box (.tmp 8) rfl _ rfl _ hz.b8 rfl)
      simp only [List.setIfInBounds_toArray, List.set_cons_zero, List.set_cons_succ]
      refine takeH (i := 1) (d := 30) (v := ?vq0i1) rfl (by kernel_rfl) (by kernel_rfl) (by kernel_rfl) (fun _ _ _ h => h) rfl (by rfl) ?yq0i1 hS ?rq0i1
      case yq0i1 => (intro wz hz; have o1 := hz.o1; have o2 := hz.o2; have o3 := hz.o3; have o4 := hz.o4; go_simp <;> with_reducible rfl)
      simp only [List.setIfInBounds_toArray, List.set_cons_zero, List.set_cons_succ]
      refine takeH (i := 2) (d := 31) (v := ?vq0i2) rfl (by kernel_rfl) (by kernel_rfl) (by kernel_rfl) (fun _ _ _ h => h) rfl (by rfl) ?yq0i2 hS ?rq0i2
      case yq0i2 => (intro wz hz; have o1 := hz.o1; have o2 := hz.o2; have o3 := hz.o3; have o4 := hz.o4; go_simp <;> with_reducible rfl)
      simp only [List.setIfInBounds_toArray, List.set_cons_zero, List.set_cons_succ]
      refine takeH (i := 3) (d := 32) (v := ?vq0i3) rfl (by kernel_rfl) (by kernel_rfl) (by kernel_rfl) (fun _ _ _ h => h) rfl (by rfl) ?yq0i3 hS ?rq0i3
      case yq0i3 => (intro wz hz; have o1 := hz.o1; have o2 := hz.o2; have o3 := hz.o3; have o4 := hz.o4; go_simp <;> with_reducible rfl)
      simp only [List.setIfInBounds_toArray, List.set_cons_zero, List.set_cons_succ]
      refine takeH (i := 4) (d := 33) (v := ?vq0i4) rfl (by kernel_rfl) (by kernel_rfl) (by kernel_rfl) (fun _ _ _ h => h) rfl (by rfl) ?yq0i4 hS ?rq0i4
      case yq0i4 => (intro wz hz; have o1 := hz.o1; have o2 := hz.o2; have o3 := hz.o3; have o4 := hz.o4; go_simp <;> with_reducible rfl)
      simp only [List.setIfInBounds_toArray, List.set_cons_zero, List.set_cons_succ]
      refine takeH (i := 5) (d := 34) (v := ?vq0i5) rfl (by kernel_rfl) (by kernel_rfl) (by kernel_rfl) (fun _ _ _ h => h) rfl (by rfl) ?yq0i5 hS ?rq0i5
      case yq0i5 => (intro wz hz; have o1 := hz.o1; have o2 := hz.o2; have o3 := hz.o3; have o4 := hz.o4; go_simp <;> with_reducible rfl)
      simp only [List.setIfInBounds_toArray, List.set_cons_zero, List.set_cons_succ]
      refine takeH (i := 8) (d := 37) (v := ?vq0i8) rfl (by kernel_rfl) (by kernel_rfl) (by kernel_rfl) (fun _ _ _ h => h) rfl (by rfl) ?yq0i8 hS ?rq0i8
      case yq0i8 => (intro wz hz; have o1 := hz.o1; have o2 := hz.o2; have o3 := hz.o3; have o4 := hz.o4; go_simp <;> with_reducible rfl)
      simp only [List.setIfInBounds_toArray, List.set_cons_zero, List.set_cons_succ]
      refine wpAnyH_ready (rs := [6]) (by kernel_rfl) (by simp) ?_
      refine AllReadyH.cons rfl (fun K0 hK => ?_) AllReadyH.nil
      go_simp
      refine (sectors_any (fun _ => False) _ _ _ l _ ((HB.out.below HS.out.below.drew).mono (fun _ _ h => h.elim)) hln).mono ?_
      rintro e w6 ⟨AM, cM, rfl, hoM, hbM⟩
      have HOM := Lib.hid hoM
      have HBM := Lib.hid hbM
      clear hoM hbM
      refine hK.out _ _ (hS.under HBM.out) (fun hT => ?_)
      clear hK hS
      have hS := hT
      clear hT
      have HS6 := Lib.hid (HS.out.drew.under HBM.out)
      refine wpAnyH_ready (rs := [7]) (by kernel_rfl) (by simp) ?_
      refine AllReadyH.cons rfl (fun K0 hK => ?_) AllReadyH.nil
      go_simp
      refine (HPW.out _ HS6.out.below HS6.out.size _ _ (Lz.of_own HOM.out (fun k hk => Nat.lt_of_lt_of_le (HG.out k hk) HS.out.below.size))).mono ?_
      rintro e w7 ⟨rfl, hpl, hm7⟩
      have HPL := Lib.hid hpl
      have HM7 := Lib.hid hm7
      clear hpl hm7
      refine hK.out _ _ (hS.mod HM7.out (fun k hk => HG.out k hk) (by omega)) (fun hT => ?_)
      clear hK hS
      have hS := hT
      clear hT
      have hcode := HC.out
      refine takeH (i := 9) (d := 38) (v := .bool bb) rfl (by kernel_rfl) (by kernel_rfl) (by kernel_rfl) (fun _ _ _ h => h) rfl (by rfl) ?yq0j9 hS ?rq0j9
      case yq0j9 => (intro wz hz; have o1 := hz.o1; have o2 := hz.o2; have o3 := hz.o3; have o4 := hz.o4; go_simp)
      simp only [List.setIfInBounds_toArray, List.set_cons_zero, List.set_cons_succ]
      clear hcode
      refine wpAnyH_ready (rs := [10]) (by kernel_rfl) (by simp) ?_
      refine AllReadyH.cons rfl (fun K0 hK => ?_) AllReadyH.nil
      rw [if_pos (by rfl)]
      refine wp_store_box (.tmp 6) (.tmp 29) rfl rfl (w.heap.size + 2) rfl #[.slice A2 Sr'.length c2, .int .i64 nwr', .int .i64 fu2', .slice K kl.length kc, .bool dnr'] rfl _ (HS6.out.row6 HM7.out (fun k hk => HG.out k hk)) rfl rfl (ref_one _ _ _ _ _ _ _ _ _) ?_
      intro w8 h6 hm8
      have H6 := Lib.hid h6
      have HM8 := Lib.hid hm8
      clear h6 hm8
      refine hK.out _ _ (hS.over HM8.out (by omega)) (fun hT => ?_)
      clear hK hS
      have hS := hT
      clear hT
      refine takeH (i := 11) (d := 7) (v := ?vq0k11) rfl (by kernel_rfl) (by kernel_rfl) (by kernel_rfl) (fun _ _ _ h => h) rfl (by rfl) ?yq0k11 hS ?rq0k11
      case yq0k11 => (intro wz hz; have o1 := hz.o1; have o2 := hz.o2; have o3 := hz.o3; have o4 := hz.o4; go_simp <;> with_reducible rfl)
      simp only [List.setIfInBounds_toArray, List.set_cons_zero, List.set_cons_succ]
      refine wpAnyH_done (by kernel_rfl) ?_ _
      clear hS
      go_wp2_with fail
      refine bodyPost_ret (v := .tuple #[.agg #[.slice A2 Sr'.length c2, .int .i64 nwr', .int .i64 fu2', .slice K kl.length kc, .bool dnr'], .bool bb]) (results_box Try.results10 _ _ _ _ _ rfl H6.out rfl rfl) rfl ?_
      exact do_fin HS.out HBM.out HM7.out HM8.out HPL.out REF5.out HG.out HX.out
  · have b8v := Lib.hid (heap_alloc_new zz (.cells #[.slice none 0 0, .int .i64 0, .int .i64 0, .slice none 0 0, .bool false] 32))
    have hzs := hS.size
    go_simp
    refine hK.out _ _ (hS.alloc _) (fun hT => ?_)
    clear hK hS
    have hS := hT
    clear hT
    refine wpAnyH_ready (rs := [5]) (by kernel_rfl) (by simp) ?_
    refine AllReadyH.cons rfl (fun K0 hK => ?_) AllReadyH.nil
    go_simp
    refine (sectors_any (fun _ => False) _ _ _ l _ ((HB.out.below hS.below).mono (fun _ _ h => h.elim)) hln).mono ?_
    rintro e ws ⟨AL, cL, rfl, hoL, hbL⟩
    have HOL := Lib.hid hoL
    have HBL := Lib.hid hbL
    clear hoL hbL
    refine hK.out _ _ (hS.under HBL.out) (fun hT => ?_)
    clear hK hS
    have hS := hT
    clear hT
    refine wpAnyH_ready (rs := [6]) (by kernel_rfl) (by simp) ?_
    refine AllReadyH.cons rfl (fun K0 hK => ?_) AllReadyH.nil
    go_simp
    refine (HRW.out _ hS.below hS.size _ _ (Lz.of_own HOL.out (fun _ h => h.elim))).mono ?_
    rintro e wt ⟨A2, c2, rfl, href, hbt⟩
    have REF := Lib.hid href
    have HBT := Lib.hid hbt
    clear href hbt
    refine hK.out _ _ (hS.under HBT.out) (fun hT => ?_)
    clear hK hS
    have hS := hT
    clear hT
    refine takeH (i := 7) (d := 19) (v := ?vq0b7) rfl (by kernel_rfl) (by kernel_rfl) (by kernel_rfl) (fun _ _ _ h => h) rfl (by rfl) ?yq0b7 hS ?rq0b7
    case yq0b7 => (intro wz hz; have o1 := hz.o1; have o2 := hz.o2; have o3 := hz.o3; have o4 := hz.o4; go_simp <;> with_reducible rfl)
    simp only [List.setIfInBounds_toArray, List.set_cons_zero, List.set_cons_succ]
    refine takeH (i := 8) (d := 27) (v := ?vq0b8) rfl (by kernel_rfl) (by kernel_rfl) (by kernel_rfl) (fun _ _ _ h => h) rfl (by rfl) ?yq0b8 hS ?rq0b8
    case yq0b8 => (intro wz hz; have o1 := hz.o1; have o2 := hz.o2; have o3 := hz.o3; have o4 := hz.o4; go_simp <;> with_reducible rfl)
    simp only [List.setIfInBounds_toArray, List.set_cons_zero, List.set_cons_succ]
    refine takeH (i := 9) (d := 28) (v := ?vq0b9) rfl (by kernel_rfl) (by kernel_rfl) (by kernel_rfl) (fun _ _ _ h => h) rfl (by rfl) ?yq0b9 hS ?rq0b9
    case yq0b9 => (intro wz hz; have o1 := hz.o1; have o2 := hz.o2; have o3 := hz.o3; have o4 := hz.o4; go_simp <;> with_reducible rfl)
    simp only [List.setIfInBounds_toArray, List.set_cons_zero, List.set_cons_succ]
    refine wpAnyH_ready (rs := [11]) (by kernel_rfl) (by simp) ?_
    refine AllReadyH.cons rfl (fun K0 hK => ?_) AllReadyH.nil
    rw [if_pos (by rfl)]
    refine wp_store_box (.tmp 8) (.tmp 27) rfl rfl zz.heap.size rfl #[.slice A2 Sr'.length c2, .int .i64 nwr', .int .i64 fu2', .slice K kl.length kc, .bool dnr'] rfl _ (row_two b8v.out HBL.out HBT.out (by simp)) rfl rfl (ref_one _ _ _ _ _ _ _ _ _) ?_
    intro w5 h8 hm5
    have H8 := Lib.hid h8
    have REF5 : Hid (RefAt (fun b => X b ∨ b = w.heap.size + 2) w5 A2 c2 K kc Sr' kl) := (REF.out.kept (hm5.mono (fun k _ e => .inr ⟨by omega, by have := HBL.out.size; simp at this; omega⟩))).mono (fun k _ e => e.imp id (fun e => ⟨by omega, by have := HBL.out.size; simp at this; omega⟩))
    have hle := hS.size
    have hS5 := hS.over hm5 (by have := hS.size; first | omega | (simp at *; omega))
    clear h8 hm5
    refine hK.out _ _ (hS5) (fun hT => ?_)
    clear hK hS
    have hS := hT
    clear hT
    refine takeH (i := 12) (d := 9) (v := ?vq0c12) rfl (by kernel_rfl) (by kernel_rfl) (by kernel_rfl) (fun _ _ _ h => h) rfl (by rfl) ?yq0c12 hS ?rq0c12
    case yq0c12 => (intro wz hz; have o1 := hz.o1; have o2 := hz.o2; have o3 := hz.o3; have o4 := hz.o4; go_simp <;> with_reducible rfl)
    simp only [List.setIfInBounds_toArray, List.set_cons_zero, List.set_cons_succ]
    refine wpAnyH_done (by kernel_rfl) ?_ _
    have HS := Lib.hid hS
    clear hS
    go_wp2_with fail
    refine wp_region_held_drew (S := S5 w zz.heap.size #[.int .i64 0, .int .i64 p, .int .i64 N, .slice B n cB, .slice E e1 e2] #[.slice A2 Sr'.length c2, .int .i64 nwr', .int .i64 fu2', .slice K kl.length kc, .bool dnr']) (by kernel_rfl) ⟨HS.out.b5, H8.out⟩ (fun hS => ?_)
    refine takeH (i := 0) (d := 29) (v := .agg #[.slice A2 Sr'.length c2, .int .i64 nwr', .int .i64 fu2', .slice K kl.length kc, .bool dnr']) rfl (by kernel_rfl) (by kernel_rfl) (by kernel_rfl) (fun _ _ _ h => h) rfl (by rfl) ?yq0d0 hS ?rq0d0
    case yq0d0 => (intro wz hz; have o1 := hz.o1; have o2 := hz.o2; have o3 := hz.o3; have o4 := hz.o4; exact exec_box (.tmp 8) rfl _ rfl _ hz.b8 rfl)
    simp only [List.setIfInBounds_toArray, List.set_cons_zero, List.set_cons_succ]
    refine takeH (i := 1) (d := 30) (v := ?vq0d1) rfl (by kernel_rfl) (by kernel_rfl) (by kernel_rfl) (fun _ _ _ h => h) rfl (by rfl) ?yq0d1 hS ?rq0d1
    case yq0d1 => (intro wz hz; have o1 := hz.o1; have o2 := hz.o2; have o3 := hz.o3; have o4 := hz.o4; go_simp <;> with_reducible rfl)
    simp only [List.setIfInBounds_toArray, List.set_cons_zero, List.set_cons_succ]
    refine takeH (i := 2) (d := 31) (v := ?vq0d2) rfl (by kernel_rfl) (by kernel_rfl) (by kernel_rfl) (fun _ _ _ h => h) rfl (by rfl) ?yq0d2 hS ?rq0d2
    case yq0d2 => (intro wz hz; have o1 := hz.o1; have o2 := hz.o2; have o3 := hz.o3; have o4 := hz.o4; go_simp <;> with_reducible rfl)
    simp only [List.setIfInBounds_toArray, List.set_cons_zero, List.set_cons_succ]
    refine takeH (i := 3) (d := 32) (v := ?vq0d3) rfl (by kernel_rfl) (by kernel_rfl) (by kernel_rfl) (fun _ _ _ h => h) rfl (by rfl) ?yq0d3 hS ?rq0d3
    case yq0d3 => (intro wz hz; have o1 := hz.o1; have o2 := hz.o2; have o3 := hz.o3; have o4 := hz.o4; go_simp <;> with_reducible rfl)
    simp only [List.setIfInBounds_toArray, List.set_cons_zero, List.set_cons_succ]
    refine takeH (i := 4) (d := 33) (v := ?vq0d4) rfl (by kernel_rfl) (by kernel_rfl) (by kernel_rfl) (fun _ _ _ h => h) rfl (by rfl) ?yq0d4 hS ?rq0d4
    case yq0d4 => (intro wz hz; have o1 := hz.o1; have o2 := hz.o2; have o3 := hz.o3; have o4 := hz.o4; go_simp <;> with_reducible rfl)
    simp only [List.setIfInBounds_toArray, List.set_cons_zero, List.set_cons_succ]
    refine takeH (i := 5) (d := 34) (v := ?vq0d5) rfl (by kernel_rfl) (by kernel_rfl) (by kernel_rfl) (fun _ _ _ h => h) rfl (by rfl) ?yq0d5 hS ?rq0d5
    case yq0d5 => (intro wz hz; have o1 := hz.o1; have o2 := hz.o2; have o3 := hz.o3; have o4 := hz.o4; go_simp <;> with_reducible rfl)
    simp only [List.setIfInBounds_toArray, List.set_cons_zero, List.set_cons_succ]
    refine takeH (i := 8) (d := 37) (v := ?vq0d8) rfl (by kernel_rfl) (by kernel_rfl) (by kernel_rfl) (fun _ _ _ h => h) rfl (by rfl) ?yq0d8 hS ?rq0d8
    case yq0d8 => (intro wz hz; have o1 := hz.o1; have o2 := hz.o2; have o3 := hz.o3; have o4 := hz.o4; go_simp <;> with_reducible rfl)
    simp only [List.setIfInBounds_toArray, List.set_cons_zero, List.set_cons_succ]
    refine wpAnyH_ready (rs := [6]) (by kernel_rfl) (by simp) ?_
    refine AllReadyH.cons rfl (fun K0 hK => ?_) AllReadyH.nil
    go_simp
    refine (sectors_any (fun _ => False) _ _ _ l _ ((HB.out.below HS.out.below.drew).mono (fun _ _ h => h.elim)) hln).mono ?_
    rintro e w6 ⟨AM, cM, rfl, hoM, hbM⟩
    have HOM := Lib.hid hoM
    have HBM := Lib.hid hbM
    clear hoM hbM
    refine hK.out _ _ (hS.under HBM.out) (fun hT => ?_)
    clear hK hS
    have hS := hT
    clear hT
    have HS6 := Lib.hid (HS.out.drew.under HBM.out)
    refine wpAnyH_ready (rs := [7]) (by kernel_rfl) (by simp) ?_
    refine AllReadyH.cons rfl (fun K0 hK => ?_) AllReadyH.nil
    go_simp
    refine (HPW.out _ HS6.out.below HS6.out.size _ _ (Lz.of_own HOM.out (fun k hk => Nat.lt_of_lt_of_le (HG.out k hk) HS.out.below.size))).mono ?_
    rintro e w7 ⟨rfl, hpl, hm7⟩
    have HPL := Lib.hid hpl
    have HM7 := Lib.hid hm7
    clear hpl hm7
    refine hK.out _ _ (hS.mod HM7.out (fun k hk => HG.out k hk) (by omega)) (fun hT => ?_)
    clear hK hS
    have hS := hT
    clear hT
    have hcode := HC.out
    refine takeH (i := 9) (d := 38) (v := .bool bb) rfl (by kernel_rfl) (by kernel_rfl) (by kernel_rfl) (fun _ _ _ h => h) rfl (by rfl) ?yq0e9 hS ?rq0e9
    case yq0e9 => (intro wz hz; have o1 := hz.o1; have o2 := hz.o2; have o3 := hz.o3; have o4 := hz.o4; go_simp)
    simp only [List.setIfInBounds_toArray, List.set_cons_zero, List.set_cons_succ]
    clear hcode
    refine wpAnyH_ready (rs := [10]) (by kernel_rfl) (by simp) ?_
    refine AllReadyH.cons rfl (fun K0 hK => ?_) AllReadyH.nil
    rw [if_pos (by rfl)]
    refine wp_store_box (.tmp 6) (.tmp 29) rfl rfl (w.heap.size + 2) rfl #[.slice A2 Sr'.length c2, .int .i64 nwr', .int .i64 fu2', .slice K kl.length kc, .bool dnr'] rfl _ (HS6.out.row6 HM7.out (fun k hk => HG.out k hk)) rfl rfl (ref_one _ _ _ _ _ _ _ _ _) ?_
    intro w8 h6 hm8
    have H6 := Lib.hid h6
    have HM8 := Lib.hid hm8
    clear h6 hm8
    refine hK.out _ _ (hS.over HM8.out (by omega)) (fun hT => ?_)
    clear hK hS
    have hS := hT
    clear hT
    refine takeH (i := 11) (d := 7) (v := ?vq0f11) rfl (by kernel_rfl) (by kernel_rfl) (by kernel_rfl) (fun _ _ _ h => h) rfl (by rfl) ?yq0f11 hS ?rq0f11
    case yq0f11 => (intro wz hz; have o1 := hz.o1; have o2 := hz.o2; have o3 := hz.o3; have o4 := hz.o4; go_simp <;> with_reducible rfl)
    simp only [List.setIfInBounds_toArray, List.set_cons_zero, List.set_cons_succ]
    refine wpAnyH_done (by kernel_rfl) ?_ _
    clear hS
    go_wp2_with fail
    refine bodyPost_ret (v := .tuple #[.agg #[.slice A2 Sr'.length c2, .int .i64 nwr', .int .i64 fu2', .slice K kl.length kc, .bool dnr'], .bool bb]) (results_box Try.results10 _ _ _ _ _ rfl H6.out rfl rfl) rfl ?_
    exact do_fin HS.out HBM.out HM7.out HM8.out HPL.out REF5.out HG.out HX.out
set_option maxHeartbeats 8000000 in
set_option maxRecDepth 100000 in
theorem do_write1 (X : Nat → Prop) (g gs : Nat) (w : World) (A : Option Addr) (Sr : List Int) (c : Nat) (nwr fu2 : Int) (K : Option Addr) (kl : List Bool) (kc : Nat) (dnr : Bool) (p N : Int) (B : Option Addr) (n cB : Nat) (E : Option Addr) (e1 e2 : Nat) (l : List Int)
    (codeR codeP : Int) (bb : Bool) (S' Sr' : List Int) (nw' nwr' fu' : Int) (kp' : List Bool) (dn' dnr' : Bool) (fu2' : Int) (hc : (codeP == codeR) = bb)
    (hB : Lz X w 1 B n (IL l)) (hln : n ≤ 100000) (hG : ∀ k, own g gs k → k < w.heap.size) (hX : ∀ k, own g gs k → X k)
    (hRW : ∀ z, Below w.heap.size w z → w.heap.size + 3 ≤ z.heap.size → ∀ Lx cx, Lz (fun _ => False) z 64 Lx l.length (flat l) → Calls Try.prog 25 #[.agg #[.slice A Sr.length c, .int .i64 nwr, .int .i64 fu2, .slice K kl.length kc, .bool dnr], .int .i64 p, .slice Lx l.length cx] z fun e z' =>
      ∃ A2 c2, e = .returned (.tuple #[.agg #[.slice A2 Sr'.length c2, .int .i64 nwr', .int .i64 fu2', .slice K kl.length kc, .bool dnr'], .int .i64 codeR]) ∧ RefAt (fun b => X b ∨ w.heap.size ≤ b ∧ b < z.heap.size) z' A2 c2 K kc Sr' kl ∧ Below z.heap.size z z')
    (hPW : ∀ z, Below w.heap.size w z → w.heap.size + 3 ≤ z.heap.size → ∀ Lx cx, Lz (own g gs) z 64 Lx l.length (flat l) → Calls Try.prog 15 #[.pointer (some ⟨g, 0, none⟩), .int .i64 p, .slice Lx l.length cx] z fun e z' =>
      e = .returned (.int .i64 codeP) ∧ Plat (fun b => X b ∨ b = w.heap.size + 2) z' g gs S' nw' fu' kp' dn' ∧ Mod (own g gs) z z') :
    Calls Try.prog 10 #[.pointer (some ⟨g, 0, none⟩), .agg #[.slice A Sr.length c, .int .i64 nwr, .int .i64 fu2, .slice K kl.length kc, .bool dnr], .agg #[.int .i64 1, .int .i64 p, .int .i64 N, .slice B n cB, .slice E e1 e2]] w (Did X w g gs S' nw' fu' kp' dn' Sr' nwr' fu2' K kl kc dnr' bb) := by
  have HC := Lib.hid hc
  have HB := Lib.hid hB
  have HG := Lib.hid hG
  have HX := Lib.hid hX
  have HRW := Lib.hid hRW
  have HPW := Lib.hid hPW
  have ST := Lib.hid (S4.start w #[.slice A Sr.length c, .int .i64 nwr, .int .i64 fu2, .slice K kl.length kc, .bool dnr] #[.int .i64 1, .int .i64 p, .int .i64 N, .slice B n cB, .slice E e1 e2]).drew
  clear hc hB hG hX hRW hPW
  go_enter Try.func10, Try.ntmps10
  go_wp2_with fail
  refine wp_region_held_drew (S := S4 w #[.slice A Sr.length c, .int .i64 nwr, .int .i64 fu2, .slice K kl.length kc, .bool dnr] #[.int .i64 1, .int .i64 p, .int .i64 N, .slice B n cB, .slice E e1 e2]) (by kernel_rfl) ST.out (fun hS => ?_)
  clear ST
  generalize World.drew _ = zz at hS ⊢
  refine takeH (i := 0) (d := 20) (v := .agg #[.slice A Sr.length c, .int .i64 nwr, .int .i64 fu2, .slice K kl.length kc, .bool dnr]) rfl (by kernel_rfl) (by kernel_rfl) (by kernel_rfl) (fun _ _ _ h => h) rfl (by rfl) ?yq1a0 hS ?rq1a0
  case yq1a0 => (intro wz hz; have o1 := hz.o1; have o2 := hz.o2; have o3 := hz.o3; have o4 := hz.o4; exact exec_box (.tmp 4) rfl _ rfl _ hz.b4 rfl)
  simp only [List.setIfInBounds_toArray, List.set_cons_zero, List.set_cons_succ]
  refine takeH (i := 1) (d := 21) (v := ?vq1a1) rfl (by kernel_rfl) (by kernel_rfl) (by kernel_rfl) (fun _ _ _ h => h) rfl (by rfl) ?yq1a1 hS ?rq1a1
  case yq1a1 => (intro wz hz; have o1 := hz.o1; have o2 := hz.o2; have o3 := hz.o3; have o4 := hz.o4; go_simp <;> with_reducible rfl)
  simp only [List.setIfInBounds_toArray, List.set_cons_zero, List.set_cons_succ]
  refine takeH (i := 2) (d := 22) (v := ?vq1a2) rfl (by kernel_rfl) (by kernel_rfl) (by kernel_rfl) (fun _ _ _ h => h) rfl (by rfl) ?yq1a2 hS ?rq1a2
  case yq1a2 => (intro wz hz; have o1 := hz.o1; have o2 := hz.o2; have o3 := hz.o3; have o4 := hz.o4; go_simp <;> with_reducible rfl)
  simp only [List.setIfInBounds_toArray, List.set_cons_zero, List.set_cons_succ]
  refine takeH (i := 3) (d := 23) (v := ?vq1a3) rfl (by kernel_rfl) (by kernel_rfl) (by kernel_rfl) (fun _ _ _ h => h) rfl (by rfl) ?yq1a3 hS ?rq1a3
  case yq1a3 => (intro wz hz; have o1 := hz.o1; have o2 := hz.o2; have o3 := hz.o3; have o4 := hz.o4; go_simp <;> with_reducible rfl)
  simp only [List.setIfInBounds_toArray, List.set_cons_zero, List.set_cons_succ]
  refine takeH (i := 4) (d := 24) (v := ?vq1a4) rfl (by kernel_rfl) (by kernel_rfl) (by kernel_rfl) (fun _ _ _ h => h) rfl (by rfl) ?yq1a4 hS ?rq1a4
  case yq1a4 => (intro wz hz; have o1 := hz.o1; have o2 := hz.o2; have o3 := hz.o3; have o4 := hz.o4; go_simp <;> with_reducible rfl)
  simp only [List.setIfInBounds_toArray, List.set_cons_zero, List.set_cons_succ]
  refine wpAnyH_ready (rs := [5, 10]) (by kernel_rfl) (by simp) ?_
  refine AllReadyH.cons rfl (fun K0 hK => ?_) (AllReadyH.cons rfl (fun K0 hK => ?_) AllReadyH.nil)
  · go_simp
    refine (sectors_any (fun _ => False) _ _ _ l _ ((HB.out.below hS.below).mono (fun _ _ h => h.elim)) hln).mono ?_
    rintro e ws ⟨AL, cL, rfl, hoL, hbL⟩
    have HOL := Lib.hid hoL
    have HBL := Lib.hid hbL
    clear hoL hbL
    refine hK.out _ _ (hS.under HBL.out) (fun hT => ?_)
    clear hK hS
    have hS := hT
    clear hT
    refine wpAnyH_ready (rs := [6, 10]) (by kernel_rfl) (by simp) ?_
    refine AllReadyH.cons rfl (fun K0 hK => ?_) (AllReadyH.cons rfl (fun K0 hK => ?_) AllReadyH.nil)
    · have hzs0 := hS.size
      go_simp
      refine (HRW.out _ hS.below hS.size _ _ (Lz.of_own HOL.out (fun _ h => h.elim))).mono ?_
      rintro e wt ⟨A2, c2, rfl, href, hbt⟩
      have REF := Lib.hid href
      have HBT := Lib.hid hbt
      clear href hbt
      refine hK.out _ _ (hS.under HBT.out) (fun hT => ?_)
      clear hK hS
      have hS := hT
      clear hT
      refine takeH (i := 7) (d := 19) (v := ?vq1l7) rfl (by kernel_rfl) (by kernel_rfl) (by kernel_rfl) (fun _ _ _ h => h) rfl (by rfl) ?yq1l7 hS ?rq1l7
      case yq1l7 => (intro wz hz; have o1 := hz.o1; have o2 := hz.o2; have o3 := hz.o3; have o4 := hz.o4; go_simp <;> with_reducible rfl)
      simp only [List.setIfInBounds_toArray, List.set_cons_zero, List.set_cons_succ]
      refine takeH (i := 8) (d := 27) (v := ?vq1l8) rfl (by kernel_rfl) (by kernel_rfl) (by kernel_rfl) (fun _ _ _ h => h) rfl (by rfl) ?yq1l8 hS ?rq1l8
      case yq1l8 => (intro wz hz; have o1 := hz.o1; have o2 := hz.o2; have o3 := hz.o3; have o4 := hz.o4; go_simp <;> with_reducible rfl)
      simp only [List.setIfInBounds_toArray, List.set_cons_zero, List.set_cons_succ]
      refine takeH (i := 9) (d := 28) (v := ?vq1l9) rfl (by kernel_rfl) (by kernel_rfl) (by kernel_rfl) (fun _ _ _ h => h) rfl (by rfl) ?yq1l9 hS ?rq1l9
      case yq1l9 => (intro wz hz; have o1 := hz.o1; have o2 := hz.o2; have o3 := hz.o3; have o4 := hz.o4; go_simp <;> with_reducible rfl)
      simp only [List.setIfInBounds_toArray, List.set_cons_zero, List.set_cons_succ]
      have hzs := hS.size
      have b8v := Lib.hid (heap_alloc_new wt (.cells #[.slice none 0 0, .int .i64 0, .int .i64 0, .slice none 0 0, .bool false] 32))
      refine wpAnyH_ready (rs := [10]) (by kernel_rfl) (by simp) ?_
      refine AllReadyH.cons rfl (fun K0 hK => ?_) AllReadyH.nil
      go_simp
      refine hK.out _ _ (hS.alloc _) (fun hT => ?_)
      clear hK hS
      have hS := hT
      clear hT
      refine wpAnyH_ready (rs := [11]) (by kernel_rfl) (by simp) ?_
      refine AllReadyH.cons rfl (fun K0 hK => ?_) AllReadyH.nil
      rw [if_pos (by rfl)]
      refine wp_store_box (.tmp 8) (.tmp 27) rfl rfl wt.heap.size rfl #[.slice A2 Sr'.length c2, .int .i64 nwr', .int .i64 fu2', .slice K kl.length kc, .bool dnr'] rfl _ b8v.out rfl rfl (ref_one _ _ _ _ _ _ _ _ _) ?_
      intro w5 h8 hm5
      have H8 := Lib.hid h8
      have REF5 : Hid (RefAt (fun b => X b ∨ b = w.heap.size + 2) w5 A2 c2 K kc Sr' kl) := (REF.out.kept (mod_new hm5)).mono (fun k _ e => e.imp id (fun e => ⟨by omega, by omega⟩))
      have hle := hS.size
      have hS5 := hS.over hm5 (by have := hS.size; first | omega | (simp at *; omega))
      clear h8 hm5
      refine hK.out _ _ (hS5) (fun hT => ?_)
      clear hK hS
      have hS := hT
      clear hT
      refine takeH (i := 12) (d := 9) (v := ?vq1m12) rfl (by kernel_rfl) (by kernel_rfl) (by kernel_rfl) (fun _ _ _ h => h) rfl (by rfl) ?yq1m12 hS ?rq1m12
      case yq1m12 => (intro wz hz; have o1 := hz.o1; have o2 := hz.o2; have o3 := hz.o3; have o4 := hz.o4; go_simp <;> with_reducible rfl)
      simp only [List.setIfInBounds_toArray, List.set_cons_zero, List.set_cons_succ]
      refine wpAnyH_done (by kernel_rfl) ?_ _
      have HS := Lib.hid hS
      clear hS
      go_wp2_with fail
      refine wp_region_held_drew (S := S5 w wt.heap.size #[.int .i64 1, .int .i64 p, .int .i64 N, .slice B n cB, .slice E e1 e2] #[.slice A2 Sr'.length c2, .int .i64 nwr', .int .i64 fu2', .slice K kl.length kc, .bool dnr']) (by kernel_rfl) ⟨HS.out.b5, H8.out⟩ (fun hS => ?_)
      refine takeH (i := 0) (d := 29) (v := .agg #[.slice A2 Sr'.length c2, .int .i64 nwr', .int .i64 fu2', .slice K kl.length kc, .bool dnr']) rfl (by kernel_rfl) (by kernel_rfl) (by kernel_rfl) (fun _ _ _ h => h) rfl (by rfl) ?yq1n0 hS ?rq1n0
      case yq1n0 => (intro wz hz; have o1 := hz.o1; have o2 := hz.o2; have o3 := hz.o3; have o4 := hz.o4; exact exec_box (.tmp 8) rfl _ rfl _ hz.b8 rfl)
      simp only [List.setIfInBounds_toArray, List.set_cons_zero, List.set_cons_succ]
      refine takeH (i := 1) (d := 30) (v := ?vq1n1) rfl (by kernel_rfl) (by kernel_rfl) (by kernel_rfl) (fun _ _ _ h => h) rfl (by rfl) ?yq1n1 hS ?rq1n1
      case yq1n1 => (intro wz hz; have o1 := hz.o1; have o2 := hz.o2; have o3 := hz.o3; have o4 := hz.o4; go_simp <;> with_reducible rfl)
      simp only [List.setIfInBounds_toArray, List.set_cons_zero, List.set_cons_succ]
      refine takeH (i := 2) (d := 31) (v := ?vq1n2) rfl (by kernel_rfl) (by kernel_rfl) (by kernel_rfl) (fun _ _ _ h => h) rfl (by rfl) ?yq1n2 hS ?rq1n2
      case yq1n2 => (intro wz hz; have o1 := hz.o1; have o2 := hz.o2; have o3 := hz.o3; have o4 := hz.o4; go_simp <;> with_reducible rfl)
      simp only [List.setIfInBounds_toArray, List.set_cons_zero, List.set_cons_succ]
      refine takeH (i := 3) (d := 32) (v := ?vq1n3) rfl (by kernel_rfl) (by kernel_rfl) (by kernel_rfl) (fun _ _ _ h => h) rfl (by rfl) ?yq1n3 hS ?rq1n3
      case yq1n3 => (intro wz hz; have o1 := hz.o1; have o2 := hz.o2; have o3 := hz.o3; have o4 := hz.o4; go_simp <;> with_reducible rfl)
      simp only [List.setIfInBounds_toArray, List.set_cons_zero, List.set_cons_succ]
      refine takeH (i := 4) (d := 33) (v := ?vq1n4) rfl (by kernel_rfl) (by kernel_rfl) (by kernel_rfl) (fun _ _ _ h => h) rfl (by rfl) ?yq1n4 hS ?rq1n4
      case yq1n4 => (intro wz hz; have o1 := hz.o1; have o2 := hz.o2; have o3 := hz.o3; have o4 := hz.o4; go_simp <;> with_reducible rfl)
      simp only [List.setIfInBounds_toArray, List.set_cons_zero, List.set_cons_succ]
      refine takeH (i := 5) (d := 34) (v := ?vq1n5) rfl (by kernel_rfl) (by kernel_rfl) (by kernel_rfl) (fun _ _ _ h => h) rfl (by rfl) ?yq1n5 hS ?rq1n5
      case yq1n5 => (intro wz hz; have o1 := hz.o1; have o2 := hz.o2; have o3 := hz.o3; have o4 := hz.o4; go_simp <;> with_reducible rfl)
      simp only [List.setIfInBounds_toArray, List.set_cons_zero, List.set_cons_succ]
      refine takeH (i := 8) (d := 37) (v := ?vq1n8) rfl (by kernel_rfl) (by kernel_rfl) (by kernel_rfl) (fun _ _ _ h => h) rfl (by rfl) ?yq1n8 hS ?rq1n8
      case yq1n8 => (intro wz hz; have o1 := hz.o1; have o2 := hz.o2; have o3 := hz.o3; have o4 := hz.o4; go_simp <;> with_reducible rfl)
      simp only [List.setIfInBounds_toArray, List.set_cons_zero, List.set_cons_succ]
      refine wpAnyH_ready (rs := [6]) (by kernel_rfl) (by simp) ?_
      refine AllReadyH.cons rfl (fun K0 hK => ?_) AllReadyH.nil
      go_simp
      refine (sectors_any (fun _ => False) _ _ _ l _ ((HB.out.below HS.out.below.drew).mono (fun _ _ h => h.elim)) hln).mono ?_
      rintro e w6 ⟨AM, cM, rfl, hoM, hbM⟩
      have HOM := Lib.hid hoM
      have HBM := Lib.hid hbM
      clear hoM hbM
      refine hK.out _ _ (hS.under HBM.out) (fun hT => ?_)
      clear hK hS
      have hS := hT
      clear hT
      have HS6 := Lib.hid (HS.out.drew.under HBM.out)
      refine wpAnyH_ready (rs := [7]) (by kernel_rfl) (by simp) ?_
      refine AllReadyH.cons rfl (fun K0 hK => ?_) AllReadyH.nil
      go_simp
      refine (HPW.out _ HS6.out.below HS6.out.size _ _ (Lz.of_own HOM.out (fun k hk => Nat.lt_of_lt_of_le (HG.out k hk) HS.out.below.size))).mono ?_
      rintro e w7 ⟨rfl, hpl, hm7⟩
      have HPL := Lib.hid hpl
      have HM7 := Lib.hid hm7
      clear hpl hm7
      refine hK.out _ _ (hS.mod HM7.out (fun k hk => HG.out k hk) (by omega)) (fun hT => ?_)
      clear hK hS
      have hS := hT
      clear hT
      have hcode := HC.out
      refine takeH (i := 9) (d := 38) (v := .bool bb) rfl (by kernel_rfl) (by kernel_rfl) (by kernel_rfl) (fun _ _ _ h => h) rfl (by rfl) ?yq1o9 hS ?rq1o9
      case yq1o9 => (intro wz hz; have o1 := hz.o1; have o2 := hz.o2; have o3 := hz.o3; have o4 := hz.o4; go_simp)
      simp only [List.setIfInBounds_toArray, List.set_cons_zero, List.set_cons_succ]
      clear hcode
      refine wpAnyH_ready (rs := [10]) (by kernel_rfl) (by simp) ?_
      refine AllReadyH.cons rfl (fun K0 hK => ?_) AllReadyH.nil
      rw [if_pos (by rfl)]
      refine wp_store_box (.tmp 6) (.tmp 29) rfl rfl (w.heap.size + 2) rfl #[.slice A2 Sr'.length c2, .int .i64 nwr', .int .i64 fu2', .slice K kl.length kc, .bool dnr'] rfl _ (HS6.out.row6 HM7.out (fun k hk => HG.out k hk)) rfl rfl (ref_one _ _ _ _ _ _ _ _ _) ?_
      intro w8 h6 hm8
      have H6 := Lib.hid h6
      have HM8 := Lib.hid hm8
      clear h6 hm8
      refine hK.out _ _ (hS.over HM8.out (by omega)) (fun hT => ?_)
      clear hK hS
      have hS := hT
      clear hT
      refine takeH (i := 11) (d := 7) (v := ?vq1p11) rfl (by kernel_rfl) (by kernel_rfl) (by kernel_rfl) (fun _ _ _ h => h) rfl (by rfl) ?yq1p11 hS ?rq1p11
      case yq1p11 => (intro wz hz; have o1 := hz.o1; have o2 := hz.o2; have o3 := hz.o3; have o4 := hz.o4; go_simp <;> with_reducible rfl)
      simp only [List.setIfInBounds_toArray, List.set_cons_zero, List.set_cons_succ]
      refine wpAnyH_done (by kernel_rfl) ?_ _
      clear hS
      go_wp2_with fail
      refine bodyPost_ret (v := .tuple #[.agg #[.slice A2 Sr'.length c2, .int .i64 nwr', .int .i64 fu2', .slice K kl.length kc, .bool dnr'], .bool bb]) (results_box Try.results10 _ _ _ _ _ rfl H6.out rfl rfl) rfl ?_
      exact do_fin HS.out HBM.out HM7.out HM8.out HPL.out REF5.out HG.out HX.out
    · have b8v := Lib.hid (heap_alloc_new ws (.cells #[.slice none 0 0, .int .i64 0, .int .i64 0, .slice none 0 0, .bool false] 32))
      have hzs := hS.size
      go_simp
      refine hK.out _ _ (hS.alloc _) (fun hT => ?_)
      clear hK hS
      have hS := hT
      clear hT
      refine wpAnyH_ready (rs := [6]) (by kernel_rfl) (by simp) ?_
      refine AllReadyH.cons rfl (fun K0 hK => ?_) AllReadyH.nil
      go_simp
      refine (HRW.out _ hS.below hS.size _ _ ((Lz.of_own HOL.out (fun _ h => h.elim)).alloc _)).mono ?_
      rintro e wt ⟨A2, c2, rfl, href, hbt⟩
      have REF := Lib.hid href
      have HBT := Lib.hid hbt
      clear href hbt
      refine hK.out _ _ (hS.under HBT.out) (fun hT => ?_)
      clear hK hS
      have hS := hT
      clear hT
      refine takeH (i := 7) (d := 19) (v := ?vq1g7) rfl (by kernel_rfl) (by kernel_rfl) (by kernel_rfl) (fun _ _ _ h => h) rfl (by rfl) ?yq1g7 hS ?rq1g7
      case yq1g7 => (intro wz hz; have o1 := hz.o1; have o2 := hz.o2; have o3 := hz.o3; have o4 := hz.o4; go_simp <;> with_reducible rfl)
      simp only [List.setIfInBounds_toArray, List.set_cons_zero, List.set_cons_succ]
      refine takeH (i := 8) (d := 27) (v := ?vq1g8) rfl (by kernel_rfl) (by kernel_rfl) (by kernel_rfl) (fun _ _ _ h => h) rfl (by rfl) ?yq1g8 hS ?rq1g8
      case yq1g8 => (intro wz hz; have o1 := hz.o1; have o2 := hz.o2; have o3 := hz.o3; have o4 := hz.o4; go_simp <;> with_reducible rfl)
      simp only [List.setIfInBounds_toArray, List.set_cons_zero, List.set_cons_succ]
      refine takeH (i := 9) (d := 28) (v := ?vq1g9) rfl (by kernel_rfl) (by kernel_rfl) (by kernel_rfl) (fun _ _ _ h => h) rfl (by rfl) ?yq1g9 hS ?rq1g9
      case yq1g9 => (intro wz hz; have o1 := hz.o1; have o2 := hz.o2; have o3 := hz.o3; have o4 := hz.o4; go_simp <;> with_reducible rfl)
      simp only [List.setIfInBounds_toArray, List.set_cons_zero, List.set_cons_succ]
      refine wpAnyH_ready (rs := [11]) (by kernel_rfl) (by simp) ?_
      refine AllReadyH.cons rfl (fun K0 hK => ?_) AllReadyH.nil
      rw [if_pos (by rfl)]
      refine wp_store_box (.tmp 8) (.tmp 27) rfl rfl ws.heap.size rfl #[.slice A2 Sr'.length c2, .int .i64 nwr', .int .i64 fu2', .slice K kl.length kc, .bool dnr'] rfl _ (row_one b8v.out HBT.out (by simp)) rfl rfl (ref_one _ _ _ _ _ _ _ _ _) ?_
      intro w5 h8 hm5
      have H8 := Lib.hid h8
      have REF5 : Hid (RefAt (fun b => X b ∨ b = w.heap.size + 2) w5 A2 c2 K kc Sr' kl) := (REF.out.kept (hm5.mono (fun k _ e => .inr ⟨by omega, by simp; omega⟩))).mono (fun k _ e => e.imp id (fun e => ⟨by omega, by simp; omega⟩))
      have hle := hS.size
      have hS5 := hS.over hm5 (by have := hS.size; first | omega | (simp at *; omega))
      clear h8 hm5
      refine hK.out _ _ (hS5) (fun hT => ?_)
      clear hK hS
      have hS := hT
      clear hT
      refine takeH (i := 12) (d := 9) (v := ?vq1h12) rfl (by kernel_rfl) (by kernel_rfl) (by kernel_rfl) (fun _ _ _ h => h) rfl (by rfl) ?yq1h12 hS ?rq1h12
      case yq1h12 => (intro wz hz; have o1 := hz.o1; have o2 := hz.o2; have o3 := hz.o3; have o4 := hz.o4; go_simp <;> with_reducible rfl)
      simp only [List.setIfInBounds_toArray, List.set_cons_zero, List.set_cons_succ]
      refine wpAnyH_done (by kernel_rfl) ?_ _
      have HS := Lib.hid hS
      clear hS
      go_wp2_with fail
      refine wp_region_held_drew (S := S5 w ws.heap.size #[.int .i64 1, .int .i64 p, .int .i64 N, .slice B n cB, .slice E e1 e2] #[.slice A2 Sr'.length c2, .int .i64 nwr', .int .i64 fu2', .slice K kl.length kc, .bool dnr']) (by kernel_rfl) ⟨HS.out.b5, H8.out⟩ (fun hS => ?_)
      refine takeH (i := 0) (d := 29) (v := .agg #[.slice A2 Sr'.length c2, .int .i64 nwr', .int .i64 fu2', .slice K kl.length kc, .bool dnr']) rfl (by kernel_rfl) (by kernel_rfl) (by kernel_rfl) (fun _ _ _ h => h) rfl (by rfl) ?yq1i0 hS ?rq1i0
      case yq1i0 => (intro wz hz; have o1 := hz.o1; have o2 := hz.o2; have o3 := hz.o3; have o4 := hz.o4; exact exec_box (.tmp 8) rfl _ rfl _ hz.b8 rfl)
      simp only [List.setIfInBounds_toArray, List.set_cons_zero, List.set_cons_succ]
      refine takeH (i := 1) (d := 30) (v := ?vq1i1) rfl (by kernel_rfl) (by kernel_rfl) (by kernel_rfl) (fun _ _ _ h => h) rfl (by rfl) ?yq1i1 hS ?rq1i1
      case yq1i1 => (intro wz hz; have o1 := hz.o1; have o2 := hz.o2; have o3 := hz.o3; have o4 := hz.o4; go_simp <;> with_reducible rfl)
      simp only [List.setIfInBounds_toArray, List.set_cons_zero, List.set_cons_succ]
      refine takeH (i := 2) (d := 31) (v := ?vq1i2) rfl (by kernel_rfl) (by kernel_rfl) (by kernel_rfl) (fun _ _ _ h => h) rfl (by rfl) ?yq1i2 hS ?rq1i2
      case yq1i2 => (intro wz hz; have o1 := hz.o1; have o2 := hz.o2; have o3 := hz.o3; have o4 := hz.o4; go_simp <;> with_reducible rfl)
      simp only [List.setIfInBounds_toArray, List.set_cons_zero, List.set_cons_succ]
      refine takeH (i := 3) (d := 32) (v := ?vq1i3) rfl (by kernel_rfl) (by kernel_rfl) (by kernel_rfl) (fun _ _ _ h => h) rfl (by rfl) ?yq1i3 hS ?rq1i3
      case yq1i3 => (intro wz hz; have o1 := hz.o1; have o2 := hz.o2; have o3 := hz.o3; have o4 := hz.o4; go_simp <;> with_reducible rfl)
      simp only [List.setIfInBounds_toArray, List.set_cons_zero, List.set_cons_succ]
      refine takeH (i := 4) (d := 33) (v := ?vq1i4) rfl (by kernel_rfl) (by kernel_rfl) (by kernel_rfl) (fun _ _ _ h => h) rfl (by rfl) ?yq1i4 hS ?rq1i4
      case yq1i4 => (intro wz hz; have o1 := hz.o1; have o2 := hz.o2; have o3 := hz.o3; have o4 := hz.o4; go_simp <;> with_reducible rfl)
      simp only [List.setIfInBounds_toArray, List.set_cons_zero, List.set_cons_succ]
      refine takeH (i := 5) (d := 34) (v := ?vq1i5) rfl (by kernel_rfl) (by kernel_rfl) (by kernel_rfl) (fun _ _ _ h => h) rfl (by rfl) ?yq1i5 hS ?rq1i5
      case yq1i5 => (intro wz hz; have o1 := hz.o1; have o2 := hz.o2; have o3 := hz.o3; have o4 := hz.o4; go_simp <;> with_reducible rfl)
      simp only [List.setIfInBounds_toArray, List.set_cons_zero, List.set_cons_succ]
      refine takeH (i := 8) (d := 37) (v := ?vq1i8) rfl (by kernel_rfl) (by kernel_rfl) (by kernel_rfl) (fun _ _ _ h => h) rfl (by rfl) ?yq1i8 hS ?rq1i8
      case yq1i8 => (intro wz hz; have o1 := hz.o1; have o2 := hz.o2; have o3 := hz.o3; have o4 := hz.o4; go_simp <;> with_reducible rfl)
      simp only [List.setIfInBounds_toArray, List.set_cons_zero, List.set_cons_succ]
      refine wpAnyH_ready (rs := [6]) (by kernel_rfl) (by simp) ?_
      refine AllReadyH.cons rfl (fun K0 hK => ?_) AllReadyH.nil
      go_simp
      refine (sectors_any (fun _ => False) _ _ _ l _ ((HB.out.below HS.out.below.drew).mono (fun _ _ h => h.elim)) hln).mono ?_
      rintro e w6 ⟨AM, cM, rfl, hoM, hbM⟩
      have HOM := Lib.hid hoM
      have HBM := Lib.hid hbM
      clear hoM hbM
      refine hK.out _ _ (hS.under HBM.out) (fun hT => ?_)
      clear hK hS
      have hS := hT
      clear hT
      have HS6 := Lib.hid (HS.out.drew.under HBM.out)
      refine wpAnyH_ready (rs := [7]) (by kernel_rfl) (by simp) ?_
      refine AllReadyH.cons rfl (fun K0 hK => ?_) AllReadyH.nil
      go_simp
      refine (HPW.out _ HS6.out.below HS6.out.size _ _ (Lz.of_own HOM.out (fun k hk => Nat.lt_of_lt_of_le (HG.out k hk) HS.out.below.size))).mono ?_
      rintro e w7 ⟨rfl, hpl, hm7⟩
      have HPL := Lib.hid hpl
      have HM7 := Lib.hid hm7
      clear hpl hm7
      refine hK.out _ _ (hS.mod HM7.out (fun k hk => HG.out k hk) (by omega)) (fun hT => ?_)
      clear hK hS
      have hS := hT
      clear hT
      have hcode := HC.out
      refine takeH (i := 9) (d := 38) (v := .bool bb) rfl (by kernel_rfl) (by kernel_rfl) (by kernel_rfl) (fun _ _ _ h => h) rfl (by rfl) ?yq1j9 hS ?rq1j9
      case yq1j9 => (intro wz hz; have o1 := hz.o1; have o2 := hz.o2; have o3 := hz.o3; have o4 := hz.o4; go_simp)
      simp only [List.setIfInBounds_toArray, List.set_cons_zero, List.set_cons_succ]
      clear hcode
      refine wpAnyH_ready (rs := [10]) (by kernel_rfl) (by simp) ?_
      refine AllReadyH.cons rfl (fun K0 hK => ?_) AllReadyH.nil
      rw [if_pos (by rfl)]
      refine wp_store_box (.tmp 6) (.tmp 29) rfl rfl (w.heap.size + 2) rfl #[.slice A2 Sr'.length c2, .int .i64 nwr', .int .i64 fu2', .slice K kl.length kc, .bool dnr'] rfl _ (HS6.out.row6 HM7.out (fun k hk => HG.out k hk)) rfl rfl (ref_one _ _ _ _ _ _ _ _ _) ?_
      intro w8 h6 hm8
      have H6 := Lib.hid h6
      have HM8 := Lib.hid hm8
      clear h6 hm8
      refine hK.out _ _ (hS.over HM8.out (by omega)) (fun hT => ?_)
      clear hK hS
      have hS := hT
      clear hT
      refine takeH (i := 11) (d := 7) (v := ?vq1k11) rfl (by kernel_rfl) (by kernel_rfl) (by kernel_rfl) (fun _ _ _ h => h) rfl (by rfl) ?yq1k11 hS ?rq1k11
      case yq1k11 => (intro wz hz; have o1 := hz.o1; have o2 := hz.o2; have o3 := hz.o3; have o4 := hz.o4; go_simp <;> with_reducible rfl)
      simp only [List.setIfInBounds_toArray, List.set_cons_zero, List.set_cons_succ]
      refine wpAnyH_done (by kernel_rfl) ?_ _
      clear hS
      go_wp2_with fail
      refine bodyPost_ret (v := .tuple #[.agg #[.slice A2 Sr'.length c2, .int .i64 nwr', .int .i64 fu2', .slice K kl.length kc, .bool dnr'], .bool bb]) (results_box Try.results10 _ _ _ _ _ rfl H6.out rfl rfl) rfl ?_
      exact do_fin HS.out HBM.out HM7.out HM8.out HPL.out REF5.out HG.out HX.out
  · have b8v := Lib.hid (heap_alloc_new zz (.cells #[.slice none 0 0, .int .i64 0, .int .i64 0, .slice none 0 0, .bool false] 32))
    have hzs := hS.size
    go_simp
    refine hK.out _ _ (hS.alloc _) (fun hT => ?_)
    clear hK hS
    have hS := hT
    clear hT
    refine wpAnyH_ready (rs := [5]) (by kernel_rfl) (by simp) ?_
    refine AllReadyH.cons rfl (fun K0 hK => ?_) AllReadyH.nil
    go_simp
    refine (sectors_any (fun _ => False) _ _ _ l _ ((HB.out.below hS.below).mono (fun _ _ h => h.elim)) hln).mono ?_
    rintro e ws ⟨AL, cL, rfl, hoL, hbL⟩
    have HOL := Lib.hid hoL
    have HBL := Lib.hid hbL
    clear hoL hbL
    refine hK.out _ _ (hS.under HBL.out) (fun hT => ?_)
    clear hK hS
    have hS := hT
    clear hT
    refine wpAnyH_ready (rs := [6]) (by kernel_rfl) (by simp) ?_
    refine AllReadyH.cons rfl (fun K0 hK => ?_) AllReadyH.nil
    go_simp
    refine (HRW.out _ hS.below hS.size _ _ (Lz.of_own HOL.out (fun _ h => h.elim))).mono ?_
    rintro e wt ⟨A2, c2, rfl, href, hbt⟩
    have REF := Lib.hid href
    have HBT := Lib.hid hbt
    clear href hbt
    refine hK.out _ _ (hS.under HBT.out) (fun hT => ?_)
    clear hK hS
    have hS := hT
    clear hT
    refine takeH (i := 7) (d := 19) (v := ?vq1b7) rfl (by kernel_rfl) (by kernel_rfl) (by kernel_rfl) (fun _ _ _ h => h) rfl (by rfl) ?yq1b7 hS ?rq1b7
    case yq1b7 => (intro wz hz; have o1 := hz.o1; have o2 := hz.o2; have o3 := hz.o3; have o4 := hz.o4; go_simp <;> with_reducible rfl)
    simp only [List.setIfInBounds_toArray, List.set_cons_zero, List.set_cons_succ]
    refine takeH (i := 8) (d := 27) (v := ?vq1b8) rfl (by kernel_rfl) (by kernel_rfl) (by kernel_rfl) (fun _ _ _ h => h) rfl (by rfl) ?yq1b8 hS ?rq1b8
    case yq1b8 => (intro wz hz; have o1 := hz.o1; have o2 := hz.o2; have o3 := hz.o3; have o4 := hz.o4; go_simp <;> with_reducible rfl)
    simp only [List.setIfInBounds_toArray, List.set_cons_zero, List.set_cons_succ]
    refine takeH (i := 9) (d := 28) (v := ?vq1b9) rfl (by kernel_rfl) (by kernel_rfl) (by kernel_rfl) (fun _ _ _ h => h) rfl (by rfl) ?yq1b9 hS ?rq1b9
    case yq1b9 => (intro wz hz; have o1 := hz.o1; have o2 := hz.o2; have o3 := hz.o3; have o4 := hz.o4; go_simp <;> with_reducible rfl)
    simp only [List.setIfInBounds_toArray, List.set_cons_zero, List.set_cons_succ]
    refine wpAnyH_ready (rs := [11]) (by kernel_rfl) (by simp) ?_
    refine AllReadyH.cons rfl (fun K0 hK => ?_) AllReadyH.nil
    rw [if_pos (by rfl)]
    refine wp_store_box (.tmp 8) (.tmp 27) rfl rfl zz.heap.size rfl #[.slice A2 Sr'.length c2, .int .i64 nwr', .int .i64 fu2', .slice K kl.length kc, .bool dnr'] rfl _ (row_two b8v.out HBL.out HBT.out (by simp)) rfl rfl (ref_one _ _ _ _ _ _ _ _ _) ?_
    intro w5 h8 hm5
    have H8 := Lib.hid h8
    have REF5 : Hid (RefAt (fun b => X b ∨ b = w.heap.size + 2) w5 A2 c2 K kc Sr' kl) := (REF.out.kept (hm5.mono (fun k _ e => .inr ⟨by omega, by have := HBL.out.size; simp at this; omega⟩))).mono (fun k _ e => e.imp id (fun e => ⟨by omega, by have := HBL.out.size; simp at this; omega⟩))
    have hle := hS.size
    have hS5 := hS.over hm5 (by have := hS.size; first | omega | (simp at *; omega))
    clear h8 hm5
    refine hK.out _ _ (hS5) (fun hT => ?_)
    clear hK hS
    have hS := hT
    clear hT
    refine takeH (i := 12) (d := 9) (v := ?vq1c12) rfl (by kernel_rfl) (by kernel_rfl) (by kernel_rfl) (fun _ _ _ h => h) rfl (by rfl) ?yq1c12 hS ?rq1c12
    case yq1c12 => (intro wz hz; have o1 := hz.o1; have o2 := hz.o2; have o3 := hz.o3; have o4 := hz.o4; go_simp <;> with_reducible rfl)
    simp only [List.setIfInBounds_toArray, List.set_cons_zero, List.set_cons_succ]
    refine wpAnyH_done (by kernel_rfl) ?_ _
    have HS := Lib.hid hS
    clear hS
    go_wp2_with fail
    refine wp_region_held_drew (S := S5 w zz.heap.size #[.int .i64 1, .int .i64 p, .int .i64 N, .slice B n cB, .slice E e1 e2] #[.slice A2 Sr'.length c2, .int .i64 nwr', .int .i64 fu2', .slice K kl.length kc, .bool dnr']) (by kernel_rfl) ⟨HS.out.b5, H8.out⟩ (fun hS => ?_)
    refine takeH (i := 0) (d := 29) (v := .agg #[.slice A2 Sr'.length c2, .int .i64 nwr', .int .i64 fu2', .slice K kl.length kc, .bool dnr']) rfl (by kernel_rfl) (by kernel_rfl) (by kernel_rfl) (fun _ _ _ h => h) rfl (by rfl) ?yq1d0 hS ?rq1d0
    case yq1d0 => (intro wz hz; have o1 := hz.o1; have o2 := hz.o2; have o3 := hz.o3; have o4 := hz.o4; exact exec_box (.tmp 8) rfl _ rfl _ hz.b8 rfl)
    simp only [List.setIfInBounds_toArray, List.set_cons_zero, List.set_cons_succ]
    refine takeH (i := 1) (d := 30) (v := ?vq1d1) rfl (by kernel_rfl) (by kernel_rfl) (by kernel_rfl) (fun _ _ _ h => h) rfl (by rfl) ?yq1d1 hS ?rq1d1
    case yq1d1 => (intro wz hz; have o1 := hz.o1; have o2 := hz.o2; have o3 := hz.o3; have o4 := hz.o4; go_simp <;> with_reducible rfl)
    simp only [List.setIfInBounds_toArray, List.set_cons_zero, List.set_cons_succ]
    refine takeH (i := 2) (d := 31) (v := ?vq1d2) rfl (by kernel_rfl) (by kernel_rfl) (by kernel_rfl) (fun _ _ _ h => h) rfl (by rfl) ?yq1d2 hS ?rq1d2
    case yq1d2 => (intro wz hz; have o1 := hz.o1; have o2 := hz.o2; have o3 := hz.o3; have o4 := hz.o4; go_simp <;> with_reducible rfl)
    simp only [List.setIfInBounds_toArray, List.set_cons_zero, List.set_cons_succ]
    refine takeH (i := 3) (d := 32) (v := ?vq1d3) rfl (by kernel_rfl) (by kernel_rfl) (by kernel_rfl) (fun _ _ _ h => h) rfl (by rfl) ?yq1d3 hS ?rq1d3
    case yq1d3 => (intro wz hz; have o1 := hz.o1; have o2 := hz.o2; have o3 := hz.o3; have o4 := hz.o4; go_simp <;> with_reducible rfl)
    simp only [List.setIfInBounds_toArray, List.set_cons_zero, List.set_cons_succ]
    refine takeH (i := 4) (d := 33) (v := ?vq1d4) rfl (by kernel_rfl) (by kernel_rfl) (by kernel_rfl) (fun _ _ _ h => h) rfl (by rfl) ?yq1d4 hS ?rq1d4
    case yq1d4 => (intro wz hz; have o1 := hz.o1; have o2 := hz.o2; have o3 := hz.o3; have o4 := hz.o4; go_simp <;> with_reducible rfl)
    simp only [List.setIfInBounds_toArray, List.set_cons_zero, List.set_cons_succ]
    refine takeH (i := 5) (d := 34) (v := ?vq1d5) rfl (by kernel_rfl) (by kernel_rfl) (by kernel_rfl) (fun _ _ _ h => h) rfl (by rfl) ?yq1d5 hS ?rq1d5
    case yq1d5 => (intro wz hz; have o1 := hz.o1; have o2 := hz.o2; have o3 := hz.o3; have o4 := hz.o4; go_simp <;> with_reducible rfl)
    simp only [List.setIfInBounds_toArray, List.set_cons_zero, List.set_cons_succ]
    refine takeH (i := 8) (d := 37) (v := ?vq1d8) rfl (by kernel_rfl) (by kernel_rfl) (by kernel_rfl) (fun _ _ _ h => h) rfl (by rfl) ?yq1d8 hS ?rq1d8
    case yq1d8 => (intro wz hz; have o1 := hz.o1; have o2 := hz.o2; have o3 := hz.o3; have o4 := hz.o4; go_simp <;> with_reducible rfl)
    simp only [List.setIfInBounds_toArray, List.set_cons_zero, List.set_cons_succ]
    refine wpAnyH_ready (rs := [6]) (by kernel_rfl) (by simp) ?_
    refine AllReadyH.cons rfl (fun K0 hK => ?_) AllReadyH.nil
    go_simp
    refine (sectors_any (fun _ => False) _ _ _ l _ ((HB.out.below HS.out.below.drew).mono (fun _ _ h => h.elim)) hln).mono ?_
    rintro e w6 ⟨AM, cM, rfl, hoM, hbM⟩
    have HOM := Lib.hid hoM
    have HBM := Lib.hid hbM
    clear hoM hbM
    refine hK.out _ _ (hS.under HBM.out) (fun hT => ?_)
    clear hK hS
    have hS := hT
    clear hT
    have HS6 := Lib.hid (HS.out.drew.under HBM.out)
    refine wpAnyH_ready (rs := [7]) (by kernel_rfl) (by simp) ?_
    refine AllReadyH.cons rfl (fun K0 hK => ?_) AllReadyH.nil
    go_simp
    refine (HPW.out _ HS6.out.below HS6.out.size _ _ (Lz.of_own HOM.out (fun k hk => Nat.lt_of_lt_of_le (HG.out k hk) HS.out.below.size))).mono ?_
    rintro e w7 ⟨rfl, hpl, hm7⟩
    have HPL := Lib.hid hpl
    have HM7 := Lib.hid hm7
    clear hpl hm7
    refine hK.out _ _ (hS.mod HM7.out (fun k hk => HG.out k hk) (by omega)) (fun hT => ?_)
    clear hK hS
    have hS := hT
    clear hT
    have hcode := HC.out
    refine takeH (i := 9) (d := 38) (v := .bool bb) rfl (by kernel_rfl) (by kernel_rfl) (by kernel_rfl) (fun _ _ _ h => h) rfl (by rfl) ?yq1e9 hS ?rq1e9
    case yq1e9 => (intro wz hz; have o1 := hz.o1; have o2 := hz.o2; have o3 := hz.o3; have o4 := hz.o4; go_simp)
    simp only [List.setIfInBounds_toArray, List.set_cons_zero, List.set_cons_succ]
    clear hcode
    refine wpAnyH_ready (rs := [10]) (by kernel_rfl) (by simp) ?_
    refine AllReadyH.cons rfl (fun K0 hK => ?_) AllReadyH.nil
    rw [if_pos (by rfl)]
    refine wp_store_box (.tmp 6) (.tmp 29) rfl rfl (w.heap.size + 2) rfl #[.slice A2 Sr'.length c2, .int .i64 nwr', .int .i64 fu2', .slice K kl.length kc, .bool dnr'] rfl _ (HS6.out.row6 HM7.out (fun k hk => HG.out k hk)) rfl rfl (ref_one _ _ _ _ _ _ _ _ _) ?_
    intro w8 h6 hm8
    have H6 := Lib.hid h6
    have HM8 := Lib.hid hm8
    clear h6 hm8
    refine hK.out _ _ (hS.over HM8.out (by omega)) (fun hT => ?_)
    clear hK hS
    have hS := hT
    clear hT
    refine takeH (i := 11) (d := 7) (v := ?vq1f11) rfl (by kernel_rfl) (by kernel_rfl) (by kernel_rfl) (fun _ _ _ h => h) rfl (by rfl) ?yq1f11 hS ?rq1f11
    case yq1f11 => (intro wz hz; have o1 := hz.o1; have o2 := hz.o2; have o3 := hz.o3; have o4 := hz.o4; go_simp <;> with_reducible rfl)
    simp only [List.setIfInBounds_toArray, List.set_cons_zero, List.set_cons_succ]
    refine wpAnyH_done (by kernel_rfl) ?_ _
    clear hS
    go_wp2_with fail
    refine bodyPost_ret (v := .tuple #[.agg #[.slice A2 Sr'.length c2, .int .i64 nwr', .int .i64 fu2', .slice K kl.length kc, .bool dnr'], .bool bb]) (results_box Try.results10 _ _ _ _ _ rfl H6.out rfl rfl) rfl ?_
    exact do_fin HS.out HBM.out HM7.out HM8.out HPL.out REF5.out HG.out HX.out
end Go.Proofs.Ytggcfbglfmcdmaa
