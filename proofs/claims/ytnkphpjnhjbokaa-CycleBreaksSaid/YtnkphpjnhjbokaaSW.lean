/-
  remove, the function inside Free.
  Conditions: at most 1000 arcs; numbers below 2^64.
-/
import Derived.Test.YtnkphpjnhjbokaaSR
import Derived.Test.YtnkphpjnhjbokaaCG
namespace Go.Proofs.Ytnkphpjnhjbokaa
open Go.RowKit Go.Shelf
open Go.Maps (Keyed)
attribute [local go_sem] Oper.semAt_some
set_option maxRecDepth 100000

/-- Free's numbers as the program reckons them. -/
structure KZ where
  into : Nat → Int
  left : Int
  op : List Nat
def stZ (s : KZ) (y : Nat) : KZ := ⟨fun z => if z = y then s.into y - 1 else s.into z, s.left - 1, if s.into y - 1 = 0 then s.op ++ [y] else s.op⟩
def remZ (l : List Nat) (s : KZ) : KZ := l.foldl stZ s
theorem remZ_add (l : List Nat) (y : Nat) (s : KZ) : remZ (l ++ [y]) s = stZ (remZ l s) y := by unfold remZ; rw [List.foldl_append]; rfl
structure RemB (l : List Nat) (s s' : KZ) : Prop where
  left : s'.left = s.left - (l.length : Int)
  lo : ∀ x, s.into x - (l.length : Int) ≤ s'.into x
  hi : ∀ x, s'.into x ≤ s.into x
  op : s'.op.length ≤ s.op.length + l.length
theorem remZ_b : ∀ (l : List Nat) (s : KZ), RemB l s (remZ l s)
  | [], s => ⟨by simp [remZ], fun x => by simp [remZ], fun x => by simp [remZ], by simp [remZ]⟩
  | y :: l, s => by
    obtain ⟨h1, h2, h3, h4⟩ := remZ_b l (stZ s y)
    have e : remZ (y :: l) s = remZ l (stZ s y) := rfl
    rw [e]
    refine ⟨?_, fun x => ?_, fun x => ?_, ?_⟩
    · rw [h1]
      show s.left - 1 - _ = _
      simp only [List.length_cons]
      omega
    · refine Int.le_trans ?_ (h2 x)
      show _ ≤ (if x = y then s.into y - 1 else s.into x) - _
      simp only [List.length_cons]
      split
      · rename_i e
        subst e
        omega
      · omega
    · refine Int.le_trans (h3 x) ?_
      show (if x = y then s.into y - 1 else s.into x) ≤ _
      split
      · rename_i e
        subst e
        omega
      · omega
    · refine Nat.le_trans h4 ?_
      show (if _ then _ else _ : List Nat).length + _ ≤ _
      simp only [List.length_cons]
      split
      · simp
        omega
      · omega
def KS.z (s : KS) : KZ := ⟨fun x => (s.into x : Int), (s.left : Int), s.op⟩
theorem remZ_is : ∀ (l : List Nat) (s : KS), (∀ x ∈ l, l.count x ≤ s.into x) → l.length ≤ s.left → remZ l s.z = (remI l s).z
  | [], _, _, _ => rfl
  | y :: l, s, h, hl => by
    have hy := h y List.mem_cons_self
    rw [List.count_cons_self] at hy
    simp only [List.length_cons] at hl
    have e : stZ s.z y = KS.z ⟨updN s.into y (s.into y - 1), s.left - 1, if s.into y - 1 = 0 then s.op ++ [y] else s.op⟩ := by
      unfold stZ KS.z updN
      congr 1
      · funext z
        dsimp only
        split <;> omega
      · dsimp only
        omega
      · have : ((s.into y : Int) - 1 = 0) ↔ (s.into y - 1 = 0) := by omega
        simp only [this]
    show remZ l (stZ s.z y) = _
    rw [e]
    refine remZ_is l _ (fun x hx => ?_) (by dsimp only; omega)
    have := h x (List.mem_cons_of_mem _ hx)
    dsimp only
    unfold updN
    split
    · rename_i e
      subst e
      rw [List.count_cons_self] at this
      omega
    · rename_i e
      rw [List.count_cons_of_ne (fun h => e h.symm)] at this
      exact this
theorem KI.fit {g : List Ar} {i : Nat} {s : KS} (h : KI g i s) (hi : i < s.op.length) : (∀ x ∈ sucI g s.op[i], (sucI g s.op[i]).count x ≤ s.into x) ∧ (sucI g s.op[i]).length ≤ s.left := by
  obtain ⟨n, hn⟩ : ∃ n, s.op[i] = n := ⟨_, rfl⟩
  have hnR : n ∉ s.op.take i := fun hm => by
    obtain ⟨j, hj, e⟩ := List.mem_take_iff_getElem.1 hm
    have := (List.getElem_inj h.nd (i := j) (j := i) (h₀ := by omega) (h₁ := hi)).1 (e.trans hn.symm)
    omega
  rw [hn]
  constructor
  · intro x _
    rw [h.cnt x, List.countP_filter, count_suc]
    refine List.countP_mono_left fun a _ ha => ?_
    obtain ⟨h1, h2⟩ : a.1 = n ∧ a.2 = x := by simpa using ha
    simp [h1, h2, hnR]
  · rw [h.left, ← List.countP_eq_length_filter, len_suc]
    refine List.countP_mono_left fun a _ ha => ?_
    have h1 : a.1 = n := by simpa using ha
    simp [h1, hnR]
/-- All that Free keeps. -/
structure KrS (w0 : World) (B0 B bG bL bM bQ b : Nat) (Z : Nat → Prop) (A : Option Addr) (n c B1 : Nat) (g : List Ar) (s : KZ) (W : World) : Prop where
  bm : At W bM 41 #[.map (some b)]
  mp : ∃ f, MapAt u64V U64 W b f ∧ ∀ x, lookV (.int .i64 0) (f x) false = .int .i64 (s.into x)
  bl : At W bL 3 #[.int .i64 s.left]
  ex : ∃ A nq cq, At W bQ 25 #[.slice A nq cq] ∧ s.op.length = nq ∧ W.ownsRow B 23 1 (.slice A nq cq) nq (UC s.op) ∧ ∀ k, (Value.slice A nq cq).ownBlock = some k → ¬ Z k
  bg : At W bG 42 #[.slice A n c]
  gr : W.ownsRow B1 40 2 (.slice A n c) n (arL g)
  low : Below B0 w0 W
section
variable {w0 W W' : World} {B0 B bG bL bM bQ b : Nat} {Z : Nat → Prop} {A : Option Addr} {n c B1 : Nat} {g : List Ar} {s : KZ}
theorem KrS.lt (h : KrS w0 B0 B bG bL bM bQ b Z A n c B1 g s W) : b < W.heap.size := by
  obtain ⟨f, h1, _⟩ := h.mp
  exact h1.lt
theorem KrS.grown {row : Option Nat} (h : KrS w0 B0 B bG bL bM bQ b Z A n c B1 g s W) (hg : W.grownBy W' row)
    (hr : ∀ r, row = some r → B0 ≤ r ∧ r ≠ b ∧ ∃ o : Obj, W.heap[r]? = some o ∧ o.isCells = false) (hB0 : B0 ≤ W.heap.size) : KrS w0 B0 B bG bL bM bQ b Z A n c B1 g s W' := by
  have hnc : ∀ {k t cs}, At W k t cs → some k ≠ row := fun {k t cs} ha e => by
    obtain ⟨_, _, o, ho, hc⟩ := hr k e.symm
    rw [show W.heap[k]? = _ from ha] at ho
    cases ho
    cases hc
  have hro : ∀ {B e sz v m xs}, W.ownsRow B e sz v m xs → W'.ownsRow B e sz v m xs := fun {B e sz v m xs} ho => by
    refine ho.kept hg ?_
    cases hv : v.ownBlock with
    | none => exact .inl rfl
    | some k =>
      refine .inr fun e1 => ?_
      obtain ⟨_, cur, hc⟩ := own_cells ho hv
      obtain ⟨_, _, o, h2, h3⟩ := hr k e1.symm
      rw [hc] at h2
      cases h2
      cases h3
  obtain ⟨A', nq, cq, h1, h2, h3, h4⟩ := h.ex
  obtain ⟨f, m1, m2⟩ := h.mp
  exact ⟨h.bm.grown hg (hnc h.bm), ⟨f, m1.kept hg (fun e => (hr b e.symm).2.1 rfl), m2⟩, h.bl.grown hg (hnc h.bl), ⟨A', nq, cq, h1.grown hg (hnc h1), h2, hro h3, h4⟩, h.bg.grown hg (hnc h.bg), hro h.gr, h.low.grown hg hB0 fun r e => (hr r e).1⟩
theorem KrS.below (h : KrS w0 B0 B bG bL bM bQ b Z A n c B1 g s W) (hb : Below W.heap.size W W') (hB0 : B0 ≤ w0.heap.size) : KrS w0 B0 B bG bL bM bQ b Z A n c B1 g s W' :=
  h.grown (row := none) (below_grown hb) (fun r e => by cases e) (Nat.le_trans hB0 h.low.size)
theorem KrS.widen (h : KrS w0 B0 B bG bL bM bQ b (fun _ => False) A n c B1 g s W) {Z : Nat → Prop} (hZ : ∀ k, Z k → W.heap.size ≤ k) : KrS w0 B0 B bG bL bM bQ b Z A n c B1 g s W := by
  obtain ⟨A', nq, cq, h3, h4, h5, _⟩ := h.ex
  exact ⟨h.bm, h.mp, h.bl, ⟨A', nq, cq, h3, h4, h5, fun k hk hz => by have := (h5.lt k hk).2; have := hZ k hz; omega⟩, h.bg, h.gr, h.low⟩
theorem KrS.loosen (h : KrS w0 B0 B bG bL bM bQ b Z A n c B1 g s W) : KrS w0 B0 B bG bL bM bQ b (fun _ => False) A n c B1 g s W := by
  obtain ⟨A', nq, cq, h3, h4, h5, _⟩ := h.ex
  exact ⟨h.bm, h.mp, h.bl, ⟨A', nq, cq, h3, h4, h5, fun _ _ hf => hf⟩, h.bg, h.gr, h.low⟩
theorem KrS.mapne (h : KrS w0 B0 B bG bL bM bQ b Z A n c B1 g s W) : ∀ {k t cs}, At W k t cs → k ≠ b := fun {k t cs} ha e => by
  obtain ⟨f, ⟨es, clock, hm, _⟩, _⟩ := h.mp
  subst e
  rw [show W.heap[k]? = _ from ha] at hm
  cases hm
theorem KrS.maprow (h : KrS w0 B0 B bG bL bM bQ b Z A n c B1 g s W) : ∀ {B e sz v m xs}, W.ownsRow B e sz v m xs → v.ownBlock ≠ some b := fun {B e sz v m xs} ho e => by
  obtain ⟨f, ⟨es, clock, hm, _⟩, _⟩ := h.mp
  obtain ⟨_, cur, hc⟩ := own_cells ho e
  rw [hc] at hm
  cases hm
/-- A store into a box of a type of its own. -/
theorem own_setCell {B e sz m : Nat} {v : Value} {xs : List Value} (ho : W.ownsRow B e sz v m xs) {k : Nat} {t : TypeId} {cs : Array Value} (ha : At W k t cs) (ht : t ≠ e) (u : Value) : (W.setCell ⟨k, 0, none⟩ u).ownsRow B e sz v m xs :=
  ownsRow_setCell_other ho (a := ⟨k, 0, none⟩) (fun e2 => own_ne ho ha ht e2.symm) u
theorem KrS.setL (h : KrS w0 B0 B bG bL bM bQ b Z A n c B1 g s W) (l : Int) (hL : B0 ≤ bL) : KrS w0 B0 B bG bL bM bQ b Z A n c B1 g ⟨s.into, l, s.op⟩ (W.setCell ⟨bL, 0, none⟩ (.int .i64 l)) := by
  obtain ⟨A', nq, cq, h3, h4, h5, h6⟩ := h.ex
  obtain ⟨f, m1, m2⟩ := h.mp
  have hne : ∀ {k t cs}, At W k t cs → t ≠ 3 → At (W.setCell ⟨bL, 0, none⟩ (.int .i64 l)) k t cs := fun {k t cs} ha ht => ha.other (fun e => by
    subst e
    have h7 : W.heap[k]? = _ := ha
    rw [show W.heap[k]? = _ from h.bl] at h7
    injection h7 with h7
    injection h7 with _ h7
    exact ht h7.symm) _
  exact ⟨hne h.bm (by decide), ⟨f, m1.move (Below.heap_setCell _ _ _ _ (fun e => h.mapne h.bl e.symm)), m2⟩, h.bl.set 0 _, ⟨A', nq, cq, hne h3 (by decide), h4, own_setCell h5 h.bl (by decide) _, h6⟩, hne h.bg (by decide), own_setCell h.gr h.bl (by decide) _, h.low.setCell (p := ⟨bL, 0, none⟩) hL _⟩
theorem KrS.setM (h : KrS w0 B0 B bG bL bM bQ b Z A n c B1 g s W) {f : Nat → Option Value} (hf : ∀ x, lookV (.int .i64 0) (f x) false = .int .i64 (s.into x)) {y : Nat} {v : Int} (hm : MapAt u64V U64 W' b (updF f y (some (.int .i64 v)))) (hg : W.grownBy W' (some b)) (hb : B0 ≤ b) (hB0 : B0 ≤ W.heap.size) :
    KrS w0 B0 B bG bL bM bQ b Z A n c B1 g ⟨fun z => if z = y then v else s.into z, s.left, s.op⟩ W' := by
  obtain ⟨A', nq, cq, h3, h4, h5, h6⟩ := h.ex
  have hne : ∀ {k t cs}, At W k t cs → At W' k t cs := fun {k t cs} ha => ha.grown hg (fun e => h.mapne ha (by injection e))
  have hro : ∀ {B e sz v m xs}, W.ownsRow B e sz v m xs → W'.ownsRow B e sz v m xs := fun {B e sz v m xs} ho => by
    refine ho.kept hg ?_
    cases hv : v.ownBlock with
    | none => exact .inl rfl
    | some k => exact .inr fun e1 => h.maprow ho (by rw [hv, e1])
  refine ⟨hne h.bm, ⟨_, hm, fun x => ?_⟩, hne h.bl, ⟨A', nq, cq, hne h3, h4, hro h5, h6⟩, hne h.bg, hro h.gr, h.low.grown hg hB0 fun r e => by cases e; exact hb⟩
  unfold updF
  dsimp only
  split
  · rfl
  · exact hf x
end
/-- A number is pushed onto the queue. -/
theorem KrS.push {w0 W w5 : World} {B0 B bG bL bM bQ b : Nat} {Z : Nat → Prop} {A A' A5 : Option Addr} {n c B1 nq cq c5 y : Nat} {g : List Ar} {s : KZ} (h : KrS w0 B0 B bG bL bM bQ b Z A n c B1 g s W)
    (hbq : At W bQ 25 #[.slice A' nq cq]) (hql : s.op.length = nq) (hrow : W.ownsRow B 23 1 (.slice A' nq cq) nq (UC s.op)) (hzr : ∀ k, (Value.slice A' nq cq).ownBlock = some k → ¬ Z k)
    (ho5 : w5.ownsRow B 23 1 (.slice A5 (nq + 1) c5) (nq + 1) (UC s.op ++ [.int .u64 (y : Int)])) (hg5 : (W.alloc (.cells #[.int .u64 (y : Int)] 23)).grownBy w5 (Value.slice A' nq cq).ownBlock)
    (hb5 : (Value.slice A5 (nq + 1) c5).ownBlock = (Value.slice A' nq cq).ownBlock ∨ (Value.slice A5 (nq + 1) c5).ownBlock = some (W.alloc (.cells #[.int .u64 (y : Int)] 23)).heap.size)
    (hB0 : B0 ≤ w0.heap.size) (hB : B0 ≤ B) (hQ : B0 ≤ bQ) (hZn : ∀ k, Z k → k < W.heap.size + 1) :
    KrS w0 B0 B bG bL bM bQ b Z A n c B1 g ⟨s.into, s.left, s.op ++ [y]⟩ (w5.setCell ⟨bQ, 0, none⟩ (.slice A5 (nq + 1) c5)) ∧ KeepsOthers W (w5.setCell ⟨bQ, 0, none⟩ (.slice A5 (nq + 1) c5)) ∧
      ∀ k, k < W.heap.size → k ≠ bQ → some k ≠ (Value.slice A' nq cq).ownBlock → (w5.setCell ⟨bQ, 0, none⟩ (.slice A5 (nq + 1) c5)).heap[k]? = W.heap[k]? := by
  have hal : (W.alloc (.cells #[.int .u64 (y : Int)] 23)).ownsRow B 23 1 (.slice A' nq cq) nq (UC s.op) := own_under hrow ((Below.refl _ W).alloc (Nat.le_refl _) _) (Nat.le_refl _)
  have hQ5 : At w5 bQ 25 #[.slice A' nq cq] := (hbq.alloc _).grown hg5 (own_ne hal (hbq.alloc _) (by decide))
  have hK : KeepsOthers W (w5.setCell ⟨bQ, 0, none⟩ (.slice A5 (nq + 1) c5)) := ((KeepsOthers.alloc W _).trans (keeps_own hal hg5)).trans (KeepsOthers.setCell _ _ _)
  have hkeep : ∀ k, k < W.heap.size → k ≠ bQ → some k ≠ (Value.slice A' nq cq).ownBlock → (w5.setCell ⟨bQ, 0, none⟩ (.slice A5 (nq + 1) c5)).heap[k]? = W.heap[k]? := fun k h1 h2 h3 =>
    (Below.heap_setCell _ _ _ _ h2).trans ((hg5.block k (by simp; omega) h3).trans (Below.heap_alloc W _ k h1))
  have hne : ∀ {k t cs}, At W k t cs → t ≠ 25 → t ≠ 23 → At (w5.setCell ⟨bQ, 0, none⟩ (.slice A5 (nq + 1) c5)) k t cs := fun {k t cs} ha h1 h2 =>
    (hkeep k ha.lt (fun e => by
      subst e
      have h3 : W.heap[k]? = _ := ha
      rw [show W.heap[k]? = _ from hbq] at h3
      injection h3 with h3
      injection h3 with _ h3
      exact h1 h3.symm) (own_ne hrow ha h2)).trans ha
  obtain ⟨f, m1, m2⟩ := h.mp
  refine ⟨⟨hne h.bm (by decide) (by decide), ⟨f, m1.move (hkeep b m1.lt (fun e => h.mapne hbq e.symm) (fun e => h.maprow hrow e.symm)), m2⟩, hne h.bl (by decide) (by decide), ⟨A5, nq + 1, c5, hQ5.set 0 _, by show (s.op ++ [y]).length = _; rw [List.length_append, hql]; rfl, ?_, fun k hk hz => ?_⟩, hne h.bg (by decide) (by decide),
    own_heap2 h.gr (fun k hk => hkeep k (h.gr.lt k hk).2 (fun e => own_ne h.gr hbq (by decide) (by rw [hk, e])) (fun e => row_ne h.gr hrow (by decide) hk e.symm)), ?_⟩, hK, hkeep⟩
  · have := ownsRow_setCell_other ho5 (a := ⟨bQ, 0, none⟩) (fun e => own_ne ho5 hQ5 (by decide) e.symm) (.slice A5 (nq + 1) c5)
    show World.ownsRow _ _ _ _ _ _ (UC (s.op ++ [y]))
    rw [UC_append]
    exact this
  · rcases hb5 with h1 | h1
    · exact hzr k (by rw [← h1]; exact hk) hz
    · rw [hk] at h1
      injection h1 with h1
      simp at h1
      have := hZn k hz
      omega
  · have hl := h.low
    have hl2 := (hl.alloc (Nat.le_trans hB0 hl.size) (.cells #[.int .u64 (y : Int)] 23)).grown hg5 (by have := hl.size; simp; omega) (fun k hk => Nat.le_trans hB (hrow.lt k hk).1)
    exact hl2.setCell (p := ⟨bQ, 0, none⟩) hQ _
set_option maxHeartbeats 8000000 in
theorem remove_any (w0 : World) (B0 B bG bL bM bQ b : Nat) (A : Option Addr) (n c B1 : Nat) (g : List Ar) (x : Nat) (s : KZ) (w : World) (hn : n ≤ 1000) (hu : g.Pairwise arLe) (hU : ∀ a ∈ g, U64 a.2)
    (h : KrS w0 B0 B bG bL bM bQ b (fun _ => False) A n c B1 g s w) (hq : s.op.length ≤ 10000) (hi : ∀ x, 0 ≤ s.into x ∧ s.into x ≤ 10000) (hle : 0 ≤ s.left ∧ s.left ≤ 10000) (hB0 : B0 ≤ w0.heap.size) (hbs : B0 ≤ b ∧ B0 ≤ bL ∧ B0 ≤ bQ ∧ B0 ≤ B) (hBw : B ≤ w.heap.size) :
    Calls Try.prog 31 #[.int .u64 (x : Int), .pointer (some ⟨bG, 0, none⟩), .pointer (some ⟨bL, 0, none⟩), .pointer (some ⟨bM, 0, none⟩), .pointer (some ⟨bQ, 0, none⟩)] w
      (fun e w' => e = .returned (.tuple #[]) ∧ KrS w0 B0 B bG bL bM bQ b (fun _ => False) A n c B1 g (remZ (sucI g x) s) w') := by
  refine (callsIn_wide (n := 3)).1 ?_
  refine callsIn_of_wp_marks Try.func31 rfl trivial ?_ rfl
  simp only [Try.ntmps31, List.size_toArray, List.length_cons, List.length_nil, Nat.reduceAdd, Nat.reduceSub, Array.replicate_succ, Array.replicate_zero, List.push_toArray, List.append_toArray, List.nil_append, List.cons_append]
  have HS := Lib.hid h
  have HU := Lib.hid hu
  have HUU := Lib.hid hU
  have HQ := Lib.hid hq
  have HI := Lib.hid hi
  have HLE := Lib.hid hle
  have HBS := Lib.hid hbs
  have c0 : w.cell? ⟨bG, 0, none⟩ = some (.slice A n c) := h.bg.cell 0
  have hgl := Lz.of_own (X := fun _ => False) h.gr (fun _ hk => hk.elim)
  have HGL := Lib.hid hgl
  clear h hu hU hgl hq hi hle hbs
  gi_wp2_with fail
  refine wcall2 ((successors_any A n c g x w HGL.out).mono ?_)
  rintro e W ⟨rfl, hG, hW⟩
  have HG := Lib.hid hG
  have HWB : Hid (Below w.heap.size w W) := hW ▸ ((Below.refl _ w).alloc (Nat.le_refl _) _).alloc (by simp) _
  have HWS : Hid (W.heap.size = w.heap.size + 2) := by show _ = _; rw [hW]; simp
  clear hG hW
  gi_wp2_with fail
  have HSW : Hid (KrS w0 B0 B bG bL bM bQ b (fun k => k = w.heap.size ∨ k = w.heap.size + 1) A n c B1 g s W) := (HS.out.widen (Z := fun k => k = w.heap.size ∨ k = w.heap.size + 1) (fun k hk => by omega)).below HWB.out hB0
  have HAl : Hid (∀ a, A = some a → a.block < w.heap.size) := fun a ha => (HS.out.gr.lt a.block (by rw [ha]; rfl)).2
  refine wpIn_rangeFunc_ownG rfl (by omega) (gf := 36) (lb := #[.pointer (some ⟨w.heap.size, 0, none⟩), .pointer (some ⟨w.heap.size + 1, 0, none⟩)]) rfl trivial ent_succ1
    (succ_stops _ w.heap.size (w.heap.size + 1) A n c g x hn HU.out W HG.out) kpG_t (kpG_b (by have := HWS.out; omega) (by have := HWS.out; omega) (fun a ha => by have := HAl.out a ha; have := HWS.out; omega)) (Below.refl _ _) (fun _ => rfl)
    (fun pre W' => KrS w0 B0 B bG bL bM bQ b (fun k => k = w.heap.size ∨ k = w.heap.size + 1) A n c B1 g (remZ (vals pre) s) W' ∧ W.heap.size ≤ W'.heap.size)
    (fun _ _ _ => False)
    ?own (fun _ _ _ _ _ hs _ _ => hs) ⟨HSW.out, Nat.le_refl _⟩
    (fun y => { tmps := #[.int .u64 (x : Int), .pointer (some ⟨bG, 0, none⟩), .pointer (some ⟨bL, 0, none⟩), .pointer (some ⟨bM, 0, none⟩), .pointer (some ⟨bQ, 0, none⟩), undef, .int .u64 (y.1 : Int), .slice A n c, .int .u64 (x : Int), .func (.func 36) #[] #[.pointer (some ⟨w.heap.size, 0, none⟩), .pointer (some ⟨w.heap.size + 1, 0, none⟩)], .int .u64 (y.1 : Int), undef, undef, undef, undef, undef, undef, undef, undef, undef, undef, undef, undef, undef, undef], defers := [] }) ?assign ?body ?done ?stop
  case own =>
    rintro pre W1 W2 row ⟨hs, hz⟩ hg hr
    have hws := HWS.out
    have hsz := HS.out.low.size
    have hbl := HS.out.lt
    refine ⟨hs.grown hg (fun r e => ?_) (Nat.le_trans hB0 hs.low.size), Nat.le_trans hz hg.size⟩
    obtain ⟨q1, q2⟩ := hr r e.symm.symm
    exact ⟨by omega, by omega, q2⟩
  case assign =>
    intro l y W' K hK
    gi_wp2
    simpa using hK
  case body =>
    rintro l pre y W' ⟨hs, hz⟩ hlt
    obtain ⟨y, hy⟩ := y
    obtain ⟨s', hs'⟩ : ∃ s', remZ (vals pre) s = s' := ⟨_, rfl⟩
    have hrb := remZ_b (vals pre) s
    rw [hs'] at hs hrb
    have HV : Hid (remZ (vals (pre ++ [⟨y, hy⟩])) s = stZ s' y) := by show _ = _; rw [vals_add, remZ_add, hs']
    have hvl : (vals pre).length = pre.length := by unfold vals; simp
    have hN : pre.length ≤ 1000 := by
      have h3 := suc_len g x g.length
      rw [List.take_length] at h3
      have h4 := HGL.out.arlen
      omega
    obtain ⟨L, hL⟩ : ∃ L, s'.left = L := ⟨_, rfl⟩
    obtain ⟨v, hv⟩ : ∃ v, s'.into y = v := ⟨_, rfl⟩
    have hLb : -2000 ≤ L ∧ L ≤ 20000 := by
      have h1 := hrb.left
      have h2 := HLE.out
      rw [hvl] at h1
      omega
    have hvb : -2000 ≤ v ∧ v ≤ 20000 := by
      have h1 := hrb.lo y
      have h2 := hrb.hi y
      have h3 := HI.out y
      rw [hvl] at h1
      omega
    have hob : s'.op.length ≤ 20000 := by
      have h1 := hrb.op
      have h2 := HQ.out
      omega
    have hwL : wrap64 (L - 1) = L - 1 := by unfold wrap64; omega
    have hwv : wrap64 (v - 1) = v - 1 := by unfold wrap64; omega
    have hUy : U64 y := HUU.out _ (mem_suc.1 hy)
    have cL : W'.cell? ⟨bL, 0, none⟩ = some (.int .i64 L) := by rw [← hL]; exact hs.bl.cell 0
    have fL : W'.frozen? ⟨bL, 0, none⟩ = false := hs.bl.frozen 0
    have hb1 := HBS.out
    have hs1 := hs.setL (L - 1) hb1.2.1
    have hsz1 : B0 ≤ W'.heap.size := Nat.le_trans hB0 hs.low.size
    obtain ⟨V, hV⟩ : ∃ V, W'.setCell ⟨bL, 0, none⟩ (.int .i64 (L - 1)) = V := ⟨_, rfl⟩
    have hVs : V.heap.size = W'.heap.size := by rw [← hV]; simp
    have hVk : ∀ k, k ≠ bL → V.heap[k]? = W'.heap[k]? := fun k hk => hV ▸ Below.heap_setCell _ _ _ _ hk
    have HVK : Hid (KeepsOthers W' V) := hV ▸ KeepsOthers.setCell _ _ _
    rw [hV] at hs1
    obtain ⟨f, m1, m2⟩ := hs1.mp
    dsimp only at m2
    have hlk : (Instr.lookup 41 (.map (some b)) (.int .u64 (y : Int)) false).run Try.prog V = .ok (.int .i64 v) V := by
      have h9 := m1.look keyT_u64 Try.underlying41 (Try.zeroValue3 V) false hUy
      rw [m2 y, hv] at h9
      exact h9
    have cM1 : V.cell? ⟨bM, 0, none⟩ = some (.map (some b)) := hs1.bm.cell 0
    have HS1 := Lib.hid hs1
    have HM1 := Lib.hid m1
    have HM2 := Lib.hid m2
    have HVKK := Lib.hid hVk
    have HBL : Hid (bL < w.heap.size ∧ bQ < w.heap.size ∧ b < w.heap.size) := ⟨HS.out.bl.lt, (by obtain ⟨_, _, _, h, _⟩ := HS.out.ex; exact h.lt), HS.out.lt⟩
    have HZ := Lib.hid hz
    have HVS := Lib.hid hVs
    have HSZ1 := Lib.hid hsz1
    have HB1 := Lib.hid hb1
    have HOB := Lib.hid hob
    have HUY := Lib.hid hUy
    have HL := Lib.hid hL
    have HVV := Lib.hid hv
    clear hs hs1 m1 m2 hz hrb hs' hvl hN hLb hvb hVs hVk hsz1 hb1 hob hUy hL hv c0
    have hdone : ∀ W2, KrS w0 B0 B bG bL bM bQ b (fun k => k = w.heap.size ∨ k = w.heap.size + 1) A n c B1 g (stZ s' y) W2 → KrS w0 B0 B bG bL bM bQ b (fun k => k = w.heap.size ∨ k = w.heap.size + 1) A n c B1 g (remZ (vals (pre ++ [⟨y, hy⟩])) s) W2 := fun W2 hh => by rw [HV.out]; exact hh
    have HDONE := Lib.hid hdone
    clear hdone
    by_cases hv0 : v = 1
    · have e : (v - 1 == (0 : Int)) = true := by simp; omega
      have HV0 := Lib.hid hv0
      clear hv0
      obtain ⟨i0, hi0, hz0, hz1, hz2⟩ := u_info
      gi_wp2_with (first
        | (refine wpListIn_mapStore rfl (.tmp 13) (.tmp 14) (.tmp 16) rfl keyT_u64 Try.underlying41 rfl HM1.out y rfl HUY.out (.int .i64 (v - 1)) (by first | rfl | (show Value.int .i64 (wrap64 (v - 1)) = _; rw [hwv])) ?_
           intro w1 hm1 hg1
           have HS2 := Lib.hid (HS1.out.setM HM2.out hm1 hg1 HB1.out.1 (by rw [HVS.out]; exact HSZ1.out))
           have HG1 := Lib.hid hg1
           obtain ⟨f2, k1, k2⟩ := HS2.out.mp
           dsimp only at k2
           have hlk2 : (Instr.lookup 41 (.map (some b)) (.int .u64 (y : Int)) false).run Try.prog w1 = .ok (.int .i64 (v - 1)) w1 := by have h9 := k1.look keyT_u64 Try.underlying41 (Try.zeroValue3 w1) false HUY.out; rw [k2 y, if_pos rfl] at h9; exact h9
           have cM2 : w1.cell? ⟨bM, 0, none⟩ = some (.map (some b)) := HS2.out.bm.cell 0
           obtain ⟨A2, nq, cq2, hbq2, hql2, hrow2, hzr2⟩ := HS2.out.ex
           dsimp only at hql2 hrow2
           have cQ2 : w1.cell? ⟨bQ, 0, none⟩ = some (.slice A2 nq cq2) := hbq2.cell 0
           have OWN : Hid ((w1.alloc (.cells #[.int .u64 (y : Int)] 23)).ownsRow B 23 1 (.slice A2 nq cq2) nq (UC s'.op)) := own_under hrow2 ((Below.refl _ w1).alloc (Nat.le_refl _) _) (Nat.le_refl _)
           have HBQ2 := Lib.hid hbq2
           have HQL2 := Lib.hid hql2
           have HRW2 := Lib.hid hrow2
           have HZR2 := Lib.hid hzr2
           have hqn : nq ≤ 20000 := by have := HOB.out; omega
           have hBs : B ≤ w1.heap.size := by have h1 := hg1.size; have h2 := HVS.out; have h3 := HZ.out; have h4 := HWS.out; omega
           have HBS1 := Lib.hid hBs
           clear hm1 hg1 k1 k2 hbq2 hql2 hrow2 hzr2 hlk cM1 hBs)
        | (gi_at_builtin; refine wpListIn_app2 _ rfl (.tmp 21) (.tmp 23) 25 rfl B 23 i0 (.int .u64 0) 1 8 Try.underlying25 hi0 hz0 hz1 hz2 rfl (by omega) (.slice A2 nq cq2) nq (UC s'.op) rfl OWN.out (w1.heap.size + 1) (some ⟨w1.heap.size, 0, none⟩) 1 1 [.int .u64 (y : Int)] rfl (lies_new w1 _ _) (fun u hu => by simp at hu; rw [hu]; rfl) (by omega) (by simp only [maxLen]; omega) (by omega) (by have := HBS1.out; simp; omega) ?_; intro v5 w5 ho5 hg5 hb5
           obtain ⟨A5, c5, rfl, _⟩ := own_slice ho5
           have HP := Lib.hid (HS2.out.push HBQ2.out HQL2.out HRW2.out HZR2.out ho5 hg5 hb5 hB0 HB1.out.2.2.2 HB1.out.2.2.1 (fun k hk => by have h1 := HG1.out.size; have h2 := HVS.out; have h3 := HZ.out; have h4 := HWS.out; omega))
           have HQ5 : Hid (At w5 bQ 25 #[.slice A2 nq cq2]) := (HBQ2.out.alloc _).grown hg5 (own_ne OWN.out (HBQ2.out.alloc _) (by decide))
           have fq5 : w5.frozen? ⟨bQ, 0, none⟩ = false := HQ5.out.frozen 0
           have cq5 : w5.cell? ⟨bQ, 0, none⟩ = some (.slice A2 nq cq2) := HQ5.out.cell 0
           have HSZ5 := Lib.hid hg5.size
           clear ho5 hg5 hb5))
      have h1 := HG1.out.size
      have h2 := HVS.out
      have h3 := HZ.out
      have h4 := HWS.out
      have h5 := HSZ5.out
      have h6 := HBL.out
      simp at h5
      have hkb : ∀ k, k < W'.heap.size → k ≠ bL → k ≠ b → k ≠ bQ → some k ≠ (Value.slice A2 nq cq2).ownBlock → (w5.setCell ⟨bQ, 0, none⟩ (.slice A5 (nq + 1) c5)).heap[k]? = W'.heap[k]? := fun k q1 q2 q3 q4 q5 =>
        (HP.out.2.2 k (by omega) q4 q5).trans ((HG1.out.block k (by omega) (fun e => q3 (by injection e))).trans (HVKK.out k q2))
      refine ⟨((HVK.out.from _).trans (KeepsFrom.of_grownBy HG1.out (fun j e => by cases e; omega))).trans (HP.out.2.1.from _), ⟨hkb _ (by omega) (by omega) (by omega) (by omega) (fun e => HZR2.out _ e.symm (.inl rfl)), hkb _ (by omega) (by omega) (by omega) (by omega) (fun e => HZR2.out _ e.symm (.inr rfl)), fun a ha => ?_⟩, HDONE.out _ ?_, by simp; omega⟩
      · have h7 := HAl.out a ha
        have hr0 : (Value.slice A n c).ownBlock = some a.block := by rw [ha]; rfl
        refine hkb _ (by omega) (fun e => own_ne HS1.out.gr HS1.out.bl (by decide) (by rw [hr0, e])) (fun e => HS1.out.maprow HS1.out.gr (by rw [hr0, e])) (fun e => own_ne HS2.out.gr HBQ2.out (by decide) (by rw [hr0, e])) (fun e => row_ne HS2.out.gr HRW2.out (by decide) hr0 e.symm)
      · have h8 := HP.out.1
        have e1 : stZ s' y = ⟨fun z => if z = y then v - 1 else s'.into z, L - 1, s'.op ++ [y]⟩ := by
          unfold stZ
          rw [HVV.out, HL.out, if_pos (by have := HV0.out; omega)]
        rw [e1]
        exact h8
    · have e : (v - 1 == (0 : Int)) = false := by simp; omega
      have HV0 := Lib.hid hv0
      clear hv0
      gi_wp2_with (refine wpListIn_mapStore rfl (.tmp 13) (.tmp 14) (.tmp 16) rfl keyT_u64 Try.underlying41 rfl HM1.out y rfl HUY.out (.int .i64 (v - 1)) (by first | rfl | (show Value.int .i64 (wrap64 (v - 1)) = _; rw [hwv])) ?_
                   intro w1 hm1 hg1
                   have HS2 := Lib.hid (HS1.out.setM HM2.out hm1 hg1 HB1.out.1 (by rw [HVS.out]; exact HSZ1.out))
                   have HG1 := Lib.hid hg1
                   obtain ⟨f2, k1, k2⟩ := HS2.out.mp
                   dsimp only at k2
                   have hlk2 : (Instr.lookup 41 (.map (some b)) (.int .u64 (y : Int)) false).run Try.prog w1 = .ok (.int .i64 (v - 1)) w1 := by have h9 := k1.look keyT_u64 Try.underlying41 (Try.zeroValue3 w1) false HUY.out; rw [k2 y, if_pos rfl] at h9; exact h9
                   have cM2 : w1.cell? ⟨bM, 0, none⟩ = some (.map (some b)) := HS2.out.bm.cell 0
                   clear hm1 hg1 k1 k2 hlk cM1)
      have h1 := HG1.out.size
      have h2 := HVS.out
      have h3 := HZ.out
      have h4 := HWS.out
      have h6 := HBL.out
      have hkb : ∀ k, k < W'.heap.size → k ≠ bL → k ≠ b → w1.heap[k]? = W'.heap[k]? := fun k q1 q2 q3 => (HG1.out.block k (by omega) (fun e => q3 (by injection e))).trans (HVKK.out k q2)
      refine ⟨(HVK.out.from _).trans (KeepsFrom.of_grownBy HG1.out (fun j e => by cases e; omega)), ⟨hkb _ (by omega) (by omega) (by omega), hkb _ (by omega) (by omega) (by omega), fun a ha => ?_⟩, HDONE.out _ ?_, by omega⟩
      · have h7 := HAl.out a ha
        have hr0 : (Value.slice A n c).ownBlock = some a.block := by rw [ha]; rfl
        refine hkb _ (by omega) (fun e => own_ne HS1.out.gr HS1.out.bl (by decide) (by rw [hr0, e])) (fun e => HS1.out.maprow HS1.out.gr (by rw [hr0, e]))
      · have e1 : stZ s' y = ⟨fun z => if z = y then v - 1 else s'.into z, L - 1, s'.op⟩ := by
          unfold stZ
          rw [HVV.out, HL.out, if_neg (by have := HV0.out; omega)]
        rw [e1]
        exact HS2.out
  case done =>
    rintro D ys W' hD hys ⟨hs, hz⟩ hK
    have hsz := HS.out.low.size
    have hws := HWS.out
    have hbl := HS.out.lt
    rw [show vals ys = sucI g x from hys] at hs
    gi_wp2
    refine ⟨by simp, .inl ⟨_, _, rfl, run_takeDeferred hK, ?_⟩⟩
    refine ⟨_, results_none rfl _ _ _, rfl, ?_⟩
    exact (hs.grown (grownBy_putObj' W' D _) (fun r e => by cases e; exact ⟨by omega, by omega, _, hK, rfl⟩) (Nat.le_trans hB0 hs.low.size)).loosen
  case stop =>
    rintro D c pre W' _ _ h _
    exact h.elim
end Go.Proofs.Ytnkphpjnhjbokaa
