/-
  visit, the function inside distances.
  Conditions: at most 1000 arcs; numbers below 2^64.
-/
import Derived.Test.YtnkphpjnhjbokaaSL
namespace Go.Proofs.Ytnkphpjnhjbokaa
open Go.RowKit Go.Shelf
open Go.Maps (Keyed)
attribute [local go_sem] Oper.semAt_some
set_option maxRecDepth 100000

/-- The numbers themselves. -/
def vals {g : List Ar} {x : Nat} (l : List (Suc g x)) : List Nat := l.map (·.1)
theorem vals_add {g : List Ar} {x : Nat} (l : List (Suc g x)) (y : Suc g x) : vals (l ++ [y]) = vals l ++ [y.1] := by unfold vals; rw [List.map_append]; rfl
/-- Blocks in which the queue's row does not lie. -/
def ZS (A : Option Addr) (b6 : Nat) (k : Nat) : Prop := (b6 ≤ k ∧ k < b6 + 3) ∨ ∃ a, A = some a ∧ k = a.block
theorem Srch.below {w0 W W' : World} {B0 B bG bM bQ b : Nat} {Z : Nat → Prop} {A : Option Addr} {n c B1 : Nat} {g : List Ar} {s : (Nat → Nat) × List Nat} (h : Srch w0 B0 B bG bM bQ b Z A n c B1 g s W) (hb : Below W.heap.size W W') (hB0 : B0 ≤ w0.heap.size) : Srch w0 B0 B bG bM bQ b Z A n c B1 g s W' :=
  h.grown (row := none) (below_grown hb) (fun r e => by cases e) (Nat.le_trans hB0 h.low.size)
theorem Srch.widen {w0 W W' : World} {B0 B bG bM bQ b b6 : Nat} {A : Option Addr} {n c B1 : Nat} {g : List Ar} {s : (Nat → Nat) × List Nat} {Z : Nat → Prop} (h : Srch w0 B0 B bG bM bQ b (fun _ => False) A n c B1 g s W) (hb : Below W.heap.size W W') (hB0 : B0 ≤ w0.heap.size) (hZ : Z = ZS A b6 ∧ W.heap.size ≤ b6) : Srch w0 B0 B bG bM bQ b Z A n c B1 g s W' := by
  obtain ⟨rfl, hb6⟩ := hZ
  have h2 := h.below hb hB0
  obtain ⟨A', nq, cq, h3, h4, h5, _⟩ := h.di.ex
  obtain ⟨A2, nq2, cq2, k3, k4, k5, _⟩ := h2.di.ex
  have e : (A2, nq2, cq2) = (A', nq, cq) := by
    have h6 : W'.heap[bQ]? = _ := h3.under hb h3.lt
    rw [show W'.heap[bQ]? = _ from k3] at h6
    injection h6 with h6
    injection h6 with h6
    have h7 : (#[Value.slice A2 nq2 cq2])[0]? = (#[Value.slice A' nq cq])[0]? := by rw [h6]
    simp at h7
    simp [h7]
  injection e with e1 e2
  injection e2 with e2 e3
  subst e1 e2 e3
  refine ⟨⟨h2.di.bm, h2.di.mp, A2, nq2, cq2, k3, k4, k5, fun k hk hz => ?_⟩, h2.bg, h2.gr, h2.low⟩
  have hlt := (h5.lt k hk).2
  rcases hz with ⟨hz, _⟩ | ⟨a, ha, rfl⟩
  · omega
  · obtain ⟨_, cur, h6⟩ := own_cells h5 hk
    obtain ⟨_, cur2, h7⟩ := own_cells h.gr (g := a.block) (by rw [ha]; rfl)
    rw [h6] at h7
    injection h7 with h7
    injection h7 with _ h7
    exact absurd h7 (by decide)
theorem own_heap2 {w w' : World} {B n size : Nat} {e : TypeId} {v : Value} {xs : List Value} (h : w.ownsRow B e size v n xs) (hk : ∀ k, v.ownBlock = some k → w'.heap[k]? = w.heap[k]?) : w'.ownsRow B e size v n xs := by
  refine ⟨h.1, ?_⟩
  rcases h.2 with hn | ⟨g, cap, cur, rfl, hb, hg, rest⟩
  · exact .inl hn
  · exact .inr ⟨g, cap, cur, rfl, hb, (hk g rfl).trans hg, rest⟩
theorem visI_len (c : Nat) : ∀ (ss : List Nat) (s : (Nat → Nat) × List Nat), (visI ss c s).2.length ≤ s.2.length + ss.length
  | [], _ => Nat.le_refl _
  | x :: ss, s => by
    unfold visI
    have h := visI_len c ss (if s.1 x = 0 then (updN s.1 x c, s.2 ++ [x]) else s)
    have h2 : (if s.1 x = 0 then (updN s.1 x c, s.2 ++ [x]) else s).2.length ≤ s.2.length + 1 := by
      split
      · simp
      · omega
    simp only [List.length_cons]
    omega
theorem Srch.loosen {w0 W : World} {B0 B bG bM bQ b : Nat} {A : Option Addr} {n c B1 : Nat} {g : List Ar} {s : (Nat → Nat) × List Nat} {Z : Nat → Prop} (h : Srch w0 B0 B bG bM bQ b Z A n c B1 g s W) : Srch w0 B0 B bG bM bQ b (fun _ => False) A n c B1 g s W := by
  obtain ⟨A', nq, cq, h3, h4, h5, _⟩ := h.di.ex
  exact ⟨⟨h.di.bm, h.di.mp, A', nq, cq, h3, h4, h5, fun _ _ hf => hf⟩, h.bg, h.gr, h.low⟩
theorem wcall2 {P : Program} {f : FuncId} {args : Array Value} {w : World} {R : Ending → World → Prop} {m : Nat} (h : Calls P f args w R) : Fence.wide.fn f ∧ CallsIn Fence.wide m P f args w R := ⟨trivial, callsIn_wide.2 h⟩
set_option maxHeartbeats 4000000 in
theorem visit_any (w0 : World) (B0 B bG bM bQ b : Nat) (A : Option Addr) (n c B1 : Nat) (g : List Ar) (x carc : Nat) (d : Nat → Nat) (q : List Nat) (w : World) (hn : n ≤ 1000) (hu : g.Pairwise arLe) (hU : ∀ a ∈ g, U64 a.2) (hc : carc ≠ 0)
    (h : Srch w0 B0 B bG bM bQ b (fun _ => False) A n c B1 g (d, q) w) (hq : q.length ≤ 10000) (hB0 : B0 ≤ w0.heap.size) (hbs : B0 ≤ b ∧ B0 ≤ bM ∧ B0 ≤ bQ ∧ B0 ≤ B) (hBw : B ≤ w.heap.size) :
    Calls Try.prog 32 #[.int .u64 (x : Int), .int .i64 (carc : Int), .pointer (some ⟨bG, 0, none⟩), .pointer (some ⟨bM, 0, none⟩), .pointer (some ⟨bQ, 0, none⟩)] w
      (fun e w' => e = .returned (.tuple #[]) ∧ Srch w0 B0 B bG bM bQ b (fun _ => False) A n c B1 g (visI (sucI g x) carc (d, q)) w') := by
  refine (callsIn_wide (n := 3)).1 ?_
  refine callsIn_of_wp_marks Try.func32 rfl trivial ?_ rfl
  simp only [Try.ntmps32, List.size_toArray, List.length_cons, List.length_nil, Nat.reduceAdd, Nat.reduceSub, Array.replicate_succ, Array.replicate_zero, List.push_toArray, List.append_toArray, List.nil_append, List.cons_append]
  have HS := Lib.hid h
  have HU := Lib.hid hu
  have HUU := Lib.hid hU
  have c0 : (w.alloc (.cells #[.int .i64 (carc : Int)] 3)).cell? ⟨bG, 0, none⟩ = some (.slice A n c) := (h.bg.alloc _).cell 0
  have hgl := Lz.of_own (X := fun _ => False) h.gr (fun _ hk => hk.elim)
  have HGL := Lib.hid hgl
  clear h hu hU hgl
  gi_wp2_with fail
  obtain ⟨V, hV⟩ : ∃ V, w.alloc (.cells #[.int .i64 (carc : Int)] 3) = V := ⟨_, rfl⟩
  obtain ⟨b6, hb6⟩ : ∃ b6, w.heap.size = b6 := ⟨_, rfl⟩
  have hVB : Below w.heap.size w V := hV ▸ (Below.refl _ w).alloc (Nat.le_refl _) _
  have hVS : V.heap.size = b6 + 1 := by rw [← hV, ← hb6]; simp
  have HA6 : Hid (At V b6 3 #[.int .i64 (carc : Int)]) := by
    have := At.new w 3 #[.int .i64 (carc : Int)]
    rw [hV, hb6] at this
    exact this
  rw [hV, hb6]
  refine wcall2 ((successors_any A n c g x V (HGL.out.below hVB)).mono ?_)
  rintro e W ⟨rfl, hG, hW⟩
  have HG := Lib.hid hG
  have hWB : Below V.heap.size V W := hW ▸ ((Below.refl _ V).alloc (Nat.le_refl _) _).alloc (by simp) _
  have hWS : W.heap.size = b6 + 3 := by rw [hW]; simp; omega
  clear hG hW
  gi_wp2_with fail
  have HSW := Lib.hid (HS.out.widen (Z := ZS A b6) (W' := W) (hVB.trans (hWB.mono hVB.size)) hB0 ⟨rfl, by omega⟩)
  have HA6W : Hid (At W b6 3 #[.int .i64 (carc : Int)]) := HA6.out.under hWB HA6.out.lt
  have hbl : b < b6 := hb6 ▸ HS.out.di.mp.lt
  have hAl : ∀ a, A = some a → a.block < b6 := fun a ha => by
    have := HS.out.gr.lt a.block (by rw [ha]; rfl)
    omega
  rw [hVS] at HG
  refine wpIn_rangeFunc_ownG rfl (by omega) (gf := 36) (lb := #[.pointer (some ⟨b6 + 1, 0, none⟩), .pointer (some ⟨b6 + 1 + 1, 0, none⟩)]) rfl trivial ent_succ1
    (succ_stops _ (b6 + 1) (b6 + 1 + 1) A n c g x hn HU.out W HG.out) kpG_t (kpG_b (by omega) (by omega) (fun a ha => by have := hAl a ha; omega)) (Below.refl _ _) (fun _ => rfl)
    (fun pre W' => Srch w0 B0 B bG bM bQ b (ZS A b6) A n c B1 g (visI (vals pre) carc (d, q)) W' ∧ At W' b6 3 #[.int .i64 (carc : Int)] ∧ b6 + 3 ≤ W'.heap.size)
    (fun _ _ _ => False)
    ?own (fun _ _ _ _ _ hs _ _ => hs) ⟨HSW.out, HA6W.out, by omega⟩
    (fun y => { tmps := #[.int .u64 (x : Int), .int .i64 (carc : Int), .pointer (some ⟨bG, 0, none⟩), .pointer (some ⟨bM, 0, none⟩), .pointer (some ⟨bQ, 0, none⟩), undef, .pointer (some ⟨b6, 0, none⟩), .int .u64 (y.1 : Int), .slice A n c, .int .u64 (x : Int), .func (.func 36) #[] #[.pointer (some ⟨b6 + 1, 0, none⟩), .pointer (some ⟨b6 + 1 + 1, 0, none⟩)], .int .u64 (y.1 : Int), undef, undef, undef, undef, undef, undef, undef, undef, undef, undef, undef], defers := [] }) ?assign ?body ?done ?stop
  case own =>
    rintro pre W1 W2 row ⟨hs, h6, hz⟩ hg hr
    have hsz := HS.out.low.size
    refine ⟨hs.grown hg (fun r e => ?_) (Nat.le_trans hB0 hs.low.size), h6.grown hg (fun e => ?_), Nat.le_trans hz hg.size⟩
    · obtain ⟨q1, q2⟩ := hr r e.symm.symm
      exact ⟨by omega, by omega, q2⟩
    · have := (hr b6 e.symm).1
      omega
  case assign =>
    intro l y W' K hK
    gi_wp2
    simpa using hK
  case body =>
    rintro l pre y W' ⟨hs, h6, hz⟩ hlt
    obtain ⟨y, hy⟩ := y
    obtain ⟨⟨d', q'⟩, hdq⟩ : ∃ s, visI (vals pre) carc (d, q) = s := ⟨_, rfl⟩
    rw [hdq] at hs
    have hvis : visI (vals (pre ++ [⟨y, hy⟩])) carc (d, q) = visI [y] carc (d', q') := by rw [vals_add, visI_append, hdq]
    have hqb : q'.length ≤ 11000 := by
      have h1 := visI_len carc (vals pre) (d, q)
      rw [hdq] at h1
      have h2 : (vals pre).length = pre.length := by unfold vals; simp
      have h3 := suc_len g x g.length
      rw [List.take_length] at h3
      have h4 := HGL.out.arlen
      dsimp only at h1
      omega
    have HV := Lib.hid hvis
    have hUy : Hid (U64 y) := HUU.out _ (mem_suc.1 hy)
    obtain ⟨A', nq, cq, hbq, hql, hrow, hzr⟩ := hs.di.ex
    have cM : W'.cell? ⟨bM, 0, none⟩ = some (.map (some b)) := hs.di.bm.cell 0
    have HSB := Lib.hid hs
    obtain ⟨dy, hdy⟩ : ∃ dy, d' y = dy := ⟨_, rfl⟩
    have hlk := fD_look d' y
    rw [hdy] at hlk
    have HLK := Lib.hid hlk
    clear hvis hlk hdq
    by_cases h0 : dy = 0
    · have e : ((dy : Int) == 0) = true := by simp; omega
      have HE : Hid (visI [y] carc (d', q') = (updN d' y carc, q' ++ [y])) := by show _ = _; unfold visI visI; rw [if_pos (by show d' y = 0; rw [hdy]; exact h0)]
      have c6 : W'.cell? ⟨b6, 0, none⟩ = some (.int .i64 (carc : Int)) := h6.cell 0
      have hnb : ∀ k, (Value.slice A' nq cq).ownBlock = some k → k ≠ b := fun k hk e => by
        obtain ⟨es, clock, hm, _⟩ := hs.di.mp
        exact own_map hrow hm (by rw [hk, e])
      have hmb : ∀ {k t cs}, At W' k t cs → some k ≠ some b := fun {k t cs} ha e => by
        injection e with e
        subst e
        obtain ⟨es, clock, hm, _⟩ := hs.di.mp
        rw [show W'.heap[k]? = _ from ha] at hm
        cases hm
      have HNB := Lib.hid hnb
      have HBQ := Lib.hid hbq
      have HROW := Lib.hid hrow
      have HZR := Lib.hid hzr
      have HH6 := Lib.hid h6
      have HMB := Lib.hid (fun k t cs (ha : At W' k t cs) => hmb ha)
      have hqn : nq ≤ 20000 := by
        have h1 : q'.length = nq := hql
        omega
      obtain ⟨i0, hi0, hz0, hz1, hz2⟩ := u_info
      clear h0 hdy hs hnb hbq hrow hzr h6 hmb
      gi_wp2_with (first
        | refine wpListIn_look rfl 14 rfl (.tmp 12) (.tmp 13) false rfl keyT_u64 Try.underlying41 (.int .i64 0) (Try.zeroValue3 _) rfl HSB.out.di.mp y rfl hUy.out (.int .i64 (dy : Int)) HLK.out ?_
        | (refine wpListIn_mapStore rfl (.tmp 16) (.tmp 17) (.tmp 18) rfl keyT_u64 Try.underlying41 rfl HSB.out.di.mp y rfl hUy.out (.int .i64 (carc : Int)) rfl ?_; intro w1 hm1 hg1
           have HM1 := Lib.hid hm1
           have HG1 := Lib.hid hg1
           have HQ1 : Hid (At w1 bQ 25 #[.slice A' nq cq]) := HBQ.out.grown hg1 (HMB.out _ _ _ HBQ.out)
           have HR1 : Hid (w1.ownsRow B 23 1 (.slice A' nq cq) nq (UC q')) := HROW.out.kept hg1 (by
             cases hv : (Value.slice A' nq cq).ownBlock with
             | none => exact .inl rfl
             | some k => exact .inr fun e => by injection e with e; exact HNB.out k hv e)
           have cQ1 : w1.cell? ⟨bQ, 0, none⟩ = some (.slice A' nq cq) := HQ1.out.cell 0
           have OWN : Hid ((w1.alloc (.cells #[.int .u64 (y : Int)] 23)).ownsRow B 23 1 (.slice A' nq cq) nq (UC q')) := own_under HR1.out ((Below.refl _ w1).alloc (Nat.le_refl _) _) (Nat.le_refl _)
           have hs1 := hg1.size
           clear hm1 hg1)
        | (gi_at_builtin; refine wpListIn_app2 _ rfl (.tmp 19) (.tmp 21) 25 rfl B 23 i0 (.int .u64 0) 1 8 Try.underlying25 hi0 hz0 hz1 hz2 rfl (by omega) (.slice A' nq cq) nq (UC q') rfl OWN.out (w1.heap.size + 1) (some ⟨w1.heap.size, 0, none⟩) 1 1 [.int .u64 (y : Int)] rfl (lies_new w1 _ _) (fun u hu => by simp at hu; rw [hu]; rfl) (by omega) (by simp only [maxLen]; omega) (by omega) (by simp; omega) ?_; intro v5 w5 ho5 hg5 hb5
           obtain ⟨A5, c5, rfl, _⟩ := own_slice ho5
           have HQ5 : Hid (At w5 bQ 25 #[.slice A' nq cq]) := (HQ1.out.alloc _).grown hg5 (own_ne OWN.out (HQ1.out.alloc _) (by decide))
           have cq5 : w5.cell? ⟨bQ, 0, none⟩ = some (.slice A' nq cq) := HQ5.out.cell 0
           have fq5 : w5.frozen? ⟨bQ, 0, none⟩ = false := HQ5.out.frozen 0
           have HO5 := Lib.hid ho5
           have HG5 := Lib.hid hg5
           have HB5 := Lib.hid hb5
           clear ho5 hg5 hb5))
      have hbBQ : B0 ≤ bQ := hbs.2.2.1
      have hk1 : KeepsFrom W.heap.size W' w1 := KeepsFrom.of_grownBy HG1.out (fun j e => by cases e; omega)
      have hk2 : KeepsFrom W.heap.size w1 w5 := ((KeepsOthers.alloc w1 _).trans (keeps_own OWN.out HG5.out)).from _
      rw [hWS] at hk1 hk2
      have hbQl : bQ < b6 := by
        obtain ⟨_, _, _, h1, _⟩ := HS.out.di.ex
        have := h1.lt
        omega
      have hQO : some bQ ≠ (Value.slice A' nq cq).ownBlock := own_ne HROW.out HBQ.out (by decide)
      have hsz1 := HG1.out.size
      have hkeep : ∀ k, k < W'.heap.size → k ≠ b → k ≠ bQ → some k ≠ (Value.slice A' nq cq).ownBlock → (w5.setCell ⟨bQ, 0, none⟩ (.slice A5 (nq + 1) c5)).heap[k]? = W'.heap[k]? := fun k h1 h2 h3 h4 =>
        (Below.heap_setCell _ _ _ _ h3).trans ((HG5.out.block k (by simp; omega) h4).trans ((Below.heap_alloc w1 _ k (by omega)).trans (HG1.out.block k h1 (fun e => h2 (by injection e)))))
      have hAk : ∀ a, A = some a → (w5.setCell ⟨bQ, 0, none⟩ (.slice A5 (nq + 1) c5)).heap[a.block]? = W'.heap[a.block]? := fun a ha => by
        have h1 := hAl a ha
        refine hkeep _ (by omega) ?_ ?_ (fun e => HZR.out a.block e.symm (.inr ⟨a, ha, rfl⟩))
        · obtain ⟨es, clock, hm, _⟩ := HSB.out.di.mp
          intro e
          exact own_map HSB.out.gr hm (by rw [ha, ← e]; rfl)
        · intro e
          exact own_ne HSB.out.gr HBQ.out (by decide) (by rw [ha, ← e]; rfl)
      refine ⟨(hk1.trans hk2).trans ((KeepsOthers.setCell _ _ _).from _), ⟨?k1, ?k2, hAk⟩, ?sr, ?six, ?siz⟩
      case k1 => exact hkeep _ (by omega) (by omega) (by omega) (fun e => HZR.out _ e.symm (.inl ⟨by omega, by omega⟩))
      case k2 => exact hkeep _ (by omega) (by omega) (by omega) (fun e => HZR.out _ e.symm (.inl ⟨by omega, by omega⟩))
      case six => exact (hkeep b6 (by omega) (by omega) (by omega) (fun e => HZR.out _ e.symm (.inl ⟨by omega, by omega⟩))).trans HH6.out
      case siz =>
        have := HG5.out.size
        simp at this ⊢
        omega
      case sr =>
        rw [HV.out, HE.out]
        have hbne : b ≠ bQ := fun e => HMB.out _ _ _ HBQ.out (by rw [e])
        have hbo : some b ≠ (Value.slice A' nq cq).ownBlock := fun e => HNB.out b e.symm rfl
        have hm5 : (w5.setCell ⟨bQ, 0, none⟩ (.slice A5 (nq + 1) c5)).heap[b]? = w1.heap[b]? := (Below.heap_setCell _ _ _ _ hbne).trans ((HG5.out.block b (by simp; omega) hbo).trans (Below.heap_alloc w1 _ b (by omega)))
        have hne : ∀ {k t cs}, At W' k t cs → t ≠ 25 → t ≠ 23 → At (w5.setCell ⟨bQ, 0, none⟩ (.slice A5 (nq + 1) c5)) k t cs := fun {k t cs} ha h1 h2 =>
          (hkeep k ha.lt (fun e => HMB.out _ _ _ ha (by rw [e])) (fun e => by
            subst e
            have h3 : W'.heap[k]? = _ := ha
            rw [show W'.heap[k]? = _ from HBQ.out] at h3
            injection h3 with h3
            injection h3 with _ h3
            exact h1 h3.symm) (own_ne HROW.out ha h2)).trans ha
        refine ⟨⟨hne HSB.out.di.bm (by decide) (by decide), (HM1.out.move hm5).ext (fD_upd d' y carc hc), A5, nq + 1, c5, ?q1, by simp; exact hql, ?q2, ?q3⟩, hne HSB.out.bg (by decide) (by decide), ?q4, ?q5⟩
        case q1 => exact HQ5.out.set 0 _
        case q2 =>
          have := ownsRow_setCell_other HO5.out (a := ⟨bQ, 0, none⟩) (fun e => own_ne HO5.out HQ5.out (by decide) e.symm) (.slice A5 (nq + 1) c5)
          rw [UC_append]
          exact this
        case q3 =>
          intro k hk hz3
          rcases HB5.out with h1 | h1
          · exact HZR.out k (by rw [← h1]; exact hk) hz3
          · rw [hk] at h1
            injection h1 with h1
            simp at h1
            rcases hz3 with ⟨_, hz3⟩ | ⟨a, ha, rfl⟩
            · omega
            · have := hAl a ha
              omega
        case q4 =>
          refine own_heap2 HSB.out.gr fun k hk => ?_
          cases hA : A with
          | none =>
            rw [hA] at hk
            cases hk
          | some a =>
            rw [hA] at hk
            injection hk with hk
            rw [← hk]
            exact hAk a hA
        case q5 =>
          have hl := HSB.out.low
          have hl1 := hl.grown HG1.out (Nat.le_trans hB0 hl.size) (fun k e => by cases e; omega)
          have hl2 := (hl1.alloc (Nat.le_trans hB0 hl1.size) (.cells #[.int .u64 (y : Int)] 23)).grown HG5.out (by have := hl1.size; simp; omega) (fun k hk => by have := (HROW.out.lt k hk).1; omega)
          exact hl2.grown (row := some bQ) ⟨rfl, rfl, rfl, by simp, fun k _ hk2 => Below.heap_setCell _ _ _ _ (fun e => hk2 (by rw [e]))⟩ (Nat.le_trans hB0 hl2.size) (fun k e => by cases e; omega)
    · have e : ((dy : Int) == 0) = false := by simp; omega
      have HE : Hid (visI [y] carc (d', q') = (d', q')) := by show _ = _; unfold visI visI; rw [if_neg (by show ¬ d' y = 0; rw [hdy]; exact h0)]
      clear h0 hdy
      gi_wp2_with (refine wpListIn_look rfl 14 rfl (.tmp 12) (.tmp 13) false rfl keyT_u64 Try.underlying41 (.int .i64 0) (Try.zeroValue3 _) rfl HSB.out.di.mp y rfl hUy.out (.int .i64 (dy : Int)) HLK.out ?_)
      exact ⟨KeepsFrom.refl _ _, ⟨rfl, rfl, fun _ _ => rfl⟩, by rw [HV.out, HE.out]; exact HSB.out, h6, hz⟩
  case done =>
    rintro D ys W' hD hys ⟨hs, h6, hz⟩ hK
    have hsz := HS.out.low.size
    rw [show vals ys = sucI g x from hys] at hs
    gi_wp2
    refine ⟨by simp, .inl ⟨_, _, rfl, run_takeDeferred hK, ?_⟩⟩
    refine ⟨_, results_none rfl _ _ _, rfl, ?_⟩
    exact (hs.grown (grownBy_putObj' W' D _) (fun r e => by cases e; exact ⟨by omega, by omega, _, hK, rfl⟩) (Nat.le_trans hB0 hs.low.size)).loosen
  case stop =>
    rintro D c pre W' _ _ h _
    exact h.elim
end Go.Proofs.Ytnkphpjnhjbokaa
