/-
  What granting does to a lock table, and what the walk of grant carries along.
  Conditions: none beyond those that each theorem names.
-/
import Derived.Test.YthbifccankfngaaGreatDoorK16Q
namespace Go.Proofs.YthbifccankfngaaGreatDoor
open Go.RowKit Go.Shelf
attribute [local go_sem] Oper.semAt_some
set_option maxRecDepth 20000

/-- The end of a part of a call: a table again, its blocks within X. -/
theorem th_tt {w0 w : World} {X Y : Nat → Prop} {B g b1 b2 b3 : Nat} {s s1 : TS} {V V' : RI → Value} {L : RI → List (Value × Value)} {r : Rs} {x : List Cm × List Cm} {vh vq : Value}
    (h : TbR w0 X w B g b1 b2 b3 s1 (setTh V r vh vq) V' L) (hth : s1.th = upd s.th r (some x)) (how : s1.ow = s.ow) (hV : ∀ i, V' i = setTh V r vh vq i) (hL : ∀ i, L i = setF (setF (rowI s) (.hold r) (x.1.map cmP)) (.queue r) (x.2.map cmP) i)
    (n1 : ∀ r, s.th r = none → V (.hold r) = nilS ∧ V (.queue r) = nilS) (n2 : ∀ t, s.ow t = none → V (.own t) = nilS)
    (hY : ∀ k, TbX g b1 b2 b3 V' k → Y k) (hl : ∀ k, Y k → k < w.heap.size) : Tt w g s1 Y := by
  refine ⟨⟨B, b1, b2, b3, V', ⟨h.gt, ?_, ?_, fun r' hr' => ?_, fun t ht => ?_, h.d12, h.d13, h.d23⟩, h.hB, hY⟩, hl⟩
  · have := h.ms
    rwa [← funext hV] at this
  · have e : L = rowI s1 := funext fun i => by
      rw [hL i, ← row_hold]
      cases i with
      | hold r' => simp [rowI, TS.at, hth]
      | queue r' => simp [rowI, TS.at, hth]
      | own t => simp [rowI, how]
    have := h.rows
    rwa [e] at this
  · rw [hth] at hr'
    have e2 : r' ≠ r := by rintro rfl; simp [upd] at hr'
    have := n1 r' (by simpa [upd, e2] using hr')
    rw [hV, hV, setTh_h, setTh_q, if_neg e2, if_neg e2]
    exact this
  · rw [how] at ht
    rw [hV, setTh_o]
    exact n2 t ht
theorem TbV.box_ne {w : World} {B g b1 b2 b3 : Nat} {s : TS} {V : RI → Value} (h : TbV w B g b1 b2 b3 s V) {k : Nat} {t : TypeId} {cs : Array Value} (ha : At w k t cs) (ht : t ≠ 54 ∧ t ≠ 33 ∧ t ≠ 61) : ¬ TbX g b1 b2 b3 V k := by
  rintro (rfl | rfl | rfl | rfl | ⟨i, hi⟩)
  · have := h.gt
    unfold At at this ha
    rw [ha] at this
    injection this with this
    injection this with _ this
    exact ht.2.2 this
  · obtain ⟨es, c, hb, _⟩ := h.ms.m1
    exact at_map ha hb rfl
  · obtain ⟨es, c, hb, _⟩ := h.ms.m2
    exact at_map ha hb rfl
  · obtain ⟨es, c, hb, _⟩ := h.ms.m3
    exact at_map ha hb rfl
  · refine own_ne (h.rows.own i) ha ?_ hi.symm
    cases i
    · exact ht.1
    · exact ht.1
    · exact ht.2.1
theorem own_mod {w w' : World} {X : Nat → Prop} {B : Nat} {e : TypeId} {sz : Nat} {v : Value} {n : Nat} {xs : List Value} (h : w.ownsRow B e sz v n xs) (hm : Mod X w w') (hx : ∀ k, v.ownBlock = some k → ¬ X k) : w'.ownsRow B e sz v n xs := by
  refine ⟨h.1, ?_⟩
  rcases h.2 with hn | ⟨g, cap, cur, rfl, hb, hgg, rest⟩
  · exact .inl hn
  · exact .inr ⟨g, cap, cur, rfl, hb, by rw [hm.block g (Array.getElem?_eq_some_iff.1 hgg).1 (hx g rfl)]; exact hgg, rest⟩
theorem own_at {w : World} {B : Nat} {e : TypeId} {sz : Nat} {v : Value} {n : Nat} {xs : List Value} (h : w.ownsRow B e sz v n xs) {k : Nat} (hk : v.ownBlock = some k) : ∃ cs, At w k e cs := by
  rcases h.2 with ⟨rfl, _⟩ | ⟨g, cap, cur, rfl, hb, hgg, rest⟩
  · cases hk
  · injection hk with hk
    subst hk
    exact ⟨cur, hgg⟩
theorem At.mod {w w' : World} {X : Nat → Prop} {g : Nat} {t : TypeId} {cs : Array Value} (h : At w g t cs) (hm : Mod X w w') (hx : ¬ X g) : At w' g t cs := (hm.block g h.lt hx).trans h
theorem tab_mod {w z : World} {X : Nat → Prop} (h : Tab w) (hm : Mod X w z) (hX : ∀ k, X k → 2 ≤ k) : Tab z := by
  have hs := h.size
  have c0 : ∀ j, z.cell? ⟨0, j, none⟩ = w.cell? ⟨0, j, none⟩ := fun j => World.cell?_of_block (a := ⟨0, j, none⟩) (hm.block 0 (by omega) fun hx => by have := hX 0 hx; omega)
  have c1 : ∀ j, z.cell? ⟨1, j, none⟩ = w.cell? ⟨1, j, none⟩ := fun j => World.cell?_of_block (a := ⟨1, j, none⟩) (hm.block 1 (by omega) fun hx => by have := hX 1 hx; omega)
  exact ⟨Nat.lt_of_lt_of_le hs hm.size, fun i j hi hj => (c0 _).trans (h.comp i j hi hj), fun i hi => (c1 _).trans (h.rd i hi), fun i hi => (c1 _).trans (h.wr i hi)⟩

theorem Tw.below {w0 w w' : World} {X : Nat → Prop} {g : Nat} {s : TS} (h : Tw w0 X g s w) (hb : Below w.heap.size w w') : Tw w0 X g s w' := by
  obtain ⟨X', h1, h2, h3⟩ := h
  exact ⟨X', h1.below hb, h2, h3.sub (Mod.of_below hb (fun _ => False)) (fun _ h => h.elim)⟩
/-- A row of numbers beside the table is turned. -/
theorem Tw.row {w0 w w' : World} {X : Nat → Prop} {g : Nat} {s : TS} (h : Tw w0 X g s w) {Bf sz n : Nat} {v : Value} {xs : List Value} (ho : w.ownsRow Bf 31 sz v n xs) (hB : w0.heap.size ≤ Bf) (hg : w.grownBy w' v.ownBlock) : Tw w0 X g s w' := by
  obtain ⟨X', h1, h2, h3⟩ := h
  obtain ⟨B, b1, b2, b3, V, hv, hB', hx⟩ := h1.ex
  have hv2 := hv.grown hg fun k hk => by
    obtain ⟨cs, ha⟩ := own_at ho hk
    exact hv.box_ne ha ⟨by decide, by decide, by decide⟩
  exact ⟨TbX g b1 b2 b3 V, ⟨⟨B, b1, b2, b3, V, hv2, Nat.le_trans hB' hg.size, fun _ hk => hk⟩, hv2.lt⟩, fun k hk => h2 k (hx k hk), h3.grown hg fun k hk => .inr (Nat.le_trans hB (ho.lt k hk).1)⟩
/-- A thing is deleted. -/
theorem del_fin {w0 w : World} {X : Nat → Prop} {B g b1 b2 b3 : Nat} {s : TS} {V : RI → Value} {r : Rs} (h : TbR w0 X w B g b1 b2 b3 { s with th := upd s.th r none } (setTh V r nilS nilS) V (rowI s))
    (n1 : ∀ r, s.th r = none → V (.hold r) = nilS ∧ V (.queue r) = nilS) (n2 : ∀ t, s.ow t = none → V (.own t) = nilS) : Tw w0 X g { s with th := upd s.th r none } w := by
  have h2 := (h.forget (.hold r)).forget (.queue r)
  refine h2.fin (fun i => rfl) (fun i => ?_) (fun r' hr' => ?_) (fun t ht => ?_)
  · cases i with
    | hold r' =>
      rw [setF_ne _ _ (by intro e; cases e)]
      by_cases e : r' = r
      · subst e; rw [setF_same]; simp [rowI, TS.at, upd]
      · rw [setF_ne _ _ (by intro e2; injection e2 with e2; exact e e2)]; simp [rowI, TS.at, upd, e]
    | queue r' =>
      by_cases e : r' = r
      · subst e; rw [setF_same]; simp [rowI, TS.at, upd]
      · rw [setF_ne _ _ (by intro e2; injection e2 with e2; exact e e2), setF_ne _ _ (by intro e; cases e)]; simp [rowI, TS.at, upd, e]
    | own t => rw [setF_ne _ _ (by intro e; cases e), setF_ne _ _ (by intro e; cases e)]; rfl
  · rw [setTh_h, setTh_q]
    by_cases e : r' = r
    · rw [if_pos e, if_pos e]; exact ⟨rfl, rfl⟩
    · rw [if_neg e, if_neg e]
      exact n1 r' (by simpa [upd, e] using hr')
  · rw [setTh_o]
    exact n2 t ht

/-! ### sizes -/
theorem repl_len (c : Cm) : ∀ h : List Cm, (replI c h).length = h.length
  | [] => rfl
  | d :: h => by
    rw [replI]
    split
    · rfl
    · rw [List.length_cons, List.length_cons, repl_len c h]
theorem notT_len (t : Nat) (l : List Cm) : (notT t l).length ≤ l.length := List.length_filter_le _ _
theorem SmS.mono {s : TS} {N M : Nat} (h : SmS s N) (hn : N ≤ M) : SmS s M := ⟨fun r => ⟨Nat.le_trans (h.1 r).1 hn, Nat.le_trans (h.1 r).2 hn⟩, fun t => Nat.le_trans (h.2 t) hn⟩
theorem sm_th {s : TS} {N : Nat} (h : SmS s N) (r : Rs) (x : List Cm × List Cm) (h1 : x.1.length ≤ N) (h2 : x.2.length ≤ N) : SmS { s with th := upd s.th r (some x) } N := by
  refine ⟨fun r' => ?_, h.2⟩
  by_cases e : r' = r
  · subst e
    rw [at_upd]
    exact ⟨h1, h2⟩
  · have : ({ s with th := upd s.th r (some x) } : TS).at r' = s.at r' := by simp [TS.at, upd, e]
    rw [this]
    exact h.1 r'
theorem sm_hold {s : TS} {N : Nat} (h : SmS s N) (r : Rs) (c : Cm) : SmS (holdI s r c) (N + 1) := by
  unfold holdI
  have hr := h.1 r
  split
  · exact sm_th (h.mono (Nat.le_succ _)) r _ (by rw [repl_len]; omega) (by show (s.at r).2.length ≤ _; omega)
  · have h2 := sm_th (h.mono (Nat.le_succ N)) r ((s.at r).1 ++ [c], (s.at r).2) (by simp; omega) (by show (s.at r).2.length ≤ _; omega)
    refine ⟨h2.1, fun t => ?_⟩
    by_cases e : t = c.1
    · subst e
      have := h.2 c.1
      simp only [upd, if_true, Option.getD_some, List.length_append, List.length_cons, List.length_nil]
      omega
    · have : (({ s with th := upd s.th r (some ((s.at r).1 ++ [c], (s.at r).2)), ow := upd s.ow c.1 (some ((s.ow c.1).getD [] ++ [r])) } : TS).ow t) = s.ow t := by simp [upd, e]
      rw [this]
      exact h2.2 t
theorem sm_wt {s : TS} {N : Nat} (h : SmS s N) (f : Nat → Option Rs) : SmS { s with wt := f } N := h
theorem sm_step {s : TS} {N : Nat} (h : SmS s N) (r : Rs) (c : Cm) : SmS (stepI s r c) (N + 1) := by
  unfold stepI
  exact sm_wt (sm_hold (sm_th h r ((s.at r).1, notT c.1 (s.at r).2) (h.1 r).1 (Nat.le_trans (notT_len _ _) (h.1 r).2)) r c) _
theorem step_q (s : TS) (r : Rs) (c : Cm) : ((stepI s r c).at r).2 = notT c.1 (s.at r).2 := by
  have h := (hold_th { s with th := upd s.th r (some ((s.at r).1, notT c.1 (s.at r).2)) } r c).1
  have e : (stepI s r c).at r = (holdI { s with th := upd s.th r (some ((s.at r).1, notT c.1 (s.at r).2)) } r c).at r := rfl
  rw [e, h, at_upd]
theorem step_qlen {s : TS} {r : Rs} {c : Cm} {q : List Cm} (h : (s.at r).2 = c :: q) : ((stepI s r c).at r).2.length ≤ q.length := by
  rw [step_q, h]
  have : notT c.1 (c :: q) = notT c.1 q := by simp [notT]
  rw [this]
  exact notT_len _ _
/-- Who waits for r is named by eight bytes. -/
def OkQ (s : TS) (r : Rs) : Prop := ∀ c ∈ (s.at r).2, U64 c.1
theorem okq_step {s : TS} {r : Rs} (h : OkQ s r) (c : Cm) : OkQ (stepI s r c) r := fun d hd => by
  rw [step_q] at hd
  exact h d (List.mem_filter.1 hd).1
theorem grantI_end {s : TS} {r : Rs} (h : (s.at r).2 = [] ∨ ∃ c q, (s.at r).2 = c :: q ∧ admI (s.at r).1 c = false) (n : Nat) : grantI n s r = (endI s r, []) := by
  cases n with
  | zero => rfl
  | succ n =>
    unfold grantI
    rcases h with h | ⟨c, q, h, h2⟩
    · rw [h]
    · rw [h]
      simp [h2]
theorem grantI_go {s : TS} {r : Rs} {c : Cm} {q : List Cm} (h : (s.at r).2 = c :: q) (h2 : admI (s.at r).1 c = true) (n : Nat) : grantI (n + 1) s r = ((grantI n (stepI s r c) r).1, c.1 :: (grantI n (stepI s r c) r).2) := by
  conv => lhs; unfold grantI
  rw [h]
  simp [h2]
set_option maxHeartbeats 400000 in
theorem of_any (t : Nat) (w : World) : Calls Tryz.prog 37 #[.int .u64 (t : Int)] w fun e w' => e = .returned (.func (.func 64) #[] #[.pointer (some ⟨w.heap.size, 0, none⟩)]) ∧ w' = w.alloc (.cells #[.int .u64 (t : Int)] 31) := by
  have hmf : ∀ (fn : Fn) (first cap : Array Value) (w : World), (Instr.makeFunc fn first cap).run Tryz.prog w = .ok (.func fn first cap) w := fun _ _ _ _ => rfl
  go_enter Tryz.func37, Tryz.ntmps37
  go_wp2_with fail
  go_ret
  exact ⟨rfl, rfl⟩
end Go.Proofs.YthbifccankfngaaGreatDoor
