/-
  The reference's Release: claims gathered into a table of its own, and what its last loop carries along.
  Conditions: none beyond those that each theorem names.
-/
import Derived.Test.YthbifccankfngaaGreatDoorR8ZQ
namespace Go.Proofs.YthbifccankfngaaGreatDoor
open Go.RowKit Go.Shelf
set_option maxRecDepth 20000

/-! ### how many claims there are -/
theorem drop_tot {r : Rs} {q : List Cl} {c : Cl} {q2 : List Cl} (h : ofR q r = c :: q2) : (dropR r q).length + 1 = q.length ∧ ofR (dropR r q) r = q2 := by
  obtain ⟨h3, a, b, rfl, h5, h6⟩ := drop_split r q c q2 h
  rw [h5]
  refine ⟨by simp; omega, ?_⟩
  rw [ofR_append, ofR_none h6, List.nil_append]
  rw [ofR_append, ofR_none h6, List.nil_append, ofR_cons_eq h3] at h
  exact (List.cons.inj h).2
theorem wakeL_tot (r : Rs) : ∀ (q : List Cl) (u : TR), q.length ≤ (ofR u.queue r).length → (wakeL r q u).1.held.length + (wakeL r q u).1.queue.length ≤ u.held.length + u.queue.length ∧ (wakeL r q u).2.length ≤ q.length
  | [], u, _ => ⟨Nat.le_refl _, Nat.le_refl _⟩
  | c :: q, u, h => by
    rw [wakeL]
    split
    · cases hq : ofR u.queue r with
      | nil => rw [hq] at h; simp at h
      | cons d q2 =>
        obtain ⟨e1, e2⟩ := drop_tot hq
        rw [hq] at h
        have ih := wakeL_tot r q ⟨grantR u.held c, dropR r u.queue⟩ (by show _ ≤ (ofR (dropR r u.queue) r).length; rw [e2]; simpa using h)
        have e3 := grant_len u.held c
        have i1 : (wakeL r q ⟨grantR u.held c, dropR r u.queue⟩).1.held.length + (wakeL r q ⟨grantR u.held c, dropR r u.queue⟩).1.queue.length ≤ (grantR u.held c).length + (dropR r u.queue).length := ih.1
        refine ⟨?_, ?_⟩
        · show (wakeL r q ⟨grantR u.held c, dropR r u.queue⟩).1.held.length + (wakeL r q ⟨grantR u.held c, dropR r u.queue⟩).1.queue.length ≤ _
          omega
        · show (wakeL r q ⟨grantR u.held c, dropR r u.queue⟩).2.length + 1 ≤ q.length + 1
          have := ih.2
          omega
    · exact ⟨Nat.le_refl _, Nat.zero_le _⟩
theorem wakeR_tot (u : TR) (r : Rs) : (wakeR u r).1.held.length + (wakeR u r).1.queue.length ≤ u.held.length + u.queue.length ∧ (wakeR u r).2.length ≤ u.queue.length := by
  have h := wakeL_tot r (ofR u.queue r) u (Nat.le_refl _)
  exact ⟨h.1, Nat.le_trans h.2 (List.length_filter_le _ _)⟩
theorem wakes_tot : ∀ (l : List Rs) (u : TR), (wakes l u).1.held.length + (wakes l u).1.queue.length ≤ u.held.length + u.queue.length
  | [], _ => Nat.le_refl _
  | r :: l, u => by
    have h1 := wakeR_tot u r
    have h2 := wakes_tot l (wakeR u r).1
    show (wakes l (wakeR u r).1).1.held.length + (wakes l (wakeR u r).1).1.queue.length ≤ _
    omega

/-! ### claims gathered into a field of a box -/
structure GaS (zb : World) (b6 : Nat) (C : Value → Array Value) (F : List Cl) (v : Value) (z : World) : Prop where
  mod : Mod (fun k => k = b6) zb z
  own : z.ownsRow zb.heap.size 72 4 v F.length (rcL F)
  box : At z b6 28 (C v)
theorem GaS.start {zb : World} {b6 : Nat} {C : Value → Array Value} (h : At zb b6 28 (C (.slice none 0 0))) : GaS zb b6 C [] (.slice none 0 0) zb := ⟨Mod.refl _ _, World.ownsRow_nil _ _ _ _, h⟩
theorem GaS.under {zb z z' : World} {b6 : Nat} {C : Value → Array Value} {F : List Cl} {v : Value} (h : GaS zb b6 C F v z) (hb : Below z.heap.size z z') : GaS zb b6 C F v z' :=
  ⟨h.mod.sub (Mod.of_below hb (fun _ => False)) (fun _ h => h.elim), own_under h.own hb (Nat.le_refl _), h.box.under hb h.box.lt⟩
theorem GaS.app {zb z w5 : World} {b6 i N : Nat} {C : Value → Array Value} {F : List Cl} {v v5 : Value} {x : Cl} (h : GaS zb b6 C F v z) (hb : b6 < zb.heap.size) (hN : N = F.length + 1)
    (ho : w5.ownsRow zb.heap.size 72 4 v5 N (rcL F ++ rcL [x])) (hg : (z.alloc (.cells (rcA x) 72)).grownBy w5 v.ownBlock) (hC : (C v).setIfInBounds i v5 = C v5) :
    At w5 b6 28 (C v) ∧ GaS zb b6 C (F ++ [x]) v5 (w5.setCell ⟨b6, i, none⟩ v5) := by
  subst hN
  have hne : some b6 ≠ v.ownBlock := fun e => by have := (h.own.lt b6 e.symm).1; omega
  have h5 : At w5 b6 28 (C v) := (h.box.alloc _).grown hg hne
  have hm : Mod (fun k => k = b6) zb w5 := (h.mod.alloc _).grown hg (fun k hk => .inr (h.own.lt k hk).1)
  refine ⟨h5, ⟨hm.setCell (.inl rfl) v5, ?_, ?_⟩⟩
  · rw [← rcL_append] at ho
    have e : (F ++ [x]).length = F.length + 1 := by simp
    rw [e]
    exact own_mod ho ((Mod.refl (fun k => k = b6) w5).setCell (.inl rfl) v5) (fun k hk e => by have := (ho.lt k hk).1; omega)
  · have := h5.set i v5
    rw [hC] at this
    exact this

/-! ### the last loop -/
/-- The tables behind the two calls of without. -/
structure R13 (y : World) (A3 A4 : Option Addr) (n3 c3 n4 c4 : Nat) (F1 F2 : List Cl) (b10 : Nat) (z : World) : Prop where
  ge : y.heap.size ≤ b10
  box : At z b10 28 (rtA A3 A4 n3 c3 n4 c4)
  o3 : z.ownsRow y.heap.size 72 4 (.slice A3 n3 c3) n3 (rcL F1)
  o4 : z.ownsRow y.heap.size 72 4 (.slice A4 n4 c4) n4 (rcL F2)
  below : Below y.heap.size y z
structure RlT (zr : World) (X0 : Nat → Prop) (b10 : Nat) (l : List Rs) (u0 : TR) (N k : Nat) (u : TR) (W : List Nat) (v : Value) (z : World) : Prop where
  mod : Mod (fun j => j = b10) zr z
  rel : wakes l u0 = ((wakes (l.drop k) u).1, W ++ (wakes (l.drop k) u).2)
  own : z.ownsRow zr.heap.size 31 1 v W.length (UC W)
  box : ∃ A1 n1 c1 A2 n2 c2, At z b10 28 (rtA A1 A2 n1 c1 n2 c2) ∧ RtV (fun j => (j = b10 ∨ X0 j) ∨ v.ownBlock = some j) z A1 n1 A2 n2 u
  sz : u.held.length + u.queue.length ≤ N
  wl : W.length ≤ N * k
def RtL (zr : World) (X0 : Nat → Prop) (b10 : Nat) (l : List Rs) (u0 : TR) (N n : Nat) (v i : Value) (z : World) : Prop :=
  ∃ k u W nW A c, k ≤ n ∧ v = .slice A nW c ∧ i = .int .i64 (k : Int) ∧ Hid (W.length = nW) ∧ Hid (RlT zr X0 b10 l u0 N k u W (.slice A nW c) z)
theorem RlT.done {zr : World} {X0 : Nat → Prop} {b10 : Nat} {l : List Rs} {u0 : TR} {N k : Nat} {u : TR} {W : List Nat} {v : Value} {z : World} (h : RlT zr X0 b10 l u0 N k u W v z) (hk : k = l.length) : wakes l u0 = (u, W) := by
  rw [h.rel, hk, List.drop_length]
  simp [wakes]
/-- A row of the call's own, apart from blocks that are none of it. -/
theorem lz_own_off {w : World} {base size n c : Nat} {e : TypeId} {A : Option Addr} {xs : List Value} (h : w.ownsRow base e size (.slice A n c) n xs) {X : Nat → Prop} (hX : ∀ k, X k → some k ≠ (Value.slice A n c).ownBlock) : Lz X w size A n xs := by
  refine ⟨h.1, fun hn => ?_⟩
  obtain ⟨b, o, e1, _, e3, e4⟩ := (Lz.of_own h (fun _ h => h.elim) : Lz (fun _ => False) w size A n xs).spot hn
  refine ⟨b, o, e1, fun hbad => ?_, e3, e4⟩
  rcases h.2 with ⟨hh, hh2⟩ | ⟨g, cap, cur, hvv, hbg, hgg, _⟩
  · omega
  · injection hvv with hA
    rw [e1] at hA
    injection hA with hA
    injection hA with hA
    subst hA
    exact hX b hbad (by rw [e1]; rfl)
/-- One thing more is woken. -/
theorem RlT.next {zr : World} {X0 : Nat → Prop} {b10 : Nat} {l : List Rs} {u0 : TR} {N k : Nat} {u : TR} {W : List Nat} {v : Value} {z : World} (h : RlT zr X0 b10 l u0 N k u W v z) (hb10 : b10 < zr.heap.size) (hk : k < l.length) {p : TR × List Nat} (hp : wakeR u l[k] = p)
    {y w6 w7 : World} {A3 A4 : Option Addr} {n3 c3 n4 c4 M : Nat} {vv v7 : Value} (hy : Below z.heap.size z y) (hrt : RtV (fun j => ((j = b10 ∨ X0 j) ∨ v.ownBlock = some j) ∨ vv.ownBlock = some j) y A3 n3 A4 n4 p.1)
    (ha : At w6 b10 28 (rtA A3 A4 n3 c3 n4 c4)) (hg : y.grownBy w6 (some b10)) (ho : w7.ownsRow zr.heap.size 31 1 v7 M (UC W ++ UC p.2)) (hM : M = W.length + p.2.length) (hg7 : w6.grownBy w7 v.ownBlock)
    (hb7 : v7.ownBlock = v.ownBlock ∨ v7.ownBlock = some w6.heap.size) : RlT zr X0 b10 l u0 N (k + 1) p.1 (W ++ p.2) v7 w7 := by
  have hvz : ∀ j, v.ownBlock = some j → zr.heap.size ≤ j := fun j hj => (h.own.lt j hj).1
  have h6 : Mod (fun j => j = b10) zr w6 := (h.mod.sub (Mod.of_below hy (fun _ => False)) (fun _ hx => hx.elim)).grown hg (fun j hj => by injection hj with hj; exact .inl hj.symm)
  have ht := wakeR_tot u l[k]
  rw [hp] at ht
  have hsz := h.sz
  refine ⟨h6.grown hg7 (fun j hj => .inr (hvz j hj)), ?_, ?_, ⟨A3, n3, c3, A4, n4, c4, ?_, ?_⟩, by omega, ?_⟩
  · rw [h.rel, List.drop_eq_getElem_cons hk, wakes, hp]
    simp
  · rw [UC_append, List.length_append, ← hM]
    exact ho
  · exact ha.grown hg7 (fun e => by
      have := hvz b10 e.symm
      omega)
  · have r6 := hrt.wide (Y := fun j => ((j = b10 ∨ X0 j) ∨ v.ownBlock = some j)) (fun j _ hj => .inl hj)
    have r7 := r6.kept ((grown_mod hg).mono fun j _ hj => .inl (.inl hj))
    have r8 := r7.wide (Y := fun j => ((j = b10 ∨ X0 j) ∨ v7.ownBlock = some j) ∨ v.ownBlock = some j) (fun j hjl hj => by
      rcases hj with (hj | hj) | hj
      · exact .inl hj
      · rcases hb7 with h7 | h7
        · rw [h7] at hj
          exact .inr hj
        · rw [h7] at hj
          injection hj with hj
          omega
      · exact .inr hj)
    have m7 : Mod (fun j => v.ownBlock = some j) w6 w7 := (Mod.refl _ w6).grown hg7 (fun j hj => .inl hj)
    exact (r8.kept (m7.mono fun j _ hj => .inr hj)).wide (fun j _ hj => .inl hj)
  · rw [List.length_append, Nat.mul_succ]
    have := h.wl
    omega
/-- What one call of Wake leaves, and the box made beside it. -/
structure RkC (y : World) (X : Nat → Prop) (p : TR × List Nat) (A3 : Option Addr) (n3 c3 : Nat) (A4 : Option Addr) (n4 c4 b13 : Nat) (v : Value) (z : World) : Prop where
  ge : y.heap.size ≤ b13
  box : At z b13 28 (rtA A3 A4 n3 c3 n4 c4)
  rt : RtV (fun k => X k ∨ v.ownBlock = some k) z A3 n3 A4 n4 p.1
  own : z.ownsRow y.heap.size 31 1 v p.2.length (UC p.2)
  below : Below y.heap.size y z
/-- append(v, x...), x a slice that may be empty; where the row lies behind it. -/
theorem wpList_app3 {ops : Array Oper} {rest : List Oper} {o : Oper} {a : Act} {w : World} {Q : Exit → Act → World → Prop} (hgd : o.guard = none) (s x : Operand) (t : TypeId)
    (ho : o.op = .call { callee := .builtin .append, args := #[s, x], argTypes := #[t, t] })
    (base : Nat) (e : TypeId) (i : TypeInfo) (z : Value) (size bytes : Nat) (ht : Tryz.prog.underlying t = some (.slice e)) (hi : Tryz.prog.info? e = some i) (hz : i.zero = some z)
    (hsize : i.size = size) (hby : i.bytes = bytes) (hzs : z.cells.size = size) (hsz : 0 < size)
    (v : Value) (n : Nat) (xs : List Value) (hs : a.eval s = v) (hown : w.ownsRow base e size v n xs)
    (B : Nat) (A : Option Addr) (m c : Nat) (news : List Value) (hx : a.eval x = .slice A m c) (hr : Lies w B size A m news) (h1 : ∀ u ∈ news, u.oneCell' = true)
    (h63 : n + m ≤ maxLen) (hbytes : (n + m) * bytes ≤ 140737488355328) (hbase : base ≤ w.heap.size)
    (h : ∀ v' w', w'.ownsRow base e size v' (n + m) (xs ++ news) → w.grownBy w' v.ownBlock → (v'.ownBlock = v.ownBlock ∨ v'.ownBlock = some w.heap.size) → wpList Tryz.prog ops Q rest (a.put o.dst v') w') : wpList Tryz.prog ops Q (o :: rest) a w := by
  by_cases hm : 0 < m
  · exact wpList_app2 w hgd s x t ho base e i z size bytes ht hi hz hsize hby hzs hsz v n xs hs hown B A m c news hx hr h1 hm h63 hbytes hbase h
  · obtain rfl : m = 0 := by omega
    have hn : news = [] := List.eq_nil_of_length_eq_zero (by rw [hr.len]; simp)
    subst hn
    cases A with
    | some a1 =>
      obtain ⟨v', w', hrun, h3, h4, _, h5⟩ := run_append_own_at (P := Tryz.prog) w base t o.type e i z size bytes ht hi hz hsize hby hzs hsz v n xs hown a1 0 c [] (by simp) (fun j u hu => by simp at hu) h1 h63 hbytes hbase
      exact Lib.wpList_append_run w hgd s x t t ho v _ hs hx v' w' hrun (h v' w' h3 h4 h5)
    | none =>
      refine Lib.wpList_append_run w hgd s x t t ho v _ hs hx v w ?_ (h v w (by simpa using hown) ⟨rfl, rfl, rfl, Nat.le_refl _, fun _ _ _ => rfl⟩ (.inl rfl))
      rcases hown.2 with ⟨rfl, rfl⟩ | ⟨g, cap, cur, rfl, _, _, hnc, _⟩
      · simp [Builtin.append_, run_underlying ht, sizeOf, typeInfo, hi, Builtin.lenOf, Builtin.firstCells]
      · simp [Builtin.append_, run_underlying ht, sizeOf, typeInfo, hi, Builtin.lenOf, Builtin.firstCells, hnc, storeCells]
end Go.Proofs.YthbifccankfngaaGreatDoor
