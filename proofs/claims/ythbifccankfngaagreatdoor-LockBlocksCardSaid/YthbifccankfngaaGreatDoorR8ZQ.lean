/-
  The reference's Wake: what its loop carries along.
  Conditions: none beyond those that each theorem names.
-/
import Derived.Test.YthbifccankfngaaGreatDoorR7ZQ
namespace Go.Proofs.YthbifccankfngaaGreatDoor
open Go.RowKit Go.Shelf
set_option maxRecDepth 20000

theorem strT : Str 28 2 := ⟨_, Tryz.underlying28, rfl, by kernel_rfl⟩
theorem rtA_one (A1 A2 : Option Addr) (n1 c1 n2 c2 : Nat) : (rtA A1 A2 n1 c1 n2 c2).all (·.oneCell') = true := by simp [rtA, Value.oneCell']
/-- A table of the reference, readable, its rows outside X. -/
structure RtV (X : Nat → Prop) (w : World) (A1 : Option Addr) (n1 : Nat) (A2 : Option Addr) (n2 : Nat) (u : TR) : Prop where
  h : Lz X w 4 A1 n1 (rcL u.held)
  q : Lz X w 4 A2 n2 (rcL u.queue)
section
variable {X Y : Nat → Prop} {w w' : World} {A1 A2 : Option Addr} {n1 n2 : Nat} {u : TR}
theorem lz_wide {size n : Nat} {A : Option Addr} {xs : List Value} (h : Lz X w size A n xs) (hXY : ∀ k, k < w.heap.size → Y k → X k) : Lz Y w size A n xs := ⟨h.len, fun hn => by
  obtain ⟨b, o, h1, h2, h3, h4⟩ := h.spot hn
  exact ⟨b, o, h1, fun hy => h2 (hXY b h3 hy), h3, h4⟩⟩
theorem RtV.wide (h : RtV X w A1 n1 A2 n2 u) (hXY : ∀ k, k < w.heap.size → Y k → X k) : RtV Y w A1 n1 A2 n2 u := ⟨lz_wide h.h hXY, lz_wide h.q hXY⟩
theorem RtV.kept (h : RtV X w A1 n1 A2 n2 u) (hm : Mod X w w') : RtV X w' A1 n1 A2 n2 u := ⟨h.h.kept hm, h.q.kept hm⟩
end
/-- What Wake, Release and Cancel hand back: a table, and who holds now. -/
def WakR (w : World) (X0 : Nat → Prop) (p : TR × List Nat) (e : Ending) (w' : World) : Prop :=
  ∃ A1 n1 c1 A2 n2 c2 v, e = .returned (.tuple #[.agg (rtA A1 A2 n1 c1 n2 c2), v]) ∧ RtV (fun k => X0 k ∨ v.ownBlock = some k) w' A1 n1 A2 n2 p.1 ∧ w'.ownsRow w.heap.size 31 1 v p.2.length (UC p.2) ∧ Below w.heap.size w w'
theorem WakR.from {w z : World} {X0 : Nat → Prop} {p : TR × List Nat} {e : Ending} {w' : World} (hb : Below w.heap.size w z) (h : WakR z X0 p e w') : WakR w X0 p e w' := by
  obtain ⟨A1, n1, c1, A2, n2, c2, v, h1, h2, h3, h4⟩ := h
  exact ⟨A1, n1, c1, A2, n2, c2, v, h1, h2, own_base h3 hb.size, hb.trans (h4.mono hb.size)⟩
/-- The state of Wake's loop: begun at zq. -/
structure WkS (zq : World) (X0 : Nat → Prop) (b6 : Nat) (r : Rs) (q : List Cl) (u0 : TR) (N k : Nat) (u : TR) (W : List Nat) (v : Value) (z : World) : Prop where
  mod : Mod (fun j => j = b6) zq z
  rel : wakeL r q u0 = ((wakeL r (q.drop k) u).1, W ++ (wakeL r (q.drop k) u).2)
  own : z.ownsRow zq.heap.size 31 1 v W.length (UC W)
  box : ∃ A1 n1 c1 A2 n2 c2, At z b6 28 (rtA A1 A2 n1 c1 n2 c2) ∧ RtV (fun j => ((j = b6 ∨ j + 1 = b6) ∨ X0 j) ∨ v.ownBlock = some j) z A1 n1 A2 n2 u
  sz : u.held.length ≤ N + k ∧ u.queue.length ≤ N
  wl : W.length = k
def WkL (zq : World) (X0 : Nat → Prop) (b6 : Nat) (r : Rs) (q : List Cl) (u0 : TR) (N n : Nat) (v i : Value) (z : World) : Prop :=
  ∃ k u W A c, k ≤ n ∧ v = .slice A k c ∧ i = .int .i64 (k : Int) ∧ Hid (WkS zq X0 b6 r q u0 N k u W (.slice A k c) z)
section
variable {zq : World} {X0 : Nat → Prop} {b6 : Nat} {r : Rs} {q : List Cl} {u0 : TR} {N k : Nat} {u : TR} {W : List Nat} {v : Value} {z : World}
theorem WkS.start {zq : World} {X0 : Nat → Prop} {b6 : Nat} {r : Rs} {q : List Cl} {u0 : TR} {N n1 c1 n2 c2 : Nat} {A1 A2 : Option Addr} (hb : At zq b6 28 (rtA A1 A2 n1 c1 n2 c2)) (hr : RtV (fun j => (j = b6 ∨ j + 1 = b6) ∨ X0 j) zq A1 n1 A2 n2 u0) (hs : u0.held.length ≤ N ∧ u0.queue.length ≤ N) :
    WkS zq X0 b6 r q u0 N 0 u0 [] (.slice none 0 0) zq :=
  ⟨Mod.refl _ _, by rw [List.drop_zero, List.nil_append], World.ownsRow_nil _ _ _ _, ⟨A1, n1, c1, A2, n2, c2, hb, hr.wide (fun k _ hk => by
    rcases hk with hk | hk
    · exact hk
    · cases hk)⟩, by omega, rfl⟩
theorem WkS.fin (h : WkS zq X0 b6 r q u0 N k u W v z) (hk : k = q.length ∨ ∃ hk : k < q.length, freeR u.held q[k].2.1 r q[k].2.2 = false) : wakeL r q u0 = (u, W) := by
  rw [h.rel]
  rcases hk with hk | ⟨hk, hf⟩
  · rw [hk, List.drop_length]
    simp [wakeL]
  · rw [List.drop_eq_getElem_cons hk, wakeL, hf]
    simp
/-- One who waited holds now. -/
theorem WkS.next (h : WkS zq X0 b6 r q u0 N k u W v z) (hb6 : b6 < zq.heap.size) (hX0 : ∀ j, X0 j → j < zq.heap.size) (hk : k < q.length) (hf : freeR u.held q[k].2.1 r q[k].2.2 = true) {y w9 w5 : World} {A1 A2 : Option Addr} {n1 c1 n2 c2 : Nat} {v5 : Value}
    (hy : Below z.heap.size z y) (h1 : y.ownsRow z.heap.size 72 4 (.slice A1 n1 c1) n1 (rcL (grantR u.held q[k]))) (h2 : y.ownsRow z.heap.size 72 4 (.slice A2 n2 c2) n2 (rcL (dropR r u.queue)))
    (ha : At w9 b6 28 (rtA A1 A2 n1 c1 n2 c2)) (hg : y.grownBy w9 (some b6)) (o : Obj) (ho : w5.ownsRow zq.heap.size 31 1 v5 (W ++ [q[k].2.1]).length (UC W ++ [.int .u64 (q[k].2.1 : Int)])) (hg5 : (w9.alloc o).grownBy w5 v.ownBlock) (hv5 : v5.ownBlock = v.ownBlock ∨ v5.ownBlock = some (w9.alloc o).heap.size) :
    WkS zq X0 b6 r q u0 N (k + 1) ⟨grantR u.held q[k], dropR r u.queue⟩ (W ++ [q[k].2.1]) v5 w5 := by
  have hvz : ∀ j, v.ownBlock = some j → zq.heap.size ≤ j ∧ j < z.heap.size := fun j hj => h.own.lt j hj
  have hg95 : w9.grownBy w5 v.ownBlock := (World.grownBy_alloc w9 o _).andThen hg5 (fun j hj => .inr hj)
  have hmz : Mod (fun j => j = b6) zq w9 := ((h.mod.sub (Mod.of_below hy (fun _ => False)) (fun _ hx => hx.elim)).grown hg (fun j hj => by injection hj with hj; exact .inl hj.symm))
  have hm5 : Mod (fun j => j = b6) zq w5 := hmz.grown hg95 (fun j hj => .inr (hvz j hj).1)
  have hz9 : z.heap.size ≤ w9.heap.size := Nat.le_trans hy.size hg.size
  have hb6z : b6 < z.heap.size := Nat.lt_of_lt_of_le hb6 h.mod.size
  have hal : (w9.alloc o).heap.size = w9.heap.size + 1 := by simp
  have own5 : ∀ {A : Option Addr} {n c : Nat} {xs : List Cl}, y.ownsRow z.heap.size 72 4 (.slice A n c) n (rcL xs) → Lz (fun j => ((j = b6 ∨ j + 1 = b6) ∨ X0 j) ∨ v5.ownBlock = some j) w5 4 A n (rcL xs) := fun {A n c xs} hx => by
    have hx9 := hx.kept hg (.inr (fun e => by
      have := hx.lt b6 (by rw [e])
      omega))
    have hx5 : w5.ownsRow z.heap.size 72 4 (.slice A n c) n (rcL xs) := by
      have hne : ∀ j, v.ownBlock = some j → (Value.slice A n c).ownBlock ≠ some j := fun j hj e => by
        have h3 := (hx.lt j e).1
        have h4 := (hvz j hj).2
        omega
      refine hx9.kept hg95 ?_
      cases hv : v.ownBlock with
      | none =>
        by_cases e : (Value.slice A n c).ownBlock = none
        · exact .inl e
        · exact .inr e
      | some j => exact .inr (hne j hv)
    refine ⟨hx5.1, fun hn => ?_⟩
    obtain ⟨b, o2, e1, _, e3, e4⟩ := (Lz.of_own hx5 (fun _ h => h.elim) : Lz (fun _ => False) w5 4 A n (rcL xs)).spot hn
    refine ⟨b, o2, e1, fun hbad => ?_, e3, e4⟩
    have hbl : z.heap.size ≤ b ∧ b < y.heap.size := by
      rcases hx.2 with ⟨hh, hh2⟩ | ⟨g, cap, cur, hvv, hbg, hgg, _⟩
      · omega
      · injection hvv with hA
        rw [e1] at hA
        injection hA with hA
        injection hA with hA
        subst hA
        exact ⟨hbg, (Array.getElem?_eq_some_iff.1 hgg).1⟩
    have hzz := h.mod.size
    rcases hbad with (hbad | hbad) | hbad
    · omega
    · have := hX0 b hbad
      omega
    · rcases hv5 with h5 | h5
      · rw [h5] at hbad
        have := (hvz b hbad).2
        omega
      · rw [h5] at hbad
        injection hbad with hbad
        have := hg.size
        omega
  refine ⟨hm5, ?_, by rw [UC_append]; exact ho, ⟨A1, n1, c1, A2, n2, c2, ?_, ⟨own5 h1, own5 h2⟩⟩, ?_, by rw [List.length_append, h.wl]; rfl⟩
  · rw [h.rel, List.drop_eq_getElem_cons hk, wakeL, hf]
    simp
  · exact ha.grown hg95 (fun e => by
      have := (hvz b6 e.symm).1
      omega)
  · have e1 := grant_len u.held q[k]
    have e2 := drop_len r u.queue
    have e3 := h.sz
    constructor
    · show (grantR u.held q[k]).length ≤ _
      omega
    · show (dropR r u.queue).length ≤ _
      omega
end
end Go.Proofs.YthbifccankfngaaGreatDoor
