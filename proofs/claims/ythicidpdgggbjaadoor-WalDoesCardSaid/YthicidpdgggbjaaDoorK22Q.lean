/-
  A log on its disk, both made within a call: what Append, Force and the reading methods do to the two together.
  Conditions: logs of at most 2000 sectors.
-/
import Derived.Test.YthicidpdgggbjaaDoorK21Q
import Derived.Test.YthicidpdgggbjaaDoorK18Q
import Derived.Test.YthicidpdgggbjaaDoorK14Q
namespace Go.Proofs.YthicidpdgggbjaaDoor
open Go.RowKit
set_option maxRecDepth 8000

/-- A log on its disk, both made within the call that began at w. -/
structure DS (w : World) (gd gs g base size B : Nat) (S : List Sect) (nw : Int) (rs : List Er) (fo : Nat) (ws : List Sect) (vE vW : Value) (z : World) : Prop where
  plat : Plat (fun _ => False) z gd gs S nw (-1) [] false
  log : LogAt (pl_own gd gs) B z g gd base size rs fo ws vE vW
  low : Below w.heap.size w z
  hB : ∀ k, pl_own gd gs k → k < B
  hw : ∀ k, pl_own gd gs k → w.heap.size ≤ k
  hwB : w.heap.size ≤ B
section
variable {w z z' : World} {gd gs g base size B : Nat} {S : List Sect} {nw : Int} {rs : List Er} {fo : Nat} {ws : List Sect} {vE vW : Value}
theorem DS.call (h : DS w gd gs g base size B S nw rs fo ws vE vW z) (hb : Below z.heap.size z z') : DS w gd gs g base size B S nw rs fo ws vE vW z' :=
  ⟨h.plat.below hb, h.log.below hb, h.low.trans (hb.mono h.low.size), h.hB, h.hw, h.hwB⟩
theorem DS.drewN (h : DS w gd gs g base size B S nw rs fo ws vE vW z) (n : Nat) : DS w gd gs g base size B S nw rs fo ws vE vW (z.drewN n) := h.call ⟨rfl, rfl, rfl, Nat.le_refl _, fun _ _ => rfl⟩
theorem DS.apart (h : DS w gd gs g base size B S nw rs fo ws vE vW z) : ∀ k, XL g vE vW k → ¬ pl_own gd gs k := fun k hk hp => by
  have := (h.log.xlt k hk).2
  have := h.hB k hp
  omega
theorem DS.glt (h : DS w gd gs g base size B S nw rs fo ws vE vW z) : g < z.heap.size ∧ B ≤ g := h.log.xlt g (.inl rfl)
theorem DS.xw (h : DS w gd gs g base size B S nw rs fo ws vE vW z) : ∀ k, XL g vE vW k → w.heap.size ≤ k := fun k hk => Nat.le_trans h.hwB (h.log.xlt k hk).2
theorem DS.plt (h : DS w gd gs g base size B S nw rs fo ws vE vW z) : ∀ k, pl_own gd gs k → k < z.heap.size := fun k hk => by
  rcases hk with rfl | rfl
  · exact h.plat.lt.1
  · exact h.plat.lt.2.1
/-- What lies below the call's beginning, under any change of what the call made. -/
theorem below_mod {X : Nat → Prop} (hl : Below w.heap.size w z) (hm : Mod X z z') (hX : ∀ k, X k → w.heap.size ≤ k) : Below w.heap.size w z' := hm.below hl hX hl.size
theorem ELz.atBegin {r : Er} (h : ELz (fun k => w.heap.size ≤ k) w r) (hl : Below w.heap.size w z) : ELz (fun k => w.heap.size ≤ k) z r :=
  h.kept ⟨hl.os, hl.tape, hl.output, hl.size, fun k _ hk => hl.block k (by omega)⟩
theorem Lz.atBegin {n m : Nat} {A : Option Addr} {xs : List Value} (h : Lz (fun k => w.heap.size ≤ k) w m A n xs) (hl : Below w.heap.size w z) : Lz (fun k => w.heap.size ≤ k) z m A n xs :=
  h.kept ⟨hl.os, hl.tape, hl.output, hl.size, fun k _ hk => hl.block k (by omega)⟩

/-- The new log of a new disk. -/
theorem DS.new {n : Nat} (hp : Plat (fun _ => False) z gd gs S nw (-1) [] false) (hl : Below w.heap.size w z) (h1 : w.heap.size ≤ gd) (h2 : w.heap.size ≤ gs) (_ : n = n) :
    DS w gd gs z.heap.size base size z.heap.size S nw [] 0 [] (.slice none 0 0) (.slice none 0 0) (z.alloc (.cells #[.pointer (some ⟨gd, 0, none⟩), .int .i64 (base : Int), .int .i64 (size : Int), .slice none 0 0, .int .i64 0, .slice none 0 0] 82)) := by
  have hpl := hp.lt
  refine ⟨hp.below ((Below.refl _ z).alloc (Nat.le_refl _) _), log_new _ _ _ _ _, hl.alloc hl.size _, ?_, ?_, hl.size⟩
  · rintro k (rfl | rfl)
    · exact hpl.1
    · exact hpl.2.1
  · rintro k (rfl | rfl)
    · exact h1
    · exact h2

/-- What Append leaves. -/
def DApp (w : World) (gd gs g base size B : Nat) (S : List Sect) (nw : Int) (rs : List Er) (fo : Nat) (ws : List Sect) (vE vW : Value) (r : Er) (us : Nat) (z : World) (e : Ending) (z' : World) : Prop :=
  ∃ (r' : Er) (vE' vW' : Value), r'.e = withN r.e (us + 1) ∧ r'.np = r.np ∧ r'.na = r.na ∧ e = .returned (.tuple #[.int .u64 ((us + 1 : Nat) : Int), .int .i64 0]) ∧
    DS w gd gs g base size B S nw (rs ++ [r']) fo (ws ++ cutS (enc (withN r.e (us + 1))) us) vE' vW' z' ∧ Mod (XL g vE vW) z z' ∧ (∀ k, k < z.heap.size → XL g vE' vW' k → XL g vE vW k)
theorem ds_append (h : DS w gd gs g base size B S nw rs fo ws vE vW z) (hf : fo ≤ 2000) (hw : ws.length ≤ 2000) (hrs : rs.length ≤ 900) (us : Nat) (hu : us = fo + ws.length) (hsz : us ≤ size) (hsz2 : size ≤ 2000) (r : Er) (hr : ELz (fun k => w.heap.size ≤ k) z r)
    (hnp : r.np ≤ 1000) (hna : r.na ≤ 1000) (hg : Gd (withN r.e (us + 1))) (hfit : wid (withN r.e (us + 1)) ≤ size - us) :
    Calls Tryd.prog 10 #[.pointer (some ⟨g, 0, none⟩), .agg (erA r)] z (DApp w gd gs g base size B S nw rs fo ws vE vW r us z) := by
  refine (append_ok (pl_own gd gs) B z g gd base size rs fo ws vE vW h.log (by omega) (by omega) hrs us hu hsz (by omega) _ r hr hnp hna h.xw h.plt (by have := h.glt; omega) hg hfit).mono ?_
  rintro e z' ⟨r', vE', vW', h1, h2, h3, h4, h5, h6, h7⟩
  refine ⟨r', vE', vW', h1, h2, h3, h4, ⟨?_, h5, below_mod h.low h6 h.xw, h.hB, h.hw, h.hwB⟩, h6, h7⟩
  exact plat_any ((plat_any h.plat (XL g vE vW)).kept h6 (fun hk => h.apart _ hk (.inl rfl)) (fun hk => h.apart _ hk (.inr rfl)) (fun _ _ hk => hk)) _

/-- What Force leaves. -/
def DForce (w : World) (gd gs g base size B : Nat) (S : List Sect) (nw : Int) (rs : List Er) (ws : List Sect) (vE : Value) (p us : Nat) (z : World) (e : Ending) (z' : World) : Prop :=
  ∃ vW' : Value, e = .returned (.int .i64 0) ∧ DS w gd gs g base size B (upd S p ws (fun _ => true)) (nw + 1) rs us [] vE vW' z' ∧ Mod (fun k => pl_own gd gs k ∨ k = g) z z' ∧ (∀ k, XL g vE vW' k → k = g ∨ vE.ownBlock = some k)
theorem ds_force (h : DS w gd gs g base size B S nw rs fo ws vE vW z) (hf : fo ≤ 2000) (hwl : ws.length ≤ 2000) (hw : 0 < ws.length) (hn : S.length ≤ 100000) (hw0 : 0 ≤ nw) (hw1 : nw ≤ 1000000) (p : Nat) (hp : p = base + fo) (us : Nat) (hu : us = fo + ws.length) (hi : p + ws.length ≤ S.length) :
    Calls Tryd.prog 12 #[.pointer (some ⟨g, 0, none⟩)] z (DForce w gd gs g base size B S nw rs ws vE p us z) := by
  refine (force_ok (pl_own gd gs) B z g gd gs base size S nw rs fo ws vE vW h.log h.plat (fun _ hk => hk) h.hB hn hw (by omega) (by omega) hw0 hw1 p hp us hu hi).mono ?_
  rintro e z' ⟨h1, h2, h3, h4⟩
  refine ⟨_, h1, ⟨h2, h3, below_mod h.low h4 ?_, h.hB, h.hw, h.hwB⟩, h4, ?_⟩
  · rintro k (hk | rfl)
    · exact h.hw k hk
    · exact Nat.le_trans h.hwB h.glt.2
  · rintro k (hk | hk | hk)
    · exact .inl hk
    · exact .inr hk
    · cases hk

/-- What Open leaves of a log that is there. -/
def DOpen (w : World) (gd gs base size : Nat) (S : List Sect) (nw : Int) (es : List Ent) (kept : Nat → Bool) (z : World) (e : Ending) (z' : World) : Prop :=
  ∃ (m q : Nat) (vE : Value) (rs : List Er) (nw' : Int), IsWhole es kept m ∧ q = pos (es.take m) ∧ e = .returned (.tuple #[.pointer (some ⟨z.heap.size, 0, none⟩), .int .i64 0]) ∧ rs.map (·.e) = es.take m ∧ nw ≤ nw' ∧ nw' ≤ nw + 1 ∧
    DS w gd gs z.heap.size base size z.heap.size (upd S (base + q) (List.replicate (size - q) zsec) (fun _ => true)) nw' rs q [] vE (.slice none 0 0) z' ∧ Mod (pl_own gd gs) z z'
theorem ds_open (hp : Plat (fun _ => False) z gd gs S nw (-1) [] false) (hl : Below w.heap.size w z) (ho : ∀ k, pl_own gd gs k → w.heap.size ≤ k) (es : List Ent) (kept : Nat → Bool) (hn : S.length ≤ 100000) (h1 : 1 ≤ size) (h2 : base + size ≤ S.length) (hs : size ≤ 2000) (hw0 : 0 ≤ nw) (hw1 : nw ≤ 1000000)
    (hh : Held ((S.drop base).take size) es kept) (hnum : Numd es 0) : Calls Tryd.prog 25 #[.pointer (some ⟨gd, 0, none⟩), .int .i64 (base : Int), .int .i64 (size : Int)] z (DOpen w gd gs base size S nw es kept z) := by
  have hlt : ∀ k, pl_own gd gs k → k < z.heap.size := by
    rintro k (rfl | rfl)
    · exact hp.lt.1
    · exact hp.lt.2.1
  refine (open_ok gd gs S nw z es kept base size hp hn h1 h2 hs hw0 hw1 hh hnum).mono ?_
  rintro e z' ⟨m, q, vE, rs, nw', k1, k2, k3, k4, k5, k6, k7, k8, k9⟩
  exact ⟨m, q, vE, rs, nw', k1, k2, k3, k4, k5, k6, ⟨k8, k7.mono fun k _ hk => hlt k hk, below_mod hl k9 ho, hlt, ho, hl.size⟩, k9⟩
end
end Go.Proofs.YthicidpdgggbjaaDoor
