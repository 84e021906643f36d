/-
  An act on a disk and on the reference's disk: they agree; an act on a disk that is down.
  Conditions: disks of at most 100000 sectors.
-/
import Derived.Test.YtggcfbglfmcdmaaD4
namespace Go.Proofs.Ytggcfbglfmcdmaa
open Go.RowKit

def I64 (n : Int) : Prop := -9223372036854775808 ≤ n ∧ n ≤ 9223372036854775807
/-- The schedules of a disk and of the reference's disk agree as far as it matters. -/
def Lk (s : Nat) (fu : Int) (kp : List Bool) (fu2 : Int) (kl : List Bool) (dn : Bool) : Prop :=
  dn = true ∨ ((fu = fu2 ∧ 0 ≤ fu ∨ fu < 0 ∧ fu2 < 0) ∧ (0 ≤ fu → kp = kl.take s))

/-- An act, its bytes and bools outside X. -/
structure ActAt (X : Nat → Prop) (w : World) (N : Int) (B : Option Addr) (l : List Int) (E : Option Addr) (el : List Bool) (e2 : Nat) : Prop where
  bytes : Lz X w 1 B l.length (IL l)
  keep : Lz X w 1 E el.length (BL el)
  bl : l.length ≤ 1000
  kl1 : el.length ≤ 1000
  c1 : el.length ≤ e2
  c2 : e2 ≤ maxLen
  n64 : I64 N
theorem ActAt.kept {X : Nat → Prop} {w w' : World} {N : Int} {B : Option Addr} {l : List Int} {E : Option Addr} {el : List Bool} {e2 : Nat} (h : ActAt X w N B l E el e2) (hm : Mod X w w') : ActAt X w' N B l E el e2 :=
  ⟨h.bytes.kept hm, h.keep.kept hm, h.bl, h.kl1, h.c1, h.c2, h.n64⟩

/-- A disk, and the reference's disk R, a value, agree. -/
structure BothAt (X : Nat → Prop) (w : World) (g gs s : Nat) (m : Int) (S : List Int) (nw fu : Int) (kp : List Bool) (dn : Bool) (A : Option Addr) (c : Nat) (fu2 : Int) (K : Option Addr) (kl : List Bool) (kc : Nat) : Prop where
  plat : Plat X w g gs S nw fu kp dn
  ref : RefAt X w A c K kc S kl
  link : Lk S.length fu kp fu2 kl dn
  len : S.length = s
  nw0 : 0 ≤ nw
  nw1 : nw ≤ m
  f1 : I64 fu
  f2 : I64 fu2
  k1 : kp.length ≤ 1000
  k2 : kl.length ≤ 1000
def Both (X : Nat → Prop) (w : World) (g gs s : Nat) (m : Int) (R : Array Value) : Prop :=
  ∃ S nw fu kp dn A c fu2 K kl kc, R = #[.slice A S.length c, .int .i64 nw, .int .i64 fu2, .slice K kl.length kc, .bool dn] ∧ BothAt X w g gs s m S nw fu kp dn A c fu2 K kl kc
theorem BothAt.kept {X Y : Nat → Prop} {w w' : World} {g gs s : Nat} {m : Int} {S : List Int} {nw fu : Int} {kp : List Bool} {dn : Bool} {A : Option Addr} {c : Nat} {fu2 : Int} {K : Option Addr} {kl : List Bool} {kc : Nat}
    (h : BothAt X w g gs s m S nw fu kp dn A c fu2 K kl kc) (hm : Mod Y w w') (h1 : ¬ Y g) (h2 : ¬ Y gs) (hY : ∀ k, k < w.heap.size → Y k → X k) : BothAt X w' g gs s m S nw fu kp dn A c fu2 K kl kc :=
  ⟨h.plat.kept hm h1 h2 hY, h.ref.kept (hm.mono hY), h.link, h.len, h.nw0, h.nw1, h.f1, h.f2, h.k1, h.k2⟩
theorem Both.kept {X Y : Nat → Prop} {w w' : World} {g gs s : Nat} {m : Int} {R : Array Value} (h : Both X w g gs s m R) (hm : Mod Y w w') (h1 : ¬ Y g) (h2 : ¬ Y gs) (hY : ∀ k, k < w.heap.size → Y k → X k) : Both X w' g gs s m R := by
  obtain ⟨S, nw, fu, kp, dn, A, c, fu2, K, kl, kc, rfl, h⟩ := h
  exact ⟨S, nw, fu, kp, dn, A, c, fu2, K, kl, kc, rfl, h.kept hm h1 h2 hY⟩
theorem Both.below {X : Nat → Prop} {w w' : World} {g gs s : Nat} {m : Int} {R : Array Value} (h : Both X w g gs s m R) (hb : Below w.heap.size w w') : Both X w' g gs s m R :=
  h.kept (Y := fun _ => False) (Mod.of_below hb _) (fun h => h) (fun h => h) (fun _ _ h => h.elim)
theorem Both.grow {X : Nat → Prop} {w : World} {g gs s : Nat} {m m' : Int} {R : Array Value} (h : Both X w g gs s m R) (hm : m ≤ m') : Both X w g gs s m' R := by
  obtain ⟨S, nw, fu, kp, dn, A, c, fu2, K, kl, kc, rfl, h⟩ := h
  exact ⟨S, nw, fu, kp, dn, A, c, fu2, K, kl, kc, rfl, ⟨h.plat, h.ref, h.link, h.len, h.nw0, Int.le_trans h.nw1 hm, h.f1, h.f2, h.k1, h.k2⟩⟩
theorem Both.size {X : Nat → Prop} {w : World} {g gs s : Nat} {m : Int} {R : Array Value} (h : Both X w g gs s m R) : R.size = 5 := by
  obtain ⟨S, nw, fu, kp, dn, A, c, fu2, K, kl, kc, rfl, h⟩ := h
  rfl
theorem Both.one {X : Nat → Prop} {w : World} {g gs s : Nat} {m : Int} {R : Array Value} (h : Both X w g gs s m R) : R.all (·.oneCell') = true := by
  obtain ⟨S, nw, fu, kp, dn, A, c, fu2, K, kl, kc, rfl, h⟩ := h
  exact ref_one _ _ _ _ _ _ _ _ _

/-- What an act on both leaves. -/
def DidB (X : Nat → Prop) (w : World) (g gs s : Nat) (m : Int) (e : Ending) (w' : World) : Prop :=
  ∃ R : Array Value, e = .returned (.tuple #[.agg R, .bool true]) ∧ Both X w' g gs s m R ∧ Mod (own g gs) w w'

theorem DidB.of {X : Nat → Prop} {w : World} {g gs s : Nat} {m : Int} {S : List Int} {nw fu : Int} {kp : List Bool} {dn : Bool} {fu2 : Int} {K : Option Addr} {kl : List Bool} {kc : Nat}
    (hl : Lk S.length fu kp fu2 kl dn) (hs : S.length = s) (h0 : 0 ≤ nw) (h1 : nw ≤ m) (f1 : I64 fu) (f2 : I64 fu2) (k1 : kp.length ≤ 1000) (k2 : kl.length ≤ 1000) {e : Ending} {w' : World}
    (h : Did X w g gs S nw fu kp dn S nw fu2 K kl kc dn true e w') : DidB X w g gs s m e w' := by
  obtain ⟨A, c, rfl, hp, hr, hm⟩ := h
  exact ⟨_, rfl, ⟨S, nw, fu, kp, dn, A, c, fu2, K, kl, kc, rfl, ⟨hp, hr, hl, hs, h0, h1, f1, f2, k1, k2⟩⟩, hm⟩

theorem do_write (kd : Int) (hkd : kd = 0 ∨ kd = 1) (X : Nat → Prop) (g gs : Nat) (w : World) (A : Option Addr) (Sr : List Int) (c : Nat) (nwr fu2 : Int) (K : Option Addr) (kl : List Bool) (kc : Nat) (dnr : Bool) (p N : Int) (B : Option Addr) (cB : Nat) (E : Option Addr) (e1 e2 : Nat) (l : List Int)
    (codeR codeP : Int) (bb : Bool) (S' Sr' : List Int) (nw' nwr' fu' : Int) (kp' : List Bool) (dn' dnr' : Bool) (fu2' : Int) (hc : (codeP == codeR) = bb)
    (hB : Lz X w 1 B l.length (IL l)) (hln : l.length ≤ 100000) (hG : ∀ k, own g gs k → k < w.heap.size) (hX : ∀ k, own g gs k → X k)
    (hRW : RW X w A Sr c nwr fu2 K kl kc dnr p l codeR Sr' nwr' fu2' dnr') (hPW : PW X w g gs p l codeP S' nw' fu' kp' dn') :
    Calls Try.prog 10 #[.pointer (some ⟨g, 0, none⟩), .agg #[.slice A Sr.length c, .int .i64 nwr, .int .i64 fu2, .slice K kl.length kc, .bool dnr], .agg #[.int .i64 kd, .int .i64 p, .int .i64 N, .slice B l.length cB, .slice E e1 e2]] w (Did X w g gs S' nw' fu' kp' dn' Sr' nwr' fu2' K kl kc dnr' bb) := by
  rcases hkd with rfl | rfl
  · exact do_write0 X g gs w A Sr c nwr fu2 K kl kc dnr p N B l.length cB E e1 e2 l codeR codeP bb S' Sr' nw' nwr' fu' kp' dn' dnr' fu2' hc hB hln hG hX hRW hPW
  · exact do_write1 X g gs w A Sr c nwr fu2 K kl kc dnr p N B l.length cB E e1 e2 l codeR codeP bb S' Sr' nw' nwr' fu' kp' dn' dnr' fu2' hc hB hln hG hX hRW hPW

theorem getD_take (kl : List Bool) (s j : Nat) (h : j < s) : (kl.take s).getD j false = kl.getD j false := by
  rw [List.getD_eq_getElem?_getD, List.getD_eq_getElem?_getD, List.getElem?_take, if_pos h]

theorem do_sync (X : Nat → Prop) (g gs s : Nat) (m : Int) (w : World) (R : Array Value) (kd p N : Int) (B : Option Addr) (l : List Int) (cB : Nat) (E : Option Addr) (el : List Bool) (e2 : Nat)
    (hB : Both X w g gs s m R) (ha : ActAt X w N B l E el e2) (hs : s ≤ 100000) (hm : m ≤ 1000000) (hX : ∀ k, own g gs k → X k) (hXl : ∀ k, X k → k < w.heap.size) :
    Calls Try.prog 10 #[.pointer (some ⟨g, 0, none⟩), .agg R, .agg #[.int .i64 kd, .int .i64 p, .int .i64 N, .slice B l.length cB, .slice E el.length e2]] w (DidB X w g gs s (m + 1)) := by
  obtain ⟨S, nw, fu, kp, dn, A, c, fu2, K, kl, kc, rfl, h⟩ := hB
  obtain ⟨hp, hr, hk, hl, n0, n1, f1, f2, k1, k2⟩ := h
  have hsl : S.length ≤ 100000 := by omega
  have hG : ∀ k, own g gs k → k < w.heap.size := fun k hk => hXl k (hX k hk)
  have hbl := ha.bl
  by_cases hkd : kd = 0 ∨ kd = 1
  · have wr := do_write kd hkd X g gs w A S c nw fu2 K kl kc dn p N B cB E el.length e2 l
    by_cases hi : Inside S.length p l.length
    · cases dn with
      | true =>
        exact (wr 4 4 true _ _ _ _ _ _ _ _ _ (by decide) ha.bytes (by omega) hG hX (rw_down hr hsl hi) (pw_down hp hsl hi)).mono fun e w' h => DidB.of hk hl n0 (by omega) f1 f2 k1 k2 h
      | false =>
        rcases hk with hk | ⟨hf, hkp⟩
        · cases hk
        by_cases h0 : fu = 0
        · subst h0
          obtain rfl : fu2 = 0 := by rcases hf with ⟨e, _⟩ | ⟨e, _⟩ <;> omega
          have e1 : upd S p.toNat l (fun j => kp.getD j false) = upd S p.toNat l (keptB 0 kl) := by
            apply upd_congr
            intro j hj
            obtain ⟨i1, i2, i3, i4⟩ := hi
            rw [hkp (by omega), getD_take _ _ _ (by omega)]
            rfl
          have hpw := pw_torn hp hsl hi (by omega) hXl
          rw [e1] at hpw
          exact (wr 4 4 true _ _ _ _ _ _ _ _ _ (by decide) ha.bytes (by omega) hG hX (rw_torn hr hsl hi hXl n0 (by omega)) hpw).mono fun e w' h =>
            DidB.of (.inl rfl) (by rw [upd_length]; exact hl) n0 (by omega) (by unfold I64; omega) f2 (by simp) k2 h
        · have h02 : fu2 ≠ 0 := by rcases hf with ⟨e, _⟩ | ⟨_, e⟩ <;> omega
          have e1 : upd S p.toNat l (fun _ => true) = upd S p.toNat l (keptB fu2 kl) := by
            apply upd_congr
            intro j _
            have : (fu2 == 0) = false := by simpa using h02
            simp [keptB, this]
          have hpw := pw_ok hp hsl hi h0 f1.1 f1.2 n0 (by omega)
          rw [e1] at hpw
          refine (wr 0 0 true _ _ _ _ _ _ _ _ _ (by decide) ha.bytes (by omega) hG hX (rw_ok hr hsl hi hXl n0 (by omega) h02 f2.1 f2.2) hpw).mono fun e w' h =>
            DidB.of (.inr ⟨?_, ?_⟩) (by rw [upd_length]; exact hl) (by omega) (by omega) ?_ ?_ k1 k2 h
          · rcases hf with ⟨e, hp⟩ | ⟨e1, e2⟩
            · left
              rw [if_pos (by omega), if_pos (by omega)]
              omega
            · right
              rw [if_neg (by omega), if_neg (by omega)]
              exact ⟨e1, e2⟩
          · intro hge
            rw [upd_length]
            apply hkp
            split at hge <;> omega
          · unfold I64 at f1 ⊢
            split <;> omega
          · unfold I64 at f2 ⊢
            split <;> omega
    · exact (wr 2 2 true _ _ _ _ _ _ _ _ _ (by decide) ha.bytes (by omega) hG hX (rw_bad hr hsl hi) (pw_bad hp hsl hi)).mono fun e w' h => DidB.of hk hl n0 (by omega) f1 f2 k1 k2 h
  · by_cases h2 : kd = 2
    · subst h2
      by_cases hi : Inside S.length p N
      · cases dn with
        | true => exact (do_read X g gs w A S S c nw nw fu fu2 kp K kl kc true true p N B l.length cB E el.length e2 4 [] (by simp) hp hr (rr_down hsl hi) (pr_down hp hsl hi)).mono fun e w' h => DidB.of hk hl n0 (by omega) f1 f2 k1 k2 h
        | false => exact (do_read X g gs w A S S c nw nw fu fu2 kp K kl kc false false p N B l.length cB E el.length e2 0 _ (by rw [List.length_take, List.length_drop]; omega) hp hr (rr_ok hr hsl hi) (pr_ok hp hsl hi)).mono fun e w' h => DidB.of hk hl n0 (by omega) f1 f2 k1 k2 h
      · exact (do_read X g gs w A S S c nw nw fu fu2 kp K kl kc dn dn p N B l.length cB E el.length e2 2 [] (by simp) hp hr (rr_bad hsl hi) (pr_bad hp hsl hi)).mono fun e w' h => DidB.of hk hl n0 (by omega) f1 f2 k1 k2 h
    · by_cases h3 : kd = 3
      · subst h3
        have hn := ha.n64
        refine (do_fuse X g gs w A S S c nw nw fu fu2 kp K kl kc dn dn p N B l.length cB E e2 el hp hr ha.keep ha.c1 ha.c2 hsl hG hX hXl).mono fun e w' h =>
          DidB.of (.inr ⟨?_, fun _ => rfl⟩) hl n0 (by omega) hn ?_ (by rw [List.length_take]; have := ha.kl1; omega) ha.kl1 h
        · split <;> omega
        · unfold I64 at hn ⊢
          split <;> omega
      · by_cases h4 : kd = 4
        · subst h4
          exact (do_up X g gs w A S S c nw nw fu fu2 kp K kl kc dn dn p N B l.length cB E el.length e2 hp hr hsl hG hX hXl).mono fun e w' h =>
            DidB.of (.inr ⟨.inr ⟨by omega, by omega⟩, fun h => absurd h (by omega)⟩) hl n0 (by omega) (by unfold I64; omega) (by unfold I64; omega) (by simp) (by simp) h
        · exact (do_none X g gs w A S S c nw nw fu fu2 kp K kl kc dn dn p N B l.length cB E el.length e2 kd (by omega) hp hr).mono fun e w' h => DidB.of hk hl n0 (by omega) f1 f2 k1 k2 h

/-- What an act leaves of a disk that is down. -/
def DidD (X : Nat → Prop) (w : World) (g gs : Nat) (S : List Int) (nw : Int) (e : Ending) (w' : World) : Prop :=
  ∃ (R : Array Value) (bb : Bool) (fu : Int) (kp : List Bool), e = .returned (.tuple #[.agg R, .bool bb]) ∧ Plat X w' g gs S nw fu kp true ∧ kp.length ≤ 1000 ∧ Mod (own g gs) w w'
theorem DidD.of {X : Nat → Prop} {w : World} {g gs : Nat} {S : List Int} {nw fu : Int} {kp : List Bool} {Sr : List Int} {nwr fu2 : Int} {K : Option Addr} {kl : List Bool} {kc : Nat} {dnr bb : Bool} (hk : kp.length ≤ 1000) {e : Ending} {w' : World}
    (h : Did X w g gs S nw fu kp true Sr nwr fu2 K kl kc dnr bb e w') : DidD X w g gs S nw e w' := by
  obtain ⟨A, c, rfl, hp, hr, hm⟩ := h
  exact ⟨_, bb, fu, kp, rfl, hp, hk, hm⟩

theorem do_down (X : Nat → Prop) (g gs : Nat) (w : World) (S : List Int) (nw fu : Int) (kp : List Bool) (A : Option Addr) (Sr : List Int) (c : Nat) (nwr fu2 : Int) (K : Option Addr) (kl : List Bool) (kc : Nat) (dnr : Bool) (kd p N : Int) (B : Option Addr) (l : List Int) (cB : Nat) (E : Option Addr) (el : List Bool) (e2 : Nat)
    (hp : Plat X w g gs S nw fu kp true) (hr : RefAt X w A c K kc Sr kl) (ha : ActAt X w N B l E el e2) (h4 : kd ≠ 4) (hs : S.length ≤ 100000) (hsr : Sr.length ≤ 100000) (n0 : 0 ≤ nwr) (n1 : nwr ≤ 1000000) (f2 : I64 fu2) (k1 : kp.length ≤ 1000)
    (hX : ∀ k, own g gs k → X k) (hXl : ∀ k, X k → k < w.heap.size) :
    Calls Try.prog 10 #[.pointer (some ⟨g, 0, none⟩), .agg #[.slice A Sr.length c, .int .i64 nwr, .int .i64 fu2, .slice K kl.length kc, .bool dnr], .agg #[.int .i64 kd, .int .i64 p, .int .i64 N, .slice B l.length cB, .slice E el.length e2]] w (DidD X w g gs S nw) := by
  have hG : ∀ k, own g gs k → k < w.heap.size := fun k hk => hXl k (hX k hk)
  have hbl := ha.bl
  by_cases hkd : kd = 0 ∨ kd = 1
  · have wr := do_write kd hkd X g gs w A Sr c nwr fu2 K kl kc dnr p N B cB E el.length e2 l
    have hpw : ∃ codeP, PW X w g gs p l codeP S nw fu kp true := by
      by_cases hi : Inside S.length p l.length
      · exact ⟨4, pw_down hp hs hi⟩
      · exact ⟨2, pw_bad hp hs hi⟩
    obtain ⟨codeP, hpw⟩ := hpw
    have hrw : ∃ codeR Sr' nwr' fu2' dnr', RW X w A Sr c nwr fu2 K kl kc dnr p l codeR Sr' nwr' fu2' dnr' := by
      by_cases hi : Inside Sr.length p l.length
      · cases dnr with
        | true => exact ⟨_, _, _, _, _, rw_down hr hsr hi⟩
        | false =>
          by_cases h0 : fu2 = 0
          · subst h0
            exact ⟨_, _, _, _, _, rw_torn hr hsr hi hXl n0 n1⟩
          · exact ⟨_, _, _, _, _, rw_ok hr hsr hi hXl n0 n1 h0 f2.1 f2.2⟩
      · exact ⟨_, _, _, _, _, rw_bad hr hsr hi⟩
    obtain ⟨codeR, Sr', nwr', fu2', dnr', hrw⟩ := hrw
    exact (wr codeR codeP _ _ _ _ _ _ _ _ _ _ rfl ha.bytes (by omega) hG hX hrw hpw).mono fun e w' h => DidD.of k1 h
  · by_cases h2 : kd = 2
    · subst h2
      have hpr : ∃ codeP, (codeP = 2 ∨ codeP = 4) ∧ PR w g p N codeP [] := by
        by_cases hi : Inside S.length p N
        · exact ⟨4, .inr rfl, pr_down hp hs hi⟩
        · exact ⟨2, .inl rfl, pr_bad hp hs hi⟩
      obtain ⟨codeP, hcp, hpr⟩ := hpr
      have hrr : ∃ codeR L, (codeR = 0 ∨ L = []) ∧ RR w A Sr c nwr fu2 K kl kc dnr p N codeR L := by
        by_cases hi : Inside Sr.length p N
        · cases dnr with
          | true => exact ⟨4, [], .inr rfl, rr_down hsr hi⟩
          | false => exact ⟨0, _, .inl rfl, rr_ok hr hsr hi⟩
        · exact ⟨2, [], .inr rfl, rr_bad hsr hi⟩
      obtain ⟨codeR, L, hcr, hrr⟩ := hrr
      by_cases hcc : codeP = codeR
      · subst hcc
        obtain rfl : L = [] := by rcases hcr with h | h; omega; exact h
        exact (do_read X g gs w A S Sr c nw nwr fu fu2 kp K kl kc true dnr p N B l.length cB E el.length e2 codeP [] (by simp) hp hr hrr hpr).mono fun e w' h => DidD.of k1 h
      · exact (do_readne X g gs w A S Sr c nw nwr fu fu2 kp K kl kc true dnr p N B l.length cB E el.length e2 codeR codeP (by simpa using hcc) L [] hp hr hrr hpr).mono fun e w' h => DidD.of k1 h
    · by_cases h3 : kd = 3
      · subst h3
        exact (do_fuse X g gs w A S Sr c nw nwr fu fu2 kp K kl kc true dnr p N B l.length cB E e2 el hp hr ha.keep ha.c1 ha.c2 hs hG hX hXl).mono fun e w' h => DidD.of (by rw [List.length_take]; have := ha.kl1; omega) h
      · exact (do_none X g gs w A S Sr c nw nwr fu fu2 kp K kl kc true dnr p N B l.length cB E el.length e2 kd (by omega) hp hr).mono fun e w' h => DidD.of k1 h
end Go.Proofs.Ytggcfbglfmcdmaa
