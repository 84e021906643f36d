/-
  The law's txns; the state of the laws' loops over acts.
  Conditions: at most 60 acts.
-/
import Derived.Test.YthbifccankfngaaGreatDoorLAZQ
import Derived.Test.YthbifccankfngaaGreatDoorL7ZQ
namespace Go.Proofs.YthbifccankfngaaGreatDoor
open Go.RowKit Go.Shelf
attribute [local go_sem] Oper.semAt_some
set_option maxRecDepth 20000

def txL (os : List Opx) : List Nat := 77 :: os.map (·.t)
def TxL (w : World) (os : List Opx) (n : Nat) (v i : Value) (z : World) : Prop :=
  ∃ (k : Nat) (F : List Nat) (nF : Nat) (A : Option Addr) (c : Nat), k ≤ n ∧ nF = k + 1 ∧ v = .slice A nF c ∧ i = .int .i64 (k : Int) ∧ Hid (F.length = nF) ∧ Hid (F = txL (os.take k)) ∧ Hid (BlS w F (.slice A nF c) z)
set_option maxHeartbeats 3200000 in
theorem txns_any (AO : Option Addr) (N cO : Nat) (os : List Opx) (w : World) (hO : OZ w AO N os) (hN : N ≤ 60) :
    Calls Tryz.prog 10 #[.slice AO N cO] w (fun e w' => ∃ A c, e = .returned (.slice A (N + 1) c) ∧ Lz (fun _ => False) w' 1 A (N + 1) (UC (txL os)) ∧ Below w.heap.size w w') := by
  have HO := Lib.hid hO
  clear hO
  go_enter Tryz.func10, Tryz.ntmps10
  go_wp2_with fail
  have HS0 : Hid (BlS w (txL (os.take 0)) (.slice (some ⟨w.heap.size, 0, none⟩) 1 1) (w.alloc (.cells #[.int .u64 (77 : Int)] 31))) := ⟨(Below.refl _ w).alloc (Nat.le_refl _) _, own_new1 w _ _⟩
  generalize w.alloc (.cells #[.int .u64 (77 : Int)] 31) = z0 at HS0 ⊢
  generalize (some ⟨w.heap.size, 0, none⟩ : Option Addr) = a0 at HS0 ⊢
  go_loopw [3, 4] (fun v i z => TxL w os N v i z) (fun _ i _ => N - (intOf i).toNat)
  case atStart => exact ⟨0, _, 1, a0, 1, Nat.zero_le _, rfl, rfl, rfl, Lib.hid rfl, Lib.hid rfl, HS0⟩
  case round =>
    obtain ⟨k, F, nF, AF, cF, hk, hnF, rfl, rfl, HNF, HF, HS⟩ := hrel
    by_cases hlt : k < N
    · obtain ⟨b, o, hl, rfl, hb, hr⟩ := (HO.out.below HS.out.below).at hlt
      obtain ⟨x, hx⟩ : ∃ x, os[k] = x := ⟨_, rfl⟩
      rw [hx] at hr
      have pt : wr.cell? ⟨b, o + k * 5 + 1, none⟩ = some (.int .u64 (x.t : Int)) := hr 1 _ rfl
      have HX := Lib.hid hx
      clear hr hx
      have OWN : Hid ((wr.alloc (.cells #[.int .u64 (x.t : Int)] 31)).ownsRow w.heap.size 31 1 (.slice AF nF cF) nF (UC F)) := by
        have := own_under HS.out.own ((Below.refl _ wr).alloc (Nat.le_refl _) (.cells #[.int .u64 (x.t : Int)] 31)) (Nat.le_refl _)
        rw [HNF.out] at this
        exact this
      have LN := Lib.hid (lies_new wr (.int .u64 (x.t : Int)) 31)
      have HSZ : Hid (w.heap.size ≤ (wr.alloc (.cells #[.int .u64 (x.t : Int)] 31)).heap.size) := by have := HS.out.below.size; show _ ≤ _; simp; omega
      obtain ⟨i0, hi0, hz0, hz1, hz2⟩ := u_info
      go_wp2_with (at_builtin; refine wpList_app2 _ rfl (.tmp 12) (.tmp 18) 37 rfl w.heap.size 31 i0 (.int .u64 0) 1 8 Tryz.underlying37 hi0 hz0 hz1 hz2 rfl (by omega) (.slice AF nF cF) nF (UC F) rfl OWN.out (wr.heap.size + 1) (some ⟨wr.heap.size, 0, none⟩) 1 1 [.int .u64 (x.t : Int)] rfl LN.out (fun u hu => by simp at hu; rw [hu]; rfl) (by omega) (by simp only [maxLen]; omega) (by omega) HSZ.out ?_; intro v5 w5 ho5 hg5 hb5)
      obtain ⟨A5, c5, rfl, _⟩ := own_slice ho5
      have hn := HS.out.app (x := x.t) (by rw [HNF.out]) ho5 hg5
      exact ⟨⟨k + 1, F ++ [x.t], nF + 1, A5, c5, by omega, by omega, rfl, by go_num, Lib.hid (by rw [List.length_append, HNF.out]; rfl), Lib.hid (by show F ++ [x.t] = txL (List.take (k + 1) os); rw [HF.out, List.take_add_one, List.getElem?_eq_getElem hl, HX.out]; simp [txL]), Lib.hid hn⟩, by simp [intOf]; omega⟩
    · obtain rfl : k = N := by omega
      subst hnF
      go_wp2_with fail
      go_ret
      have e : F = txL os := by rw [HF.out, List.take_of_length_le (by have := HO.out.len; omega)]
      have ho := HS.out.own
      rw [HNF.out, e] at ho
      exact ⟨AF, cF, rfl, Lz.of_own ho (fun _ h => h.elim), HS.out.below⟩
theorem txL_ok {os : List Opx} (h : ∀ o ∈ os, OpOk o) : ∀ t ∈ txL os, U64 t := fun t ht => by
  rcases List.mem_cons.1 ht with rfl | ht
  · show (77 : Nat) < _; omega
  · obtain ⟨o, ho, rfl⟩ := List.mem_map.1 ht
    exact (h o ho).1

/-! ### the state of a loop over acts -/
/-- Rows of the reference do not lie in the box that names them. -/
theorem rtv_off {X : Nat → Prop} {z : World} {A1 A2 B1 B2 : Option Addr} {n1 n2 m1 d1 m2 d2 b : Nat} {u : TR} (h : RtV X z A1 n1 A2 n2 u) (ha : At z b 28 (rtA B1 B2 m1 d1 m2 d2)) : RtV (fun k => X k ∨ k = b) z A1 n1 A2 n2 u := by
  have key : ∀ {A : Option Addr} {n : Nat} {l : List Cl}, Lz X z 4 A n (rcL l) → Lz (fun k => X k ∨ k = b) z 4 A n (rcL l) := fun {A n l} hl => ⟨hl.len, fun hn => by
    have hll := hl.rclen
    obtain ⟨b', o, h1, h2, h3, h4⟩ := hl.spot hn
    refine ⟨b', o, h1, fun hx => ?_, h3, h4⟩
    rcases hx with hx | rfl
    · exact h2 hx
    · cases l with
      | nil => simp at hll; omega
      | cons c l =>
        have hc := h4 0 (.int .i64 c.1.1) rfl
        rw [ha.cell] at hc
        match o, hc with
        | 0, hc => cases hc
        | 1, hc => cases hc
        | (k + 2), hc => cases hc⟩
  exact ⟨key h.h, key h.q⟩
theorem Two.below {w w' : World} {g : Nat} {X : Nat → Prop} {s : TS} {A1 : Option Addr} {n1 : Nat} {A2 : Option Addr} {n2 : Nat} {u : TR} {N : Nat} (h : Two w g X s A1 n1 A2 n2 u N) (hb : Below w.heap.size w w') : Two w' g X s A1 n1 A2 n2 u N :=
  ⟨h.tt.below hb, h.rt.kept (Mod.of_below hb X), h.rel, h.ok, h.sz, h.x2, tab_mod h.tb (Mod.of_below hb X) h.x2⟩
theorem Two.mono {w : World} {g : Nat} {X : Nat → Prop} {s : TS} {A1 : Option Addr} {n1 : Nat} {A2 : Option Addr} {n2 : Nat} {u : TR} {N M : Nat} (h : Two w g X s A1 n1 A2 n2 u N) (hN : N ≤ M) : Two w g X s A1 n1 A2 n2 u M :=
  ⟨h.tt, h.rt, h.rel, h.ok, Nat.le_trans h.sz hN, h.x2, h.tb⟩
structure LdS (w0 : World) (g b4 k : Nat) (X : Nat → Prop) (s : TS) (A1 : Option Addr) (n1 c1 : Nat) (A2 : Option Addr) (n2 c2 : Nat) (u : TR) (z : World) : Prop where
  two : Two z g X s A1 n1 A2 n2 u k
  box : At z b4 28 (rtA A1 A2 n1 c1 n2 c2)
  xb : ¬ X b4
  x0 : ∀ j, X j → w0.heap.size ≤ j
  low : Below w0.heap.size w0 z
  bw : w0.heap.size ≤ b4
  tb : Tab w0
section
variable {w0 z z' : World} {g b4 k : Nat} {X : Nat → Prop} {s : TS} {A1 A2 : Option Addr} {n1 c1 n2 c2 : Nat} {u : TR}
theorem LdS.below (h : LdS w0 g b4 k X s A1 n1 c1 A2 n2 c2 u z) (hb : Below z.heap.size z z') : LdS w0 g b4 k X s A1 n1 c1 A2 n2 c2 u z' :=
  ⟨h.two.below hb, h.box.under hb h.box.lt, h.xb, h.x0, h.low.trans (hb.mono h.low.size), h.bw, h.tb⟩
/-- What the call of do leaves, before its result is put into the box. -/
theorem LdS.mid (h : LdS w0 g b4 k X s A1 n1 c1 A2 n2 c2 u z) {X' : Nat → Prop} (hx : ∀ j, X' j → X j ∨ z.heap.size ≤ j) (hm : Mod X z z') : Below w0.heap.size w0 z' ∧ At z' b4 28 (rtA A1 A2 n1 c1 n2 c2) ∧ ¬ X' b4 ∧ ∀ j, X' j → w0.heap.size ≤ j :=
  ⟨Mod.below h.low hm h.x0 h.low.size, h.box.mod hm h.xb, fun hk => by
    rcases hx _ hk with h1 | h1
    · exact h.xb h1
    · have := h.box.lt; omega, fun j hj => by
    rcases hx _ hj with h1 | h1
    · exact h.x0 j h1
    · exact Nat.le_trans h.low.size h1⟩
theorem LdS.put {X' : Nat → Prop} {y w9 : World} {s' : TS} {B1 B2 : Option Addr} {m1 d1 m2 d2 : Nat} {u' : TR} (hT : Tab w0) (hbw : w0.heap.size ≤ b4) (hd : Two y g X' s' B1 m1 B2 m2 u' k) (hlow : Below w0.heap.size w0 y) (hbx : At y b4 28 (rtA A1 A2 n1 c1 n2 c2)) (hxb : ¬ X' b4) (hx0 : ∀ j, X' j → w0.heap.size ≤ j)
    (ha : At w9 b4 28 (rtA B1 B2 m1 d1 m2 d2)) (hg : y.grownBy w9 (some b4)) : LdS w0 g b4 k X' s' B1 m1 d1 B2 m2 d2 u' w9 := by
  have hl9 : Below w0.heap.size w0 w9 := Mod.below hlow (grown_mod hg) (fun j hj => by rw [hj]; exact hbw) hlow.size
  refine ⟨⟨hd.tt.beside hg (fun j hj => by injection hj with hj; subst hj; exact hxb), (((rtv_off hd.rt hbx).kept ((grown_mod hg).mono fun j _ hj => .inr hj)).wide fun j _ hj => .inl hj), hd.rel, hd.ok, hd.sz, hd.x2, ?_⟩, ha, hxb, hx0, hl9, hbw, hT⟩
  have hs := hT.size
  exact tab_mod hT (Mod.of_below hl9 (fun _ => False)) (fun _ h => h.elim)
end
end Go.Proofs.YthbifccankfngaaGreatDoor
