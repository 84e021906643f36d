/-
  The document's Mark.
  Conditions: at most 90000 records.
-/
import Derived.Test.YtpffnjnncgmgnaaB6
namespace Go.Proofs.Ytpffnjnncgmgnaa
open Go.RowKit
attribute [local go_sem] Oper.semAt_some
set_option maxRecDepth 20000

def ghostAt (l : List Rc) (k : Nat) (b : Bool) : List Rc := l.modify k fun r => { r with ghost := b }
theorem ghostAt_length (l : List Rc) (k : Nat) (b : Bool) : (ghostAt l k b).length = l.length := by simp [ghostAt]
theorem rcsL_ghost (b : Bool) : ∀ (l : List Rc) (k : Nat), k < l.length → (rcsL l).set (k * 6 + 5) (.bool b) = rcsL (ghostAt l k b)
  | a :: l, 0, _ => rfl
  | a :: l, k + 1, h => by
    have ih := rcsL_ghost b l k (by simpa using h)
    show (rcL a ++ rcsL l).set ((k + 1) * 6 + 5) _ = rcL a ++ rcsL (ghostAt l k b)
    rw [List.set_append_right _ _ (by rw [rcL_length]; omega), rcL_length, ← ih, show (k + 1) * 6 + 5 - 6 = k * 6 + 5 by omega]
def markR (l : List Rc) (id : Nat) (b : Bool) : List Rc × Bool := if 0 ≤ idxP (fun x => x.id == id) l then (ghostAt l (idxP (fun x => x.id == id) l).toNat b, true) else (l, false)
theorem own_some {w : World} {B n : Nat} {e : TypeId} {size : Nat} {v : Value} {xs : List Value} (h : w.ownsRow B e size v n xs) (hn : 0 < n) : ∃ g cap, v = .slice (some ⟨g, 0, none⟩) n cap ∧ B ≤ g ∧ n ≤ cap := by
  rcases h.2 with ⟨_, rfl⟩ | ⟨g, cap, cur, rfl, h1, _, h2, _⟩
  · omega
  · exact ⟨g, cap, rfl, h1, h2⟩
theorem own_cell {w : World} {B n : Nat} {e : TypeId} {size g cap : Nat} {xs : List Value} (h : w.ownsRow B e size (.slice (some ⟨g, 0, none⟩) n cap) n xs) {j : Nat} {u : Value} (hu : xs[j]? = some u) : w.cell? ⟨g, j, none⟩ = some u := by
  have := h.cells (g := g) rfl j u hu
  rwa [add_plain, Nat.zero_add] at this
set_option maxHeartbeats 3200000 in
theorem rMark_any (A : Option Addr) (n c : Nat) (l : List Rc) (id : Nat) (b : Bool) (w : World) (h : Lz NoX w 6 A n (rcsL l)) (hn : n ≤ 90000) (hc : n ≤ c) :
    Calls Try.prog 29 #[.slice A n c, .int .u64 (id : Int), .bool b] w (RetRA w (markR l id b).1 (.bool (markR l id b).2)) := by
  have HL := Lib.hid h
  have HLN := Lib.hid h.rclen
  clear h
  rcases idxP_cases (fun x => x.id == id) l with h2 | ⟨q, hql, h2⟩
  · have HE : Hid (markR l id b = (l, false)) := by show _ = _; unfold markR; rw [h2]; rfl
    have HQ := Lib.hid h2
    clear h2
    go_enter Try.func29, Try.ntmps29
    go_wp2_with (go_at_call 13; refine (rFind_any A n c l id _ HL.out (by omega)).mono ?_; rintro e z ⟨rfl, hz⟩; have HZ := Lib.hid hz; clear hz; rw [HQ.out])
    go_ret2
    rw [HE.out]
    exact RetRA.mk HL.out HZ.out hc
  · have HE : Hid (markR l id b = (ghostAt l q b, true)) := by show _ = _; unfold markR; rw [h2, if_pos (by omega)]; rfl
    have HQ := Lib.hid h2
    obtain ⟨r, hr⟩ : ∃ r, l[q] = r := ⟨_, rfl⟩
    have HC : Hid ((rcsL l)[q * 6 + 5]? = some (.bool r.ghost)) := rcsL_get l q hql 5 _ (by rw [hr]; rfl)
    have HQL := Lib.hid hql
    clear h2 hr
    rw [HLN.out] at hql
    obtain ⟨i0, hi0, hz0, hz1, hz2⟩ := rc_info
    go_enter Try.func29, Try.ntmps29
    go_wp2_with (first
      | (go_at_call 13; refine (rFind_any A n c l id _ HL.out (by omega)).mono ?_; rintro e z ⟨rfl, hz⟩; have HZ := Lib.hid hz; clear hz; rw [HQ.out])
      | (at_builtin; refine wpList_app _ rfl (.tmp 16) (.tmp 17) _ rfl w.heap.size 52 i0 _ 6 48 Try.underlying27 hi0 hz0 hz1 hz2 rfl (by omega) _ 0 [] rfl (World.ownsRow_nil _ _ _ _) _ A n c (rcsL l) rfl (HL.out.below HZ.out).lies (rcsL_cell l) (by simp only [maxLen]; omega) (by omega) HZ.out.size ?_; intro v1 w1 hown hg; have HO1 : Hid (w1.ownsRow w.heap.size 52 6 v1 n (rcsL l)) := (by have := hown; rw [Nat.zero_add, List.nil_append] at this; exact this); have HB1 := Lib.hid (HZ.out.grown hg HZ.out.size (fun k hk => by cases hk)); clear hown hg; obtain ⟨g, cap, rfl, hgB, hcap⟩ := own_some HO1.out (by omega); have cG := own_cell HO1.out HC.out; have fG := HO1.out.frozenAt (q * 6 + 5)))
    go_ret2
    rw [HE.out]
    have := (HO1.out.stored (q * 6 + 5) (.bool b)).1
    rw [rcsL_ghost b l q HQL.out] at this
    exact RetRA.own this (HB1.out.setCell hgB _)
end Go.Proofs.Ytpffnjnncgmgnaa
