/-
  The example of the law: its calls on the table, and what they leave.
  Conditions: none beyond those that each theorem names.
-/
import Derived.Test.YthbifccankfngaaGreatDoorL8ZQ
import Derived.Test.YthbifccankfngaaGreatDoorK20ZQ
namespace Go.Proofs.YthbifccankfngaaGreatDoor
open Go.RowKit Go.Shelf
attribute [local go_sem] Oper.semAt_some
set_option maxRecDepth 20000

/-- A table of the call's own, beside the document's; cells that are kept. -/
structure Wq (w0 w : World) (g : Nat) (X : Nat → Prop) (u : TR) (ps : List (Addr × Value)) : Prop where
  ex : ∃ s, Wk w g X s u
  kp : Kp w X ps
  low : Below w0.heap.size w0 w
  x0 : ∀ k, X k → w0.heap.size ≤ k
section
variable {w0 w w' : World} {g : Nat} {X X' : Nat → Prop} {u u' : TR} {ps : List (Addr × Value)}
theorem Wq.below (h : Wq w0 w g X u ps) (hb : Below w.heap.size w w') : Wq w0 w' g X u ps := by
  obtain ⟨s, hs⟩ := h.ex
  exact ⟨⟨s, hs.below hb⟩, h.kp.below hb, h.low.trans (hb.mono h.low.size), h.x0⟩
theorem Wq.step (h : Wq w0 w g X u ps) (hs : StepR w g X u' w' X') : Wq w0 w' g X' u' ps :=
  ⟨hs.1, h.kp.step hs.2.2 hs.2.1, Mod.below h.low hs.2.2 h.x0 h.low.size, fun k hk => by
    rcases hs.2.1 k hk with h1 | h1
    · exact h.x0 k h1
    · exact Nat.le_trans h.low.size h1⟩
theorem Wq.cons (h : Wq w0 w g X u ps) {p : Addr} {v : Value} (h1 : w.cell? p = some v) (h2 : ¬ X p.block) : Wq w0 w g X u ((p, v) :: ps) := ⟨h.ex, h.kp.cons h1 h2, h.low, h.x0⟩
theorem Wq.get (h : Wq w0 w g X u ps) {p : Addr} {v : Value} (hm : (p, v) ∈ ps) : w.cell? p = some v := h.kp.get hm
theorem Wq.res (h : Wq w0 w g X u ps) {b : Nat} {r : Rs} (h1 : (⟨b, 0, none⟩, .int .i64 r.1) ∈ ps) (h2 : (⟨b, 1, none⟩, .int .u64 (r.2 : Int)) ∈ ps) : w.rangeAt b 0 (encR r) := fun j v hv => by
  rw [Nat.zero_add]
  match j, hv with
  | 0, hv => injection hv with hv; subst hv; exact h.get h1
  | 1, hv => injection hv with hv; subst hv; exact h.get h2
/-- A row of one number handed back. -/
theorem own_one {B x : Nat} {v : Value} (h : w.ownsRow B 31 1 v 1 (UC [x])) : ∃ b o c, v = .slice (some ⟨b, o, none⟩) 1 c ∧ v.ownBlock = some b ∧ w.cell? ⟨b, o, none⟩ = some (.int .u64 (x : Int)) := by
  obtain ⟨A, c, rfl, _⟩ := own_slice h
  have h1 : Lz (fun _ => False) w 1 A 1 (UC [x]) := Lz.of_own h (fun _ h => h.elim)
  obtain ⟨b, o, hl, rfl, _, h2⟩ := h1.uc (k := 0) (by omega)
  exact ⟨b, o, c, rfl, rfl, h2⟩
theorem lock_q (h : Wq w0 w g X u ps) (t : Nat) (r : Rs) (m : Int) (ht : U64 t) (hr : RsOk r) (hs : tot u ≤ 99) (u' : TR) (cd : Int) (hu : lockR u t r m = (u', cd)) :
    Calls Tryz.prog 18 #[.pointer (some ⟨g, 0, none⟩), .int .u64 (t : Int), .agg (rsA r), .int .i64 m] w (fun e w' => e = .returned (.int .i64 cd) ∧ ∃ X', Wq w0 w' g X' u' ps) := by
  obtain ⟨s, hk⟩ := h.ex
  refine (lock_step hk t r m ht hr hs u' cd hu).mono ?_
  rintro e w' ⟨rfl, X', hst⟩
  exact ⟨rfl, X', h.step hst⟩
theorem release_q (h : Wq w0 w g X u ps) (t : Nat) (ht : U64 t) (u' : TR) (x : Nat) (hu : releaseR u t = (u', [x])) :
    Calls Tryz.prog 19 #[.pointer (some ⟨g, 0, none⟩), .int .u64 (t : Int)] w (fun e w' => ∃ b o c X', e = .returned (.slice (some ⟨b, o, none⟩) 1 c) ∧ Wq w0 w' g X' u' ((⟨b, o, none⟩, .int .u64 (x : Int)) :: ps)) := by
  obtain ⟨s, hk⟩ := h.ex
  refine (release_step hk t ht u' [x] hu).mono ?_
  rintro e w' ⟨v, X', rfl, ho, hst, hx⟩
  obtain ⟨b, o, c, rfl, hb, hc⟩ := own_one ho
  exact ⟨b, o, c, X', rfl, (h.step hst).cons hc (hx b hb)⟩
theorem cancel_q (h : Wq w0 w g X u ps) (t : Nat) (ht : U64 t) (u' : TR) (hu : cancelR u t = (u', [])) :
    Calls Tryz.prog 22 #[.pointer (some ⟨g, 0, none⟩), .int .u64 (t : Int)] w (fun e w' => ∃ A c X', e = .returned (.slice A 0 c) ∧ Wq w0 w' g X' u' ps) := by
  obtain ⟨s, hk⟩ := h.ex
  refine (cancel_step hk t ht u' [] hu).mono ?_
  rintro e w' ⟨v, X', rfl, ho, hst, _⟩
  obtain ⟨A, c, rfl, _⟩ := own_slice ho
  exact ⟨A, c, X', rfl, h.step hst⟩
theorem blocks_q (h : Wq w0 w g X u ps) (t : Nat) (r : Rs) (x : Nat) (ht : U64 t) (hw : (waitR u.queue t).map (·.1) = some r) (ax : Nat) (hax : ax < (cms (ofR u.queue r)).length) (hat : (cms (ofR u.queue r)).findIdx? (fun c => c.1 == t) = some ax)
    (hL : ((cms (ofR u.held r)).filter fun y => hind y (cms (ofR u.queue r))[ax]).map (·.1) ++ ((cms (ofR u.queue r)).take ax).map (·.1) = [x]) :
    Calls Tryz.prog 15 #[.pointer (some ⟨g, 0, none⟩), .int .u64 (t : Int)] w (fun e w' => ∃ b o c, e = .returned (.slice (some ⟨b, o, none⟩) 1 c) ∧ Wq w0 w' g X u ((⟨b, o, none⟩, .int .u64 (x : Int)) :: ps)) := by
  obtain ⟨s, hk⟩ := h.ex
  refine (blocks_step hk t r x ht hw ax hax hat hL).mono ?_
  rintro e w' ⟨v, rfl, ho, hb⟩
  obtain ⟨b, o, c, rfl, hbk, hc⟩ := own_one ho
  exact ⟨b, o, c, rfl, (h.below hb).cons hc (fun hx => by have h1 := (ho.lt b hbk).1; have h2 := hk.tt.lt b hx; omega)⟩
/-- The queue's two claims. -/
theorem queue_q (h : Wq w0 w g X u ps) (r : Rs) (hr : RsOk r) (c d : Cm) (hq : cms (ofR u.queue r) = [c, d]) :
    Calls Tryz.prog 14 #[.pointer (some ⟨g, 0, none⟩), .agg (rsA r)] w (fun e w' => ∃ b o k, e = .returned (.slice (some ⟨b, o, none⟩) 2 k) ∧ Wq w0 w' g X u ((⟨b, o, none⟩, .int .u64 (c.1 : Int)) :: (⟨b, o + 1, none⟩, .int .i64 c.2) :: ps)) := by
  obtain ⟨s, hk⟩ := h.ex
  refine (Queue_any X g s r w hk.tt hr ((hk.rel.sm hk.sz).mono (by omega))).mono ?_
  have hat_ := hk.rel.at_ r
  unfold AtR at hat_
  rw [hat_, hq]
  rintro e w' ⟨A, k, rfl, ho, hb⟩
  have h1 : Lz (fun _ => False) w' 2 A 2 (cmL [c, d]) := Lz.of_own ho (fun _ h => h.elim)
  obtain ⟨b, o, _, rfl, _, _, h2⟩ := h1.cm (k := 0) (by omega)
  rw [Nat.zero_mul, Nat.add_zero] at h2
  have hn : ¬ X b := fun hx => by
    have h3 := (ho.lt b rfl).1
    have h4 := hk.tt.lt b hx
    omega
  exact ⟨b, o, k, rfl, ((h.below hb).cons (h2 1 _ rfl) hn).cons (h2 0 _ rfl) hn⟩
theorem holders_q (h : Wq w0 w g X u ps) (r : Rs) (hr : RsOk r) (n : Nat) (hn : (cms (ofR u.held r)).length = n) :
    Calls Tryz.prog 13 #[.pointer (some ⟨g, 0, none⟩), .agg (rsA r)] w (fun e w' => ∃ A k, e = .returned (.slice A n k) ∧ Wq w0 w' g X u ps) := by
  rw [← hn]
  obtain ⟨s, hk⟩ := h.ex
  refine (Holders_any X g s r w hk.tt hr ((hk.rel.sm hk.sz).mono (by omega))).mono ?_
  have hat_ := hk.rel.at_ r
  unfold AtR at hat_
  rw [hat_]
  rintro e w' ⟨A, k, rfl, ho, hb⟩
  exact ⟨A, k, rfl, h.below hb⟩
theorem held_q (h : Wq w0 w g X u ps) (t : Nat) (r : Rs) (hr : RsOk r) (m : Int) (hm : modeR u.held t r = m) :
    Calls Tryz.prog 21 #[.pointer (some ⟨g, 0, none⟩), .int .u64 (t : Int), .agg (rsA r)] w (fun e w' => e = .returned (.int .i64 m) ∧ Wq w0 w' g X u ps) := by
  rw [← hm]
  obtain ⟨s, hk⟩ := h.ex
  refine (Held_any X g s t r w hk.tt hr ((hk.rel.sm hk.sz).mono (by omega))).mono ?_
  have hat_ := hk.rel.at_ r
  unfold AtR at hat_
  rw [hat_, held_mode]
  rintro e w' ⟨rfl, hb⟩
  exact ⟨rfl, h.below hb⟩
theorem waits_q (h : Wq w0 w g X u ps) (t : Nat) (ht : U64 t) (r : Rs) (hw : (waitR u.queue t).map (·.1) = some r) :
    Calls Tryz.prog 20 #[.pointer (some ⟨g, 0, none⟩), .int .u64 (t : Int)] w (fun e w' => e = .returned (.tuple #[.agg (rsA r), .bool true]) ∧ Wq w0 w' g X u ps) := by
  obtain ⟨s, hk⟩ := h.ex
  have hr := hk.rel.r0.wt t
  have hc := Waits_any X g s t w hk.tt ht
  rw [hr, hw] at hc
  refine hc.mono ?_
  rintro e w' ⟨rfl, hb⟩
  exact ⟨rfl, h.below hb⟩
theorem things_q (h : Wq w0 w g X u ps) (n : Nat) (hn : (thingsR u).length = n) :
    Calls Tryz.prog 11 #[.pointer (some ⟨g, 0, none⟩)] w (fun e w' => ∃ A k, e = .returned (.slice A n k) ∧ Wq w0 w' g X u ps) := by
  rw [← hn]
  obtain ⟨s, hk⟩ := h.ex
  refine (Things_any X g s w hk.tt 100 (fun ks hn ha => hk.rel.count hk.sz ks hn ha) (by omega)).mono ?_
  rintro e w' ⟨v, l, rfl, ⟨h1, h2⟩, ho, hb⟩
  have hl := things_rel hk.rel h1 h2
  obtain ⟨A, k, rfl, _⟩ := own_slice ho
  rw [hl]
  exact ⟨A, k, rfl, h.below hb⟩
end
def wr5 : Rs := (2, 5)
def wu1 : TR := ⟨[(wr5, 1, 3)], []⟩
def wu2 : TR := ⟨[(wr5, 1, 3)], [(wr5, 2, 5)]⟩
def wu3 : TR := ⟨[(wr5, 1, 3)], [(wr5, 2, 5), (wr5, 3, 3)]⟩
def wu4 : TR := ⟨[(wr5, 2, 5)], [(wr5, 3, 3)]⟩
def wu5 : TR := ⟨[(wr5, 3, 3)], []⟩
theorem wk1 : lockR ⟨[], []⟩ 1 wr5 3 = (wu1, 0) := by kernel_rfl
theorem wk2 : lockR wu1 2 wr5 5 = (wu2, 12) := by kernel_rfl
theorem wk3 : lockR wu2 3 wr5 3 = (wu3, 12) := by kernel_rfl
theorem wk4 : lockR wu3 2 wr5 3 = (wu3, 10) := by kernel_rfl
theorem wk5 : releaseR wu3 1 = (wu4, [2]) := by kernel_rfl
theorem wk6 : releaseR wu4 2 = (wu5, [3]) := by kernel_rfl
theorem wk7 : cancelR wu5 3 = (wu5, []) := by kernel_rfl
theorem wk8 : lockR wu5 4 wr5 0 = (wu5, 14) := by kernel_rfl
end Go.Proofs.YthbifccankfngaaGreatDoor
