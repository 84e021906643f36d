/-
  Each call on the table beside what the document's table becomes; cells that are kept.
  Conditions: at most 100 claims.
-/
import Derived.Test.YthbifccankfngaaGreatDoorL5ZQ
import Derived.Test.YthbifccankfngaaGreatDoorL7ZQ
namespace Go.Proofs.YthbifccankfngaaGreatDoor
open Go.RowKit Go.Shelf
set_option maxRecDepth 20000

/-- A table beside the document's. -/
structure Wk (w : World) (g : Nat) (X : Nat → Prop) (s : TS) (u : TR) : Prop where
  tt : Tt w g s X
  rel : Rel s u
  ok : OkU u
  sz : tot u ≤ 100
  x2 : ∀ k, X k → 2 ≤ k
  tb : Tab w
theorem Wk.below {w w' : World} {g : Nat} {X : Nat → Prop} {s : TS} {u : TR} (h : Wk w g X s u) (hb : Below w.heap.size w w') : Wk w' g X s u :=
  ⟨h.tt.below hb, h.rel, h.ok, h.sz, h.x2, tab_mod h.tb (Mod.of_below hb X) h.x2⟩
/-- Only the table's own blocks. -/
theorem Tt.shrink {w : World} {g : Nat} {s : TS} {X : Nat → Prop} (h : Tt w g s X) : ∃ X', Tt w g s X' ∧ (∀ k, X' k → X k) ∧ ∀ k t cs, At w k t cs → t ≠ 54 → t ≠ 33 → t ≠ 61 → ¬ X' k := by
  obtain ⟨B, b1, b2, b3, V, hv, hB, hx⟩ := h.ex
  exact ⟨TbX g b1 b2 b3 V, ⟨⟨B, b1, b2, b3, V, hv, hB, fun _ hk => hk⟩, hv.lt⟩, hx, fun k t cs ha h1 h2 h3 => hv.box_ne ha ⟨h1, h2, h3⟩⟩
theorem wk_tw {w w' : World} {g : Nat} {X : Nat → Prop} {s s' : TS} {u u' : TR} (h : Wk w g X s u) (htw : Tw w X g s' w') (hrel : Rel s' u') (ho : OkU u') (hs : tot u' ≤ 100) :
    ∃ X', Wk w' g X' s' u' ∧ (∀ k, X' k → X k ∨ w.heap.size ≤ k) ∧ Mod X w w' ∧ ∀ k t cs, At w' k t cs → t ≠ 54 → t ≠ 33 → t ≠ 61 → ¬ X' k := by
  obtain ⟨X1, h1, h2, h3⟩ := htw
  obtain ⟨X', h4, h5, h6⟩ := h1.shrink
  have hts := h.tb.size
  refine ⟨X', ⟨h4, hrel, ho, hs, fun k hk => ?_, tab_mod h.tb h3 h.x2⟩, fun k hk => h2 k (h5 k hk), h3, h6⟩
  rcases h2 k (h5 k hk) with h7 | h7
  · exact h.x2 k h7
  · omega
/-- Cells that are kept, none of them the table's. -/
def Kp (w : World) (X : Nat → Prop) (ps : List (Addr × Value)) : Prop := ∀ q ∈ ps, w.cell? q.1 = some q.2 ∧ ¬ X q.1.block
theorem Kp.step {w w' : World} {X X' : Nat → Prop} {ps : List (Addr × Value)} (h : Kp w X ps) (hm : Mod X w w') (hx : ∀ k, X' k → X k ∨ w.heap.size ≤ k) : Kp w' X' ps := fun q hq => by
  obtain ⟨h1, h2⟩ := h q hq
  have hlt := World.block_lt_of_cell? w q.1 h1
  refine ⟨(World.cell?_of_block (hm.block q.1.block hlt h2)).trans h1, fun hk => ?_⟩
  rcases hx _ hk with h3 | h3
  · exact h2 h3
  · omega
theorem Kp.below {w w' : World} {X : Nat → Prop} {ps : List (Addr × Value)} (h : Kp w X ps) (hb : Below w.heap.size w w') : Kp w' X ps := fun q hq => by
  obtain ⟨h1, h2⟩ := h q hq
  exact ⟨(hb.cell (World.block_lt_of_cell? w q.1 h1)).trans h1, h2⟩
theorem Kp.cons {w : World} {X : Nat → Prop} {ps : List (Addr × Value)} (h : Kp w X ps) {p : Addr} {v : Value} (h1 : w.cell? p = some v) (h2 : ¬ X p.block) : Kp w X ((p, v) :: ps) := fun q hq => by
  rcases List.mem_cons.1 hq with rfl | hq
  · exact ⟨h1, h2⟩
  · exact h q hq
theorem Kp.get {w : World} {X : Nat → Prop} {ps : List (Addr × Value)} (h : Kp w X ps) {p : Addr} {v : Value} (hm : (p, v) ∈ ps) : w.cell? p = some v := (h _ hm).1
theorem Kp.nil (w : World) (X : Nat → Prop) : Kp w X [] := fun _ h => by cases h
section
variable {w : World} {g : Nat} {X : Nat → Prop} {s : TS} {u : TR}
def StepR (w : World) (g : Nat) (X : Nat → Prop) (u' : TR) (w' : World) (X' : Nat → Prop) : Prop := (∃ s', Wk w' g X' s' u') ∧ (∀ k, X' k → X k ∨ w.heap.size ≤ k) ∧ Mod X w w'
theorem lock_step (h : Wk w g X s u) (t : Nat) (r : Rs) (m : Int) (ht : U64 t) (hr : RsOk r) (hs : tot u ≤ 99) (u' : TR) (cd : Int) (hu : lockR u t r m = (u', cd)) :
    Calls Tryz.prog 18 #[.pointer (some ⟨g, 0, none⟩), .int .u64 (t : Int), .agg (rsA r), .int .i64 m] w (fun e w' => e = .returned (.int .i64 cd) ∧ ∃ X', StepR w g X u' w' X') := by
  refine (Lock_any X g s t r m w h.tt h.tb hr ht ((h.rel.sm h.sz).mono (by omega))).mono ?_
  rintro e w' ⟨rfl, htw⟩
  have h1 := lock_rel h.rel t r m
  have h2 := okU_lock h.ok t r m ht hr
  have h3 := tot_lock u t r m
  rw [hu] at h1 h2 h3
  obtain ⟨X', h4, h5, h6, _⟩ := wk_tw h htw h1.2 h2 (show tot u' ≤ 100 by have : tot u' ≤ tot u + 1 := h3; omega)
  exact ⟨by rw [h1.1], X', ⟨_, h4⟩, h5, h6⟩
/-- A row of numbers handed back beside the table. -/
theorem row_off {w' : World} {X' : Nat → Prop} {B n : Nat} {v : Value} {xs : List Value} (ho : w'.ownsRow B 31 1 v n xs) (hx : ∀ k t cs, At w' k t cs → t ≠ 54 → t ≠ 33 → t ≠ 61 → ¬ X' k) : ∀ k, v.ownBlock = some k → ¬ X' k := fun k hk => by
  obtain ⟨cs, ha⟩ := own_at ho hk
  exact hx k 31 cs ha tU_ne.1 tU_ne.2.1 tU_ne.2.2
theorem release_step (h : Wk w g X s u) (t : Nat) (ht : U64 t) (u' : TR) (l : List Nat) (hu : releaseR u t = (u', l)) :
    Calls Tryz.prog 19 #[.pointer (some ⟨g, 0, none⟩), .int .u64 (t : Int)] w (fun e w' => ∃ v X', e = .returned v ∧ w'.ownsRow w.heap.size 31 1 v l.length (UC l) ∧ StepR w g X u' w' X' ∧ ∀ k, v.ownBlock = some k → ¬ X' k) := by
  refine (Release_any X g s t w h.tt h.x2 h.tb (h.rel.okm h.ok t) (fun r hw => h.rel.okw h.ok hw) ht (fun r => h.rel.okq h.ok r) 100 (h.rel.sm h.sz) (by omega)).mono ?_
  rintro e w' ⟨l', hp, hpw, v, rfl, ho, htw⟩
  have h1 := release_rel h.rel t hp hpw
  have h2 := okU_release h.ok t
  have h3 := tot_release u t
  rw [hu] at h1 h2 h3
  rw [h1.1] at ho
  have h3' : tot u' ≤ tot u := h3
  obtain ⟨X', h4, h5, h6, h7⟩ := wk_tw h htw h1.2 h2 (Nat.le_trans h3' h.sz)
  exact ⟨v, X', rfl, ho, ⟨⟨_, h4⟩, h5, h6⟩, row_off ho h7⟩
theorem cancel_step (h : Wk w g X s u) (t : Nat) (ht : U64 t) (u' : TR) (l : List Nat) (hu : cancelR u t = (u', l)) :
    Calls Tryz.prog 22 #[.pointer (some ⟨g, 0, none⟩), .int .u64 (t : Int)] w (fun e w' => ∃ v X', e = .returned v ∧ w'.ownsRow w.heap.size 31 1 v l.length (UC l) ∧ StepR w g X u' w' X' ∧ ∀ k, v.ownBlock = some k → ¬ X' k) := by
  refine (Cancel_any X g s t w h.tt h.x2 h.tb (fun r hw => ⟨h.rel.okw h.ok hw, h.rel.okq h.ok r⟩) ht 100 (h.rel.sm h.sz) (by omega)).mono ?_
  rintro e w' ⟨v, rfl, ho, htw⟩
  have h1 := cancel_rel h.rel t
  have h2 := okU_cancel h.ok t
  have h3 := tot_cancel u t
  rw [hu] at h1 h2 h3
  rw [h1.1] at ho
  have h3' : tot u' ≤ tot u := h3
  obtain ⟨X', h4, h5, h6, h7⟩ := wk_tw h htw h1.2 h2 (Nat.le_trans h3' h.sz)
  exact ⟨v, X', rfl, ho, ⟨⟨_, h4⟩, h5, h6⟩, row_off ho h7⟩
/-- One stands ahead of somebody who waits, and nobody hinders them. -/
theorem blocks_step (h : Wk w g X s u) (t : Nat) (r : Rs) (x : Nat) (ht : U64 t) (hw : (waitR u.queue t).map (·.1) = some r) (ax : Nat) (hax : ax < (cms (ofR u.queue r)).length) (hat : (cms (ofR u.queue r)).findIdx? (fun c => c.1 == t) = some ax)
    (hL : ((cms (ofR u.held r)).filter fun y => hind y (cms (ofR u.queue r))[ax]).map (·.1) ++ ((cms (ofR u.queue r)).take ax).map (·.1) = [x]) :
    Calls Tryz.prog 15 #[.pointer (some ⟨g, 0, none⟩), .int .u64 (t : Int)] w (fun e w' => ∃ v, e = .returned v ∧ w'.ownsRow w.heap.size 31 1 v 1 (UC [x]) ∧ Below w.heap.size w w') := by
  have hat_ := h.rel.at_ r
  unfold AtR at hat_
  have e1 : (s.at r).1 = cms (ofR u.held r) := by rw [hat_]
  have e2 : (s.at r).2 = cms (ofR u.queue r) := by rw [hat_]
  have hws : s.wt t = some r := by rw [h.rel.r0.wt]; exact hw
  refine (blocks_some X g s t r w h.tt h.tb h.x2 (h.rel.okw h.ok hws) ht ((h.rel.sm h.sz).mono (by omega)) hws ax (by rw [e2]; exact hax) (by rw [e2]; exact hat) (fun l => l = [x]) (fun l => l = [x]) [x] (by simp only [e1, e2]; exact hL.symm) ?_ ?_).mono ?_
  · intro W A c B ho
    refine (sort1_any A c W).mono ?_
    rintro e w' ⟨rfl, rfl⟩
    exact ⟨rfl, [x], rfl, rfl, ho, ⟨rfl, rfl, rfl, Nat.le_refl _, fun _ _ _ => rfl⟩⟩
  · rintro W A c B l rfl _ ho
    refine (compact1_any A c W).mono ?_
    rintro e w' ⟨rfl, rfl⟩
    exact ⟨_, [x], rfl, rfl, ho, ⟨rfl, rfl, rfl, Nat.le_refl _, fun _ _ _ => rfl⟩⟩
  · rintro e w' ⟨v, l2, rfl, rfl, ho, hb⟩
    exact ⟨v, rfl, ho, hb⟩
end
end Go.Proofs.YthbifccankfngaaGreatDoor
