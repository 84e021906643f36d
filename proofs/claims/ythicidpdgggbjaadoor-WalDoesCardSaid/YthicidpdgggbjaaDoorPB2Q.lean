/-
  The walks of Up, Twin, New.
  Conditions: disks of at most 100000 sectors.
-/
import Derived.Test.YthicidpdgggbjaaDoorPB1Q
import Derived.Laws.MakeOwn
import Derived.Laws.Entries
namespace Go.Proofs.YthicidpdgggbjaaDoor
open Go.RowKit

section
variable (X : Nat → Prop) (g gs : Nat) (S : List Sect) (wr fu : Int) (kp : List Bool) (dn : Bool) (w : World)
theorem fuse_never (h : Plat X w g gs S wr fu kp dn) (hn : S.length ≤ 100000) (hX : ∀ k, X k → k < w.heap.size) :
    Calls Tryd.prog 36 #[.pointer (some ⟨g, 0, none⟩), .int .i64 (-1), .slice none 0 0] w (Fused X w g gs S wr (-1) [] dn) := by
  have := fuse_any X g gs S wr fu kp dn w (-1) none 0 0 [] h Lz.empty (Nat.le_refl _) (by simp [maxLen]) hn hX
  simpa using this
theorem put_down {X : Nat → Prop} {w : World} {g gs : Nat} {S : List Sect} {wr fu : Int} {kp : List Bool} {dn : Bool} (h : Plat X w g gs S wr fu kp dn) (b : Bool) : Plat X (w.setCell ⟨g, 4, none⟩ (.bool b)) g gs S wr fu kp b := by
  obtain ⟨cap, sp, A, c, h⟩ := h
  exact ⟨cap, sp, A, c, h.put 4 _ (by rfl) h.cap1 h.cap2 h.lies h.c1 h.c2⟩
theorem box_cells {X : Nat → Prop} {w : World} {g gs : Nat} {S : List Sect} {wr fu : Int} {kp : List Bool} {dn : Bool} (h : Plat X w g gs S wr fu kp dn) :
    w.cell? ⟨g, 4, none⟩ = some (.bool dn) ∧ w.frozen? ⟨g, 4, none⟩ = false ∧ w.cell? ⟨g, 2, none⟩ = some (.int .i64 fu) ∧ w.frozen? ⟨g, 2, none⟩ = false ∧ w.cell? ⟨g, 1, none⟩ = some (.int .i64 wr) ∧ w.frozen? ⟨g, 1, none⟩ = false := by
  obtain ⟨cap, sp, A, c, h⟩ := h
  exact ⟨h.cell4, h.frozen 4, h.cell2, h.frozen 2, h.cell1, h.frozen 1⟩
set_option maxHeartbeats 400000 in
theorem up_any (h : Plat X w g gs S wr fu kp dn) (hn : S.length ≤ 100000) (hX : ∀ k, X k → k < w.heap.size) :
    Calls Tryd.prog 37 #[.pointer (some ⟨g, 0, none⟩)] w (Fused X w g gs S wr (-1) [] false) := by
  have FU := Lib.hid (fuse_never X g gs S wr fu kp dn w h hn hX)
  clear h
  go_enter Tryd.func37, Tryd.ntmps37
  go_wp2_with (go_at_call 36; refine FU.out.mono ?_; rintro e w1 ⟨rfl, hp, hm⟩; have HP := Lib.hid hp; have HM := Lib.hid hm; clear hm; obtain ⟨c4, f4, _⟩ := box_cells hp; clear hp)
  go_end0
  exact ⟨rfl, put_down HP.out false, HM.out.setCell (.inl (.inl rfl)) _⟩

end
end Go.Proofs.YthicidpdgggbjaaDoor
