/-
  A row of numbers that a call makes by append; what a call hands back that makes one.
  Conditions: at most 100000 numbers.
-/
import Derived.Test.YtjbohnnknfcjeaaSC
namespace Go.Proofs.Ytjbohnnknfcjeaa
open Go.RowKit
attribute [local go_sem] Oper.semAt_some
set_option maxRecDepth 20000

/-- A row of the call's own. -/
structure RowS (w0 : World) (F : List Nat) (v : Value) (z : World) : Prop where
  below : Below w0.heap.size w0 z
  own : z.ownsRow w0.heap.size 23 1 v F.length (UC F)
theorem RowS.nil (w : World) : RowS w [] (.slice none 0 0) w := ⟨Below.refl _ w, World.ownsRow_nil _ _ _ _⟩
theorem RowS.under {w0 z z' : World} {F : List Nat} {v : Value} (h : RowS w0 F v z) (hb : Below z.heap.size z z') : RowS w0 F v z' := ⟨h.below.trans (hb.mono h.below.size), own_under h.own hb (Nat.le_refl _)⟩
theorem RowS.lz {w0 z : World} {F : List Nat} {A : Option Addr} {n c : Nat} (h : RowS w0 F (.slice A n c) z) (hn : F.length = n) : Lz (fun _ => False) z 1 A n (UC F) := by
  have := h.own
  rw [hn] at this
  exact Lz.of_own this (fun _ h => h.elim)
theorem RowS.slice {w0 z : World} {F : List Nat} {v : Value} (h : RowS w0 F v z) : ∃ A c, v = .slice A F.length c := by
  obtain ⟨A, c, e, _⟩ := own_slice h.own
  exact ⟨A, c, e⟩
/-- What a function hands back that makes a row of numbers. -/
def RetU (w : World) (F : List Nat) (e : Ending) (w' : World) : Prop := ∃ A c, e = .returned (.slice A F.length c) ∧ RowS w F (.slice A F.length c) w'
theorem wpList_push {ops : Array Oper} {rest : List Oper} {o : Oper} {a : Act} {Q : Exit → Act → World → Prop} (hgd : o.guard = none) (s x : Operand)
    (ho : o.op = .call { callee := .builtin .append, args := #[s, x], argTypes := #[22, 22] })
    {w0 wb : World} {F : List Nat} {A : Option Addr} {n c m : Nat} (h : RowS w0 F (.slice A n c) wb) (hn : F.length = n) (hm : n + 1 ≤ 1000000)
    (hs : a.eval s = .slice A n c) (hx : a.eval x = .slice (some ⟨wb.heap.size, 0, none⟩) 1 1)
    (k : ∀ A' c' w', RowS w0 (F ++ [m]) (.slice A' (n + 1) c') w' → wpList Try.prog ops Q rest (a.put o.dst (.slice A' (n + 1) c')) w') :
    wpList Try.prog ops Q (o :: rest) a (wb.alloc (.cells #[.int .u32 (m : Int)] 23)) := by
  obtain ⟨i0, hi0, hz0, hz1, hz2⟩ := u_info
  have hown := h.own
  rw [hn] at hown
  have hal : (wb.alloc (.cells #[.int .u32 (m : Int)] 23)).ownsRow w0.heap.size 23 1 (.slice A n c) n (UC F) := own_under hown ((Below.refl _ wb).alloc (Nat.le_refl _) _) (Nat.le_refl _)
  have hsz := h.below.size
  refine wpList_app2 _ hgd s x 22 ho w0.heap.size 23 i0 (.int .u32 0) 1 4 Try.underlying22 hi0 hz0 hz1 hz2 rfl (by omega) (.slice A n c) n (UC F) hs hal (wb.heap.size + 1) (some ⟨wb.heap.size, 0, none⟩) 1 1 [.int .u32 (m : Int)] hx (lies_new wb _ _) (fun u hu => by simp at hu; rw [hu]; rfl) (by omega) (by simp only [maxLen]; omega) (by omega) (by simp; omega) ?_
  intro v5 w5 ho5 hg5 _
  obtain ⟨A5, c5, rfl, _⟩ := own_slice ho5
  refine k A5 c5 w5 ⟨?_, ?_⟩
  · have hg2 : wb.grownBy w5 (Value.slice A n c).ownBlock := (World.grownBy_alloc wb _ _).andThen hg5 (fun j hj => .inr hj)
    exact below_own h.below hown hg2 (Nat.le_refl _) hsz
  · rw [UC_append, List.length_append, hn]
    exact ho5

theorem UC_take (l : List Nat) (k : Nat) : UC (l.take k) = (UC l).take k := by unfold UC; rw [List.map_take]
theorem UC_drop (l : List Nat) (k : Nat) : UC (l.drop k) = (UC l).drop k := by unfold UC; rw [List.map_drop]
/-- A slice of another's front, or of its end. -/
theorem Lz.u_head {X : Nat → Prop} {w : World} {A : Option Addr} {n k : Nat} {l : List Nat} (h : Lz X w 1 A n (UC l)) (hk : k ≤ n) : Lz X w 1 A k (UC (l.take k)) := by
  have := h.head hk
  rwa [Nat.mul_one, ← UC_take] at this
end Go.Proofs.Ytjbohnnknfcjeaa
