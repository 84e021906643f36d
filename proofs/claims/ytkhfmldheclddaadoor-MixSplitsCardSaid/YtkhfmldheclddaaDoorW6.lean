/-
  The walks of mix.divide and mix.Split.
  Conditions: at most 1000 keys.
-/
import Derived.Test.YtkhfmldheclddaaDoorW5
namespace Go.Proofs.YtkhfmldheclddaaDoor
open Go.RowKit

theorem wpList_two {P : Program} {w0 w : World} {B : Nat} {u v : Value} {xs ys : List Nat} {ops : Array Oper} {rest : List Oper} {o : Oper} {a : Act} {Q : Exit → Act → World → Prop} (h : Two w0 B u v xs ys w) (x : Nat) (hgd : o.guard = none) (s r : Operand) (t : TypeId)
    (ho : o.op = .call { callee := .builtin .append, args := #[s, r], argTypes := #[t, t] }) (i : TypeInfo) (ht : P.underlying t = some (.slice 22)) (hi : P.info? 22 = some i) (hz : i.zero = some (.int .u64 0))
    (hsize : i.size = 1) (hby : i.bytes = 8) (hl : xs.length ≤ 1000) (c : Nat) (hs : a.eval s = u) (hr : a.eval r = .slice (some ⟨w.heap.size, 0, none⟩) 1 c)
    (hh : ∀ u' w', Two w0 B u' v (xs ++ [x]) ys w' → wpList P ops Q rest (a.put o.dst u') w') : wpList P ops Q (o :: rest) a (w.alloc (.cells #[.int .u64 x] 22)) := by
  obtain ⟨u', w', h1, h2⟩ := h.app (P := P) x t o.type i ht hi hz hsize hby hl c
  exact Lib.wpList_append_run _ hgd s r t t ho u _ hs hr u' w' h1 (hh u' w' h2)

def DivR (w0 : World) (B n : Nat) (at' : Int) (l : List Nat) (u v i : Value) (w : World) : Prop :=
  ∃ k : Nat, k ≤ n ∧ i = .int .i64 k ∧ Hid (Two w0 B u v (side false at' (l.take k)) (side true at' (l.take k)) w)
def Parted (w0 : World) (B : Nat) (at' : Int) (l : List Nat) (e : Ending) (w : World) : Prop :=
  ∃ u v, e = .returned (.tuple #[u, v]) ∧ Two w0 B u v (side false at' l) (side true at' l) w

set_option maxHeartbeats 1000000 in
theorem divide_any (n c : Nat) (A : Option Addr) (l : List Nat) (at' : Int) (p : Addr) (w : World) (h : Lies w w.heap.size 1 A n (UC l)) (hn : n ≤ 1000) (hp : p.block < w.heap.size) (hc : w.cell? p = some (.int .i64 at')) :
    Calls Tryd.prog 18 #[.slice A n c, .func (.func 17) #[] #[.pointer (some p)]] w (Parted w w.heap.size at' l) := by
  obtain ⟨i0, hi0, hz0, hz1, hz2⟩ := info_parts u64_info
  have hl : l.length = n := by have := h.len; rw [UC_length] at this; omega
  have HL := Lib.hid hl
  have HH := Lib.hid h
  have HC := Lib.hid hc
  clear hl h hc
  go_enter Tryd.func18, Tryd.ntmps18
  go_wp2_with fail
  go_loopw [6, 7, 12] (fun u v i wr => DivR w w.heap.size n at' l u v i wr) (fun _ _ i _ => n - (intOf i).toNat)
  case atStart => exact ⟨0, by omega, rfl, Lib.hid ⟨⟨0, World.ownsRow_nil w w.heap.size 22 1⟩, ⟨0, World.ownsRow_nil w w.heap.size 22 1⟩, .inl rfl, .inl rfl, Below.refl _ _, Nat.le_refl _⟩⟩
  case round =>
    obtain ⟨k, hk, rfl, ho⟩ := hrel
    by_cases hlt : k < n
    · have hkl : k < l.length := by rw [HL.out]; exact hlt
      obtain ⟨a, u, rfl, hb, hx, hcell⟩ := (HH.out.under ho.out.old).get hlt
      rw [UC_get l k hkl] at hx
      injection hx with hx
      subst hx
      have HS := Lib.hid (take_snoc l k hkl)
      generalize l[k] = x at *
      have lf := side_le false at' (l.take k)
      have lt := side_le true at' (l.take k)
      have ll : (l.take k).length ≤ k := List.length_take_le _ _
      go_wp2_with fail
      refine (side_any x at' p wr ((ho.out.old.cell hp).trans HC.out)).mono ?_
      rintro e w' ⟨rfl, rfl⟩
      cases hs : bitB x at'
      · have E1 := Lib.hid (side_same (l := l.take k) hs)
        have E2 := Lib.hid (side_other (s := true) (l := l.take k) (x := x) (at' := at') (by rw [hs]; decide))
        rw [← HS.out] at E1 E2
        clear hs
        go_wp2_with (at_builtin; refine wpList_two ho.out x rfl (.tmp 23) (.tmp 25) _ rfl i0 Tryd.underlying26 hi0 hz0 hz1 hz2 (by omega) _ rfl rfl ?_; intro u2 w2 h2)
        refine ⟨⟨k + 1, by omega, by go_num, Lib.hid ?_⟩, by simp [intOf]; omega⟩
        rw [E1.out, E2.out]
        exact h2
      · have E1 := Lib.hid (side_same (l := l.take k) hs)
        have E2 := Lib.hid (side_other (s := false) (l := l.take k) (x := x) (at' := at') (by rw [hs]; decide))
        rw [← HS.out] at E1 E2
        clear hs
        go_wp2_with (at_builtin; refine wpList_two ho.out.swap x rfl (.tmp 19) (.tmp 21) _ rfl i0 Tryd.underlying26 hi0 hz0 hz1 hz2 (by omega) _ rfl rfl ?_; intro u2 w2 h2)
        refine ⟨⟨k + 1, by omega, by go_num, Lib.hid ?_⟩, by simp [intOf]; omega⟩
        rw [E1.out, E2.out]
        exact h2.swap
    · go_wp2_with fail
      go_ret2
      have e : l.take k = l := List.take_of_length_le (by rw [HL.out]; omega)
      refine ⟨u6, u7, rfl, ?_⟩
      have := ho.out
      rwa [e] at this

set_option maxHeartbeats 1000000 in
theorem split_any (n c : Nat) (A : Option Addr) (l : List Nat) (at' : Int) (w : World) (h : Lies w w.heap.size 1 A n (UC l)) (hn : n ≤ 1000) :
    Calls Tryd.prog 9 #[.slice A n c, .int .i64 at'] w (Parted w w.heap.size at' l) := by
  have hmf : ∀ (fn : Fn) (first cap : Array Value) (w : World), (Instr.makeFunc fn first cap).run Tryd.prog w = .ok (.func fn first cap) w := fun _ _ _ _ => rfl
  have HH := Lib.hid (h.alloc (Nat.le_refl _) (.cells #[.int .i64 at'] 3))
  have hc : Hid ((w.alloc (.cells #[.int .i64 at'] 3)).cell? ⟨w.heap.size, 0, none⟩ = some (.int .i64 at')) := by
    show _ = _
    rw [World.cell?_alloc_at _ _ _ _ rfl]; rfl
  have hb := (Below.refl w.heap.size w).alloc (Nat.le_refl _) (.cells #[.int .i64 at'] 3)
  clear h
  go_enter Tryd.func9, Tryd.ntmps9
  go_wp2_with fail
  refine (divide_any n c A l at' ⟨w.heap.size, 0, none⟩ _ (HH.out.up (by simp)) hn (by simp) hc).mono ?_
  rintro e w1 ⟨u, v, rfl, h2⟩
  go_wp2_with fail
  go_ret2
  have hs : (w.alloc (.cells #[Value.int .i64 at'] 3)).heap.size = w.heap.size + 1 := by simp
  rw [hs] at h2
  obtain ⟨⟨na, ha⟩, ⟨nb, hb'⟩, h3, h4, h5, h6⟩ := h2
  exact ⟨u, v, rfl, ⟨na, own_base ha (by omega)⟩, ⟨nb, own_base hb' (by omega)⟩, h3, h4, hb.trans (h5.mono (by omega)), by omega⟩
end Go.Proofs.YtkhfmldheclddaaDoor
