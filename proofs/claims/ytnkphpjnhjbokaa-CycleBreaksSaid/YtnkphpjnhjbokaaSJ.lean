/-
  successors; its iterator as what a range over it needs.
  Conditions: at most 1000 arcs.
-/
import Derived.Test.YtnkphpjnhjbokaaSI
namespace Go.Proofs.Ytnkphpjnhjbokaa
open Go.RowKit Go.Shelf
attribute [local go_sem] Oper.semAt_some
set_option maxRecDepth 100000

theorem kpG_t {Bg Bn : Nat} {A : Option Addr} {U V W : World} (h : KpG Bg Bn A U V) (k : KpG Bg Bn A V W) : KpG Bg Bn A U W := ⟨k.1.trans h.1, k.2.1.trans h.2.1, fun a ha => (k.2.2 a ha).trans (h.2.2 a ha)⟩
theorem kpG_b {Bg Bn : Nat} {A : Option Addr} {w : World} (h1 : Bg < w.heap.size) (h2 : Bn < w.heap.size) (h3 : ∀ a, A = some a → a.block < w.heap.size) (W : World) (l : Nat) (o o' : Obj) (hl : w.heap.size ≤ l) (_ : W.heap[l]? = some o) (_ : o.isCells = false) (_ : o.isWalk = false) : KpG Bg Bn A W (W.putObj l o') :=
  ⟨World.putObj_heap_other (by omega), World.putObj_heap_other (by omega), fun a ha => World.putObj_heap_other (by have := h3 a ha; omega)⟩
theorem kpG_set {Bg Bn : Nat} {A : Option Addr} {b o : Nat} (h1 : Bg ≠ b) (h2 : Bn ≠ b) (h3 : ∀ a, A = some a → a.block ≠ b) (W : World) (v : Value) : KpG Bg Bn A W (W.setCell ⟨b, o, none⟩ v) :=
  ⟨Below.heap_setCell _ _ _ _ h1, Below.heap_setCell _ _ _ _ h2, fun a ha => Below.heap_setCell _ _ _ _ (h3 a ha)⟩
/-- One of those to whom x's arcs lead. -/
abbrev Suc (g : List Ar) (x : Nat) := { y : Nat // y ∈ sucI g x }
theorem succ_stops (m Bg Bn : Nat) (A : Option Addr) (n c : Nat) (g : List Ar) (x : Nat) (hn : n ≤ 1000) (hu : g.Pairwise arLe) (w : World) (hB : GrB Bg Bn A n c g x w) :
    SeqStopsK Fence.wide m Try.prog 36 #[.pointer (some ⟨Bg, 0, none⟩), .pointer (some ⟨Bn, 0, none⟩)] (fun y : Suc g x => #[Value.int .u64 (y.1 : Int)]) (KpG Bg Bn A) (fun ys => ys.map (·.1) = sucI g x) (fun pre => pre.map (·.1) <+: sucI g x) (sucI g x).length w := fun L J Jx W hW hJ _ hY h0 => by
  refine (succ_iter m L Bg Bn A n c g x hn hu (fun pre W => ∃ p : List (Suc g x), p.map (·.1) = pre ∧ J p W) (fun pre W => ∃ p : List (Suc g x), p.map (·.1) = pre ∧ Jx p W) ?_ W ?_ (hB.below hW) ⟨[], rfl, h0⟩).mono ?_
  · rintro pre y W1 ⟨p, rfl, hj⟩ hpre
    have hy : y ∈ sucI g x := hpre.subset (by simp)
    have hlt : p.length < (sucI g x).length := by
      have := hpre.length_le
      simp at this
      omega
    obtain ⟨fn, tmps, assign, body, hy2, hR⟩ := hY p ⟨y, hy⟩ W1 hj hlt
    refine ⟨fn, tmps, assign, body, hy2, hR.mono ?_⟩
    rintro e W2 (⟨rfl, h2, h3⟩ | ⟨rfl, h2⟩)
    · exact .inl ⟨rfl, ⟨p ++ [⟨y, hy⟩], by simp, h2⟩, h3⟩
    · exact .inr ⟨rfl, p ++ [⟨y, hy⟩], by simp, h2⟩
  · rintro pre W1 W2 row ⟨p, hp, hj⟩ hg hr
    exact ⟨p, hp, hJ p W1 W2 row hj hg hr⟩
  · rintro e W' ⟨h1, ⟨ys, rfl, p, hp, hj⟩ | ⟨pre, hpre, p, rfl, hj⟩⟩
    · exact ⟨h1, .inl ⟨p, hp, hj⟩⟩
    · exact ⟨h1, .inr ⟨p, hpre, hj⟩⟩
theorem ent_succ1 : ∀ args w, (callFunc 36 args).run Try.prog w = .ok (.enter 36 args) w := enters_of Try.func36 (by kernel_rfl) rfl
theorem GrB.new (w : World) (A : Option Addr) (n c : Nat) (g : List Ar) (x : Nat) (h : Lz (fun _ => False) w 2 A n (arL g)) : GrB w.heap.size (w.heap.size + 1) A n c g x ((w.alloc (.cells #[.slice A n c] 42)).alloc (.cells #[.int .u64 (x : Int)] 23)) := by
  have h1 := At.new w 42 #[.slice A n c]
  have h2 := At.new (w.alloc (.cells #[.slice A n c] 42)) 23 #[.int .u64 (x : Int)]
  rw [World.size_alloc] at h2
  exact ⟨h1.alloc _, h2, (h.alloc _).alloc _⟩
set_option maxHeartbeats 400000 in
theorem successors_any (A : Option Addr) (n c : Nat) (g : List Ar) (x : Nat) (w : World) (h : Lz (fun _ => False) w 2 A n (arL g)) :
    Calls Try.prog 25 #[.slice A n c, .int .u64 (x : Int)] w
      fun e w' => e = .returned (.func (.func 36) #[] #[.pointer (some ⟨w.heap.size, 0, none⟩), .pointer (some ⟨w.heap.size + 1, 0, none⟩)]) ∧ GrB w.heap.size (w.heap.size + 1) A n c g x w' ∧ w' = (w.alloc (.cells #[.slice A n c] 42)).alloc (.cells #[.int .u64 (x : Int)] 23) := by
  have hmf : ∀ (fn : Fn) (first cap : Array Value) (w : World), (Instr.makeFunc fn first cap).run Try.prog w = .ok (.func fn first cap) w := fun _ _ _ _ => rfl
  have HG := Lib.hid (GrB.new w A n c g x h)
  clear h
  go_enter Try.func25, Try.ntmps25
  go_wp2_with fail
  go_ret
  exact ⟨rfl, HG.out, rfl⟩
end Go.Proofs.Ytnkphpjnhjbokaa
