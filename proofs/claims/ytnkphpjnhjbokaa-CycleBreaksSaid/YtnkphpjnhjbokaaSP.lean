/-
  distances.
  Conditions: at most 1000 arcs; numbers below 2^64.
-/
import Derived.Test.YtnkphpjnhjbokaaSN
import Derived.StillTailTactics
namespace Go.Proofs.Ytnkphpjnhjbokaa
open Go.RowKit Go.Shelf
open Go.Maps (Keyed)
attribute [local go_sem] Oper.semAt_some
set_option maxRecDepth 100000

/-- The distances come back as a map of the call's own. -/
structure DsS (w : World) (g : List Ar) (a b : Nat) (d : Nat → Nat) (q : List Nat) (z : World) : Prop where
  low : Below w.heap.size w z
  new : w.heap.size ≤ b
  mp : MapAt u64V U64 z b (fD d)
  is : ∀ x, IsD g a x (d x)
  mem : ∀ x, x ∈ q ↔ d x ≠ 0
  nd : q.Nodup
  len : q.length ≤ g.length
def RetD (w : World) (g : List Ar) (a : Nat) (e : Ending) (z : World) : Prop := ∃ b d q, e = .returned (.map (some b)) ∧ DsS w g a b d q z
theorem Srch.start (w : World) (B1 : Nat) (A : Option Addr) (n c : Nat) (g : List Ar) (h : w.ownsRow B1 40 2 (.slice A n c) n (arL g)) :
    Srch w w.heap.size w.heap.size w.heap.size (w.heap.size + 1 + 1) (w.heap.size + 1 + 1 + 1) (w.heap.size + 1) (fun _ => False) A n c B1 g (fun _ => 0, []) ((((w.alloc (.cells #[.slice A n c] 42)).alloc (.map #[] 0)).alloc (.cells #[.map (some (w.heap.size + 1))] 41)).alloc (.cells #[.slice none 0 0] 25)) := by
  obtain ⟨w1, h1⟩ : ∃ w1, w.alloc (.cells #[.slice A n c] 42) = w1 := ⟨_, rfl⟩
  have b1 : Below w.heap.size w w1 := h1 ▸ (Below.refl _ w).alloc (Nat.le_refl _) _
  have s1 : w1.heap.size = w.heap.size + 1 := by rw [← h1]; simp
  have g1 : At w1 w.heap.size 42 #[.slice A n c] := h1 ▸ At.new w _ _
  obtain ⟨w2, h2⟩ : ∃ w2, w1.alloc (.map #[] 0) = w2 := ⟨_, rfl⟩
  have b2 : Below w1.heap.size w1 w2 := h2 ▸ (Below.refl _ w1).alloc (Nat.le_refl _) _
  have s2 : w2.heap.size = w.heap.size + 1 + 1 := by rw [← h2]; simp; omega
  have m2 : MapAt u64V U64 w2 (w.heap.size + 1) fun _ => none := by rw [← h2, ← s1]; exact MapAt.made w1
  obtain ⟨w3, h3⟩ : ∃ w3, w2.alloc (.cells #[.map (some (w.heap.size + 1))] 41) = w3 := ⟨_, rfl⟩
  have b3 : Below w2.heap.size w2 w3 := h3 ▸ (Below.refl _ w2).alloc (Nat.le_refl _) _
  have s3 : w3.heap.size = w.heap.size + 1 + 1 + 1 := by rw [← h3]; simp; omega
  have g3 : At w3 (w.heap.size + 1 + 1) 41 #[.map (some (w.heap.size + 1))] := by rw [← h3, ← s2]; exact At.new w2 _ _
  have b4 : Below w.heap.size w w3 := (b1.trans (b2.mono b1.size)).trans (b3.mono (Nat.le_trans b1.size b2.size))
  have b5 : Below w3.heap.size w3 (w3.alloc (.cells #[.slice none 0 0] 25)) := (Below.refl _ w3).alloc (Nat.le_refl _) _
  have g5 : At (w3.alloc (.cells #[.slice none 0 0] 25)) (w.heap.size + 1 + 1 + 1) 25 #[.slice none 0 0] := by rw [← s3]; exact At.new w3 _ _
  rw [h1, h2, h3]
  have gg : At w3 w.heap.size 42 #[.slice A n c] := (g1.under b2 (by omega)).under b3 (by omega)
  have mm : MapAt u64V U64 w3 (w.heap.size + 1) fun _ => none := m2.move (b3.block _ (by omega))
  exact ⟨⟨g3.under b5 (by omega), (mm.move (b5.block _ (by omega))).ext fun a => rfl, none, 0, 0, g5, rfl, World.ownsRow_nil _ _ _ _, fun k hk => by cases hk⟩, gg.under b5 (by omega), own_under (own_under h b4 (Nat.le_refl _)) b5 (by omega), b4.trans (b5.mono (by omega))⟩
set_option maxHeartbeats 3200000 in
theorem distances_any (A : Option Addr) (n c B1 : Nat) (g : List Ar) (x : Nat) (w : World) (h : w.ownsRow B1 40 2 (.slice A n c) n (arL g)) (hn : n ≤ 1000) (hl : g.length = n) (hu : g.Pairwise arLe) (hU : ∀ a ∈ g, U64 a.2) :
    Calls Try.prog 23 #[.slice A n c, .int .u64 (x : Int)] w (RetD w g x) := by
  have HS0 := Lib.hid (Srch.start w B1 A n c g h)
  have HU := Lib.hid hu
  have HUU := Lib.hid hU
  have HLG := Lib.hid hl
  have hmf : ∀ (fn : Fn) (first cap : Array Value) (w : World), (Instr.makeFunc fn first cap).run Try.prog w = .ok (.func fn first cap) w := fun _ _ _ _ => rfl
  have hmm : ∀ W, (Instr.makeMap 41 none).run Try.prog W = .ok (.map (some W.heap.size)) (W.alloc (.map #[] 0)) := fun W => rfl
  clear h hu hU hl
  go_enter Try.func23, Try.ntmps23
  go_wp2_with fail
  generalize ((((w.alloc (.cells #[.slice A n c] 42)).alloc (.map #[] 0)).alloc (.cells #[.map (some (w.heap.size + 1))] 41)).alloc (.cells #[.slice none 0 0] 25)) = W0 at HS0 ⊢
  have hsz0 := HS0.out.low.size
  refine (visit_any w w.heap.size w.heap.size w.heap.size (w.heap.size + 1 + 1) (w.heap.size + 1 + 1 + 1) (w.heap.size + 1) A n c B1 g x 1 (fun _ => 0) [] W0 hn HU.out HUU.out (by decide) HS0.out (by simp) (Nat.le_refl _) ⟨by omega, by omega, by omega, Nat.le_refl _⟩ hsz0).mono ?_
  rintro e W1 ⟨rfl, hs1⟩
  have HB1 := Lib.hid (BI.start g x)
  obtain ⟨⟨d1, q1⟩, hdq⟩ : ∃ s, visI (sucI g x) 1 (fun _ => 0, []) = s := ⟨_, rfl⟩
  rw [hdq] at hs1 HB1
  have HS1 := Lib.hid hs1
  clear hs1 hdq hsz0
  go_wp2_with fail
  go_loopw [8] (fun vi wr => ∃ (k : Nat) (d : Nat → Nat) (q : List Nat), vi = .int .i64 (k : Int) ∧ k ≤ n ∧ Hid (Srch w w.heap.size w.heap.size w.heap.size (w.heap.size + 1 + 1) (w.heap.size + 1 + 1 + 1) (w.heap.size + 1) (fun _ => False) A n c B1 g (d, q) wr) ∧ Hid (BI g x k d q)) (fun vi _ => n + 1 - (intOf vi).toNat)
  case atStart => exact ⟨0, d1, q1, rfl, Nat.zero_le _, HS1, HB1⟩
  case round =>
    obtain ⟨k, d, q, rfl, hk, HS, HB⟩ := hrel
    obtain ⟨A', nq, cq, hbq, hql, hrow, _⟩ := HS.out.di.ex
    have cQ : wr.cell? ⟨w.heap.size + 1 + 1 + 1, 0, none⟩ = some (.slice A' nq cq) := hbq.cell 0
    have cM : wr.cell? ⟨w.heap.size + 1 + 1, 0, none⟩ = some (.map (some (w.heap.size + 1))) := HS.out.di.bm.cell 0
    have hqlen := HB.out.len
    have hgl : g.length = n := HLG.out
    have HQL := Lib.hid hql
    have HRW := Lib.hid hrow
    clear hbq hql hrow
    by_cases hlt : k < nq
    · obtain ⟨xb, xo, hkl, rfl, hb, hc⟩ := (Lz.of_own (X := fun _ => False) HRW.out (fun _ h => h.elim)).uc hlt
      obtain ⟨y, hy⟩ : ∃ y, q[k] = y := ⟨_, rfl⟩
      rw [hy] at hc
      have HY := Lib.hid hy
      obtain ⟨dy, hdy⟩ : ∃ dy, d y = dy := ⟨_, rfl⟩
      have HDY := Lib.hid hdy
      have hUy : U64 y := by
        have h1 := HB.out.tg y (by rw [← hy]; exact List.getElem_mem hkl)
        obtain ⟨a, ha, e⟩ := List.mem_map.1 h1
        rw [← e]
        exact HUU.out a ha
      have hle : dy ≤ 2000 := by
        have h1 := HB.out.le y
        rw [hdy] at h1
        omega
      have hlk : ∀ W, MapAt u64V U64 W (w.heap.size + 1) (fD d) → (Instr.lookup 41 (.map (some (w.heap.size + 1))) (.int .u64 (y : Int)) false).run Try.prog W = .ok (.int .i64 (dy : Int)) W := fun W hm => by
        have h1 := hm.look keyT_u64 Try.underlying41 (Try.zeroValue3 W) false hUy
        rw [fD_look, hdy] at h1
        exact h1
      clear hy hdy
      go_upto_region 8 with fail
      have hD : ({ wr with drawn := wr.drawn + 1 } : World) = wr.drew := rfl
      have hbd : Below wr.heap.size wr wr.drew := (Below.refl _ wr).drew
      have HSD : Hid (Srch w w.heap.size w.heap.size w.heap.size (w.heap.size + 1 + 1) (w.heap.size + 1 + 1 + 1) (w.heap.size + 1) (fun _ => False) A n c B1 g (d, q) wr.drew) := HS.out.below hbd (Nat.le_refl _)
      have cQd : wr.drew.cell? ⟨w.heap.size + 1 + 1 + 1, 0, none⟩ = some (.slice (some ⟨xb, xo, none⟩) nq cq) := cQ
      have cMd : wr.drew.cell? ⟨w.heap.size + 1 + 1, 0, none⟩ = some (.map (some (w.heap.size + 1))) := cM
      have hcd : wr.drew.cell? ⟨xb, xo + k, none⟩ = some (.int .u64 (y : Int)) := hc
      have hlkd := hlk wr.drew HSD.out.di.mp
      have hk0 : (0 : Int) ≤ (k : Int) := by omega
      have hkn : (k : Int) < (nq : Int) := by omega
      clear hbd cQ cM hc hlk
      refine wp_region_still_tail 12 (by kernel_rfl) (by kernel_rfl) ?_
      simp only [List.take_succ_cons, List.take_zero, List.drop_succ_cons, List.drop_zero]
      rw [hD]
      generalize wr.drew = wd at HSD cQd cMd hcd hlkd ⊢
      clear hD
      repeat still_step
      refine wpStill_nil ?_
      have hwr : IntKind.i64.wrap ((dy : Int) + 1) = ((dy + 1 : Nat) : Int) := by rw [IntKind.wrap_i64]; omega
      rw [hwr]
      clear hwr cQd cMd hcd hlkd
      have hszd := HSD.out.low.size
      have hqb : q.length ≤ 10000 := by omega
      go_wp2_with fail
      refine (visit_any w w.heap.size w.heap.size w.heap.size (w.heap.size + 1 + 1) (w.heap.size + 1 + 1 + 1) (w.heap.size + 1) A n c B1 g y (dy + 1) d q wd hn HU.out HUU.out (by omega) HSD.out hqb (Nat.le_refl _) ⟨by omega, by omega, by omega, Nat.le_refl _⟩ hszd).mono ?_
      rintro e z ⟨rfl, hs⟩
      obtain ⟨⟨d', q'⟩, hdq⟩ : ∃ s, visI (sucI g y) (dy + 1) (d, q) = s := ⟨_, rfl⟩
      rw [hdq] at hs
      have HZ := Lib.hid hs
      have HBZ : Hid (BI g x (k + 1) d' q') := HB.out.step hkl (by have e1 : q[k] = y := HY.out; rw [e1, HDY.out]; exact hdq)
      have hkl2 : k < q.length := hkl
      clear hs hdq hszd hqb
      go_wp2_with fail
      exact ⟨⟨k + 1, d', q', by go_num, by omega, HZ, HBZ⟩, by simp [intOf]; omega⟩
    · have HD := Lib.hid (HB.out.done (by have : q.length = nq := HQL.out; omega))
      go_wp2_with fail
      go_ret
      exact ⟨_, d, q, rfl, HS.out.low, by omega, HS.out.di.mp, HD.out, HB.out.mem, HB.out.nd, HB.out.len⟩
end Go.Proofs.Ytnkphpjnhjbokaa
