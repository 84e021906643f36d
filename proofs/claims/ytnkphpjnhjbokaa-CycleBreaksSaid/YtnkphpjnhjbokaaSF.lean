/-
  Rows of arcs that a call makes by append; the law's own.
  Conditions: at most 1000 arcs.
-/
import Derived.Test.YtnkphpjnhjbokaaSD
import Derived.Test.YtnkphpjnhjbokaaLit
namespace Go.Proofs.Ytnkphpjnhjbokaa
open Go.RowKit Go.Shelf
attribute [local go_sem] Oper.semAt_some
set_option maxRecDepth 20000

theorem wp_lit1 {o : Oper} {a : Act} {w : World} {K : Act → World → Prop} {Q : Exit → Act → World → Prop} (d : Nat) (x : Operand) (t e : TypeId) (size : Nat) (z : Value) (c : Array Value) (hop : o.dst = some d)
    (ho : o.op = .buildSlice t 1 #[(0, x)]) (hx : a.eval x = .agg c) (ht : Try.prog.underlying t = some (.slice e)) (hi : (Try.prog.info? e).map (fun i => (i.zero, i.size)) = some (some z, size)) (h0 : 0 < size) (hs : size ≤ 100000) (hc : c.size = size)
    (h : K (a.put (some d) (.slice (some ⟨w.heap.size, 0, none⟩) 1 1)) (w.alloc (.cells c e))) : o.wp Try.prog a w K Q := by
  have hrun := run_buildSlice_one (P := Try.prog) w t e size z c ht hi h0 hs hc
  unfold Oper.wp
  simp [execOp, ho, hx, hrun, Result.andThen]
  simp only [Oper.upon]
  rw [hop]
  exact h
/-- append(v, x...) in a region that draws: a row of the call's own. -/
theorem wp_app2 {o : Oper} {a : Act} {w : World} {K : Act → World → Prop} {Q : Exit → Act → World → Prop} (d : Nat) (hd : o.dst = some d) (s x : Operand) (t : TypeId)
    (ho : o.op = .call { callee := .builtin .append, args := #[s, x], argTypes := #[t, t] })
    (base : Nat) (e : TypeId) (i : TypeInfo) (z : Value) (size bytes : Nat) (ht : Try.prog.underlying t = some (.slice e)) (hi : Try.prog.info? e = some i) (hz : i.zero = some z)
    (hsize : i.size = size) (hby : i.bytes = bytes) (hzs : z.cells.size = size) (hsz : 0 < size)
    (v : Value) (n : Nat) (xs : List Value) (hs : a.eval s = v) (hown : w.ownsRow base e size v n xs)
    (B : Nat) (A : Option Addr) (m c : Nat) (news : List Value) (hx : a.eval x = .slice A m c) (hr : Lies w B size A m news) (h1 : ∀ u ∈ news, u.oneCell' = true) (hm : 0 < m)
    (h63 : n + m ≤ maxLen) (hbytes : (n + m) * bytes ≤ 140737488355328) (hbase : base ≤ w.heap.size)
    (h : ∀ v' w', w'.ownsRow base e size v' (n + m) (xs ++ news) → w.grownBy w' v.ownBlock → (v'.ownBlock = v.ownBlock ∨ v'.ownBlock = some w.heap.size) → K (a.put (some d) v') w') : o.wp Try.prog a w K Q := by
  obtain ⟨v', w', hrun, h2, h3, h4⟩ := run_append_lies2 (P := Try.prog) w base t o.type e i z size bytes ht hi hz hsize hby hzs hsz v n xs hown B A m c news hr h1 hm h63 hbytes hbase
  refine Lib.wp_append_run w s x t t ho v _ hs hx v' w' hrun ?_
  rw [hd]
  exact h v' w' h2 h3 h4

theorem arL_append (a b : List Ar) : arL (a ++ b) = arL a ++ arL b := by simp [arL]
def zA : Value := .agg #[.int .u64 0, .int .u64 0]
theorem a_info2 : ∃ i, Try.prog.info? 40 = some i ∧ i.zero = some zA ∧ i.size = 2 ∧ i.bytes = 16 := ⟨_, rfl, rfl, rfl, rfl⟩
structure RowA (w0 : World) (F : List Ar) (v : Value) (z : World) : Prop where
  below : Below w0.heap.size w0 z
  own : z.ownsRow w0.heap.size 40 2 v F.length (arL F)
theorem RowA.nil (w : World) : RowA w [] (.slice none 0 0) w := ⟨Below.refl _ w, World.ownsRow_nil _ _ _ _⟩
theorem RowA.under {w0 z z' : World} {F : List Ar} {v : Value} (h : RowA w0 F v z) (hb : Below z.heap.size z z') : RowA w0 F v z' := ⟨h.below.trans (hb.mono h.below.size), own_under h.own hb (Nat.le_refl _)⟩
theorem RowA.lz {w0 z : World} {F : List Ar} {A : Option Addr} {n c : Nat} (h : RowA w0 F (.slice A n c) z) (hn : F.length = n) : Lz (fun _ => False) z 2 A n (arL F) := by
  have := h.own
  rw [hn] at this
  exact Lz.of_own this (fun _ h => h.elim)
theorem RowA.app {w0 wb w5 : World} {F : List Ar} {A A5 : Option Addr} {n c c5 : Nat} {y : Ar} {t : TypeId} {cs : Array Value} (h : RowA w0 F (.slice A n c) wb) (hn : F.length = n) (ho : w5.ownsRow w0.heap.size 40 2 (.slice A5 (n + 1) c5) (n + 1) (arL F ++ arV y)) (hg : (wb.alloc (.cells cs t)).grownBy w5 (Value.slice A n c).ownBlock) : RowA w0 (F ++ [y]) (.slice A5 (n + 1) c5) w5 := by
  have hown := h.own
  rw [hn] at hown
  refine ⟨below_own h.below hown ((World.grownBy_alloc wb _ _).andThen hg (fun j hj => .inr hj)) (Nat.le_refl _) h.below.size, ?_⟩
  rw [arL_append, List.length_append, hn]
  simpa [arL] using ho
theorem lies_ar (w : World) (y : Ar) : Lies (w.alloc (.cells (arA y) 40)) (w.heap.size + 1) 2 (some ⟨w.heap.size, 0, none⟩) 1 (arV y) := ⟨rfl, fun _ => ⟨_, rfl, Nat.lt_succ_self _, fun j u hu => by
  have h := (At.new w 40 (arA y)).cell j
  rw [add_plain, Nat.zero_add, h]
  simpa [arA, arV] using hu⟩⟩
set_option maxHeartbeats 3200000 in
theorem own_any (A : Option Addr) (n c : Nat) (l : List Ar) (w : World) (h : Lz (fun _ => False) w 2 A n (arL l)) (hn : n ≤ 1000) : Calls Try.prog 10 #[.slice A n c] w (fun e z => ∃ B cB, e = .returned (.slice B n cB) ∧ RowA w l (.slice B n cB) z) := by
  have hlen := h.arlen
  have HL := Lib.hid h
  clear h
  obtain ⟨i0, hi0, hz0, hz1, hz2⟩ := a_info2
  go_enter Try.func10, Try.ntmps10
  go_wp2_with fail
  go_loopw [3, 4] (fun vo vi wr => ∃ (k : Nat) (F : List Ar) (B : Option Addr) (nF cF : Nat), k ≤ n ∧ nF ≤ k ∧ vo = .slice B nF cF ∧ vi = .int .i64 (k : Int) ∧ Hid (l.take k = F) ∧ Hid (F.length = nF) ∧ Hid (RowA w F (.slice B nF cF) wr)) (fun _ i _ => n - (intOf i).toNat)
  case atStart => exact ⟨0, [], none, 0, 0, Nat.zero_le _, Nat.le_refl _, rfl, rfl, Lib.hid rfl, Lib.hid rfl, Lib.hid (RowA.nil w)⟩
  case round =>
    obtain ⟨k, F, B, nF, cF, hk, hnF, rfl, rfl, HF, HN, HR⟩ := hrel
    by_cases hlt : k < n
    · obtain ⟨g, o, hl, rfl, hb, hc⟩ := HL.out.ar hlt
      obtain ⟨y, hy⟩ : ∃ y, l[k] = y := ⟨_, rfl⟩
      rw [hy] at hc
      obtain ⟨y1, y2⟩ := y
      have C1 : Hid (w.cell? ⟨g, o + k * 2, none⟩ = some (.int .u64 (y1 : Int))) := hc 0 _ rfl
      have C2 : Hid (w.cell? ⟨g, o + k * 2 + 1, none⟩ = some (.int .u64 (y2 : Int))) := hc 1 _ rfl
      have HE : Hid (l.take (k + 1) = F ++ [(y1, y2)]) := by
        show _ = _
        rw [List.take_add_one, List.getElem?_eq_getElem hl, HF.out, hy]
        rfl
      have hown := HR.out.own
      rw [HN.out] at hown
      have OWN : Hid ((wr.drew.alloc (.cells (arA (y1, y2)) 40)).ownsRow w.heap.size 40 2 (.slice B nF cF) nF (arL F)) := own_under (World.ownsRow.drew hown) ((Below.refl _ wr.drew).alloc (Nat.le_refl _) _) (Nat.le_refl _)
      have HSZ : Hid (w.heap.size ≤ (wr.drew.alloc (.cells (arA (y1, y2)) 40)).heap.size) := by have := HR.out.below.size; show _ ≤ _; simp; omega
      clear hc hy hown
      go_upto_region 5 with fail
      refine wp_region_held_drew (S := Below w.heap.size w) (by kernel_rfl) (HR.out.below.drew) (fun hS => ?_)
      refine tk 0 hS ?_
      refine tk 1 hS ?_
      refine tk 2 hS ?_
      refine tk 3 hS ?_
      refine tk 4 hS ?_
      refine tk 5 hS ?_ (hy := by intro wz hz; have q1 : wz.cell? ⟨g, o + k * 2, none⟩ = some (.int .u64 (y1 : Int)) := (hz.cell (p := ⟨g, o + k * 2, none⟩) hb).trans C1.out; have q2 : wz.cell? ⟨g, o + k * 2 + 1, none⟩ = some (.int .u64 (y2 : Int)) := (hz.cell (p := ⟨g, o + k * 2 + 1, none⟩) hb).trans C2.out; go_simp <;> with_reducible rfl)
      refine tk 6 hS ?_
      refine tk 7 hS ?_
      refine tk 8 hS ?_
      refine tk 9 hS ?_
      refine tk 10 hS ?_ (hy := by intro wz hz; have q1 : wz.cell? ⟨g, o + k * 2, none⟩ = some (.int .u64 (y1 : Int)) := (hz.cell (p := ⟨g, o + k * 2, none⟩) hb).trans C1.out; have q2 : wz.cell? ⟨g, o + k * 2 + 1, none⟩ = some (.int .u64 (y2 : Int)) := (hz.cell (p := ⟨g, o + k * 2 + 1, none⟩) hb).trans C2.out; go_simp <;> with_reducible rfl)
      refine tk 11 hS ?_
      refine wpAnyH_ready (rs := [12]) (by kernel_rfl) (by simp) ?_
      refine AllReadyH.cons rfl (fun K hK => ?_) AllReadyH.nil
      rw [if_pos (by rfl)]
      refine wp_lit1 23 (.tmp 22) 27 40 2 zA (arA (y1, y2)) rfl rfl rfl Try.underlying27 (by kernel_rfl) (by omega) (by omega) rfl ?_
      refine hK.out _ _ (hS.alloc (HR.out.below.size) _) (fun hT => ?_)
      clear hK hS
      have hS := hT
      clear hT
      refine wpAnyH_ready (rs := [13]) (by kernel_rfl) (by simp) ?_
      refine AllReadyH.cons rfl (fun K hK => ?_) AllReadyH.nil
      rw [if_pos (by rfl)]
      refine wp_app2 24 rfl (.tmp 11) (.tmp 23) 27 rfl w.heap.size 40 i0 zA 2 16 Try.underlying27 hi0 hz0 hz1 hz2 rfl (by omega) (.slice B nF cF) nF (arL F) rfl OWN.out _ (some ⟨wr.drew.heap.size, 0, none⟩) 1 1 (arV (y1, y2)) rfl (lies_ar wr.drew (y1, y2)) (fun u hu => arL_one [(y1, y2)] u (by simpa [arL] using hu)) (by omega) (by simp only [maxLen]; omega) (by omega) HSZ.out ?_
      intro v5 w5 ho5 hg5 _
      obtain ⟨A5, c5, rfl, _⟩ := own_slice ho5
      have HAP := Lib.hid ((HR.out.under (Below.refl wr.heap.size wr).drew).app HN.out ho5 hg5)
      clear ho5 hg5
      refine hK.out _ _ (HAP.out.below) (fun hT => ?_)
      clear hK hS
      have hS := hT
      clear hT
      dsimp only [Act.put]
      refine tk 14 hS ?_
      refine wpAnyH_done (by kernel_rfl) ?_ _
      clear hS
      go_wp2_with fail
      exact ⟨⟨k + 1, F ++ [(y1, y2)], A5, nF + 1, c5, by omega, by omega, rfl, by go_num, HE, Lib.hid (by rw [List.length_append, HN.out]; rfl), HAP⟩, by simp [intOf]; omega⟩
    · obtain rfl : k = n := by omega
      have HE : Hid (F = l) := by show _ = _; rw [← HF.out, List.take_of_length_le (by omega)]
      have hnk : nF = k := by have := HN.out; rw [HE.out] at this; omega
      subst hnk
      go_wp2_with fail
      go_ret
      exact ⟨B, cF, rfl, by rw [← HE.out]; exact HR.out⟩
end Go.Proofs.Ytnkphpjnhjbokaa
