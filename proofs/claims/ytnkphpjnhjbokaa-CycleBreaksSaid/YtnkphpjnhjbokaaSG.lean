/-
  opposite.
  Conditions: at most 1000 arcs.
-/
import Derived.Test.YtnkphpjnhjbokaaSF
import Derived.Test.YtnkphpjnhjbokaaCA
namespace Go.Proofs.Ytnkphpjnhjbokaa
open Go.RowKit Go.Shelf
attribute [local go_sem] Oper.semAt_some
set_option maxRecDepth 20000

theorem wpList_pushA {ops : Array Oper} {rest : List Oper} {o : Oper} {a : Act} {Q : Exit → Act → World → Prop} (hgd : o.guard = none) (s x : Operand)
    (ho : o.op = .call { callee := .builtin .append, args := #[s, x], argTypes := #[27, 27] })
    {w0 wb : World} {F : List Ar} {A : Option Addr} {n c : Nat} {y : Ar} (h : RowA w0 F (.slice A n c) wb) (hn : F.length = n) (hm : n + 1 ≤ 1000000)
    (hs : a.eval s = .slice A n c) (hx : a.eval x = .slice (some ⟨wb.heap.size, 0, none⟩) 1 1)
    (k : ∀ A' c' w', RowA w0 (F ++ [y]) (.slice A' (n + 1) c') w' → (wb.alloc (.cells (arA y) 40)).grownBy w' (Value.slice A n c).ownBlock → wpList Try.prog ops Q rest (a.put o.dst (.slice A' (n + 1) c')) w') :
    wpList Try.prog ops Q (o :: rest) a (wb.alloc (.cells (arA y) 40)) := by
  obtain ⟨i0, hi0, hz0, hz1, hz2⟩ := a_info2
  have hown := h.own
  rw [hn] at hown
  have hal : (wb.alloc (.cells (arA y) 40)).ownsRow w0.heap.size 40 2 (.slice A n c) n (arL F) := own_under hown ((Below.refl _ wb).alloc (Nat.le_refl _) _) (Nat.le_refl _)
  have hsz := h.below.size
  refine wpList_app2 _ hgd s x 27 ho w0.heap.size 40 i0 zA 2 16 Try.underlying27 hi0 hz0 hz1 hz2 rfl (by omega) (.slice A n c) n (arL F) hs hal (wb.heap.size + 1) (some ⟨wb.heap.size, 0, none⟩) 1 1 (arV y) hx (lies_ar wb y) (fun u hu => arL_one [y] u (by simpa [arL] using hu)) (by omega) (by simp only [maxLen]; omega) (by omega) (by simp; omega) ?_
  intro v5 w5 ho5 hg5 _
  obtain ⟨A5, c5, rfl, _⟩ := own_slice ho5
  exact k A5 c5 w5 (h.app hn ho5 hg5) hg5
theorem turn_snoc {l : List Ar} {k : Nat} (hk : k < l.length) : turn (l.take (k + 1)) = turn (l.take k) ++ [(l[k].2, l[k].1)] := by
  unfold turn
  rw [List.take_add_one, List.getElem?_eq_getElem hk, List.map_append]
  rfl
theorem turn_length (l : List Ar) : (turn l).length = l.length := by simp [turn]
theorem arA_one (y : Ar) : (arA y).all (·.oneCell') = true := by simp [arA, Value.oneCell']
set_option maxHeartbeats 6400000 in
theorem opposite_any (A : Option Addr) (n c : Nat) (l : List Ar) (w : World) (h : Lz (fun _ => False) w 2 A n (arL l)) (hn : n ≤ 1000) : Calls Try.prog 22 #[.slice A n c] w (RetG w (turn l) n) := by
  have hlen := h.arlen
  have HL := Lib.hid h
  clear h
  obtain ⟨i0, hi0, hz0, hz1, hz2⟩ := a_info2
  go_enter Try.func22, Try.ntmps22
  go_upto_region 2 with (at_make; refine wpList_make_own _ rfl _ _ 27 rfl w.heap.size 40 i0 zA 2 Try.underlying27 hi0 hz0 hz1 .i64 .i64 (n : Int) n rfl rfl rfl (by rw [hz2]; omega) (by unfold maxLen; omega) (Nat.le_refl _) ?_; intro w1 ho1 hg1)
  have HR0 : Hid (RowA w [] (.slice (some ⟨w.heap.size, 0, none⟩) 0 n) w1) := ⟨⟨hg1.os, hg1.tape, hg1.output, hg1.size, fun k hk => hg1.block k hk (fun e => by cases e)⟩, ho1⟩
  generalize (some ⟨w.heap.size, 0, none⟩ : Option Addr) = A1 at HR0 ⊢
  clear ho1 hg1
  go_wp2_with fail
  go_loopw [3, 11] (fun vo vi wr => ∃ (k : Nat) (F : List Ar) (B : Option Addr) (nF cF : Nat), k ≤ n ∧ nF ≤ k ∧ vo = .slice B nF cF ∧ vi = .int .i64 (k : Int) ∧ Hid (turn (l.take k) = F) ∧ Hid (F.length = nF) ∧ Hid (RowA w F (.slice B nF cF) wr)) (fun _ i _ => n - (intOf i).toNat)
  case atStart => exact ⟨0, [], A1, 0, n, Nat.zero_le _, Nat.le_refl _, rfl, by go_num, Lib.hid rfl, Lib.hid rfl, HR0⟩
  case round =>
    clear HR0
    obtain ⟨k, F, B, nF, cF, hk, hnF, rfl, rfl, HF, HN, HR⟩ := hrel
    by_cases hlt : k < n
    · obtain ⟨g, o, hl, rfl, hb, hc⟩ := HL.out.ar hlt
      have hts := turn_snoc hl
      obtain ⟨y, hy⟩ : ∃ y, l[k] = y := ⟨_, rfl⟩
      rw [hy] at hc hts
      rw [HF.out] at hts
      obtain ⟨y1, y2⟩ := y
      have HE := Lib.hid hts
      have R1 : Hid (wr.rangeAt g (o + k * 2) (arV (y1, y2))) := pl_rangeAt_block hc (HR.out.below.block g hb)
      have A5 := Lib.hid (At.new wr 40 (arA (y1, y2)))
      have HRA := Lib.hid (HR.out.under ((Below.refl wr.heap.size wr).alloc (Nat.le_refl _) (.cells (arA (y1, y2)) 40)))
      clear hc hy hts
      go_upto_region 5 with (first
        | refine wpList_load_in 40 14 (.tmp 13) rfl rfl rfl g (o + k * 2) rfl (arV (y1, y2)) 2 strA rfl R1.out ?_
        | refine wpList_store_new 40 (.tmp 5) (.tmp 14) rfl rfl rfl _ wr rfl rfl (arA (y1, y2)) #[.int .u64 0, .int .u64 0] 2 rfl strA rfl rfl (arA_one _) rfl ?_)
      have p1 := A5.out.cell 0
      have p2 := A5.out.cell 1
      generalize wr.alloc (.cells (arA (y1, y2)) 40) = w5 at A5 HRA p1 p2 ⊢
      generalize wr.heap.size = b5 at A5 p1 p2 ⊢
      have p1' : w5.cell? ⟨b5, 0, none⟩ = some (.int .u64 (y1 : Int)) := p1
      have p2' : w5.cell? ⟨b5, 1, none⟩ = some (.int .u64 (y2 : Int)) := p2
      clear p1 p2
      go_wp2_with (first
        | refine wpList_lit1 rfl (.tmp 20) 27 40 2 zA (arA (y2, y1)) rfl rfl Try.underlying27 (by kernel_rfl) (by omega) (by omega) rfl ?_
        | (at_builtin; refine wpList_pushA rfl (.tmp 15) (.tmp 21) rfl (y := (y2, y1)) HRA.out HN.out (by omega) rfl rfl ?_; intro A6 c6 w6 h6 _))
      exact ⟨⟨k + 1, F ++ [(y2, y1)], A6, nF + 1, c6, by omega, by omega, rfl, by go_num, HE, Lib.hid (by rw [List.length_append, HN.out]; rfl), Lib.hid h6⟩, by simp [intOf]; omega⟩
    · obtain rfl : k = n := by omega
      have HE : Hid (F = turn l) := by show _ = _; rw [← HF.out, List.take_of_length_le (by omega)]
      have hnk : nF = k := by have := HN.out; rw [HE.out, turn_length] at this; omega
      subst hnk
      have HG := Lib.hid (graphOf_any (fun _ => False) nF cF B F wr (HR.out.lz HN.out) (by omega))
      go_wp2_with fail
      refine HG.out.mono ?_
      intro e z ⟨B2, c2, g, he, hg⟩
      subst he
      have HGS : Hid (GrS w (turn l) g (.slice B2 nF c2) nF z) := by
        rw [← HE.out]
        exact ⟨hg.perm, hg.up, hg.len, own_base hg.own HR.out.below.size, HR.out.below.trans (hg.below.mono HR.out.below.size)⟩
      clear hg HG
      go_wp2_with fail
      go_ret
      exact ⟨B2, c2, g, rfl, HGS.out⟩
end Go.Proofs.Ytnkphpjnhjbokaa
