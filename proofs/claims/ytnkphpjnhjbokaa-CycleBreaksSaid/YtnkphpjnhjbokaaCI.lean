/-
  A row of numbers that a call makes by append; the document's insert.
  Conditions: at most 100000 numbers.
-/
import Derived.Test.YtnkphpjnhjbokaaCH
namespace Go.Proofs.Ytnkphpjnhjbokaa
open Go.RowKit
attribute [local go_sem] Oper.semAt_some
set_option maxRecDepth 20000

/-- A row of the call's own. -/
structure RowS (w0 : World) (F : List Nat) (v : Value) (z : World) : Prop where
  below : Below w0.heap.size w0 z
  own : z.ownsRow w0.heap.size 23 1 v F.length (UC F)
theorem RowS.nil (w : World) : RowS w [] (.slice none 0 0) w := ⟨Below.refl _ w, World.ownsRow_nil _ _ _ _⟩
theorem RowS.under {w0 z z' : World} {F : List Nat} {v : Value} (h : RowS w0 F v z) (hb : Below z.heap.size z z') : RowS w0 F v z' := ⟨h.below.trans (hb.mono h.below.size), own_under h.own hb (Nat.le_refl _)⟩
theorem RowS.lz {w0 z : World} {F : List Nat} {A : Option Addr} {n c : Nat} (h : RowS w0 F (.slice A n c) z) (hn : F.length = n) : Lz (fun _ => False) z 1 A n (UC F) := by
  have := h.own
  rw [hn] at this
  exact Lz.of_own this (fun _ h => h.elim)
theorem RowS.slice {w0 z : World} {F : List Nat} {v : Value} (h : RowS w0 F v z) : ∃ A c, v = .slice A F.length c := by
  obtain ⟨A, c, e, _⟩ := own_slice h.own
  exact ⟨A, c, e⟩
/-- What a function hands back that makes a row of numbers. -/
def RetU (w : World) (F : List Nat) (e : Ending) (w' : World) : Prop := ∃ A c, e = .returned (.slice A F.length c) ∧ RowS w F (.slice A F.length c) w'
theorem wpList_push {ops : Array Oper} {rest : List Oper} {o : Oper} {a : Act} {Q : Exit → Act → World → Prop} (hgd : o.guard = none) (s x : Operand)
    (ho : o.op = .call { callee := .builtin .append, args := #[s, x], argTypes := #[25, 25] })
    {w0 wb : World} {F : List Nat} {A : Option Addr} {n c m : Nat} (h : RowS w0 F (.slice A n c) wb) (hn : F.length = n) (hm : n + 1 ≤ 1000000)
    (hs : a.eval s = .slice A n c) (hx : a.eval x = .slice (some ⟨wb.heap.size, 0, none⟩) 1 1)
    (k : ∀ A' c' w', RowS w0 (F ++ [m]) (.slice A' (n + 1) c') w' → wpList Try.prog ops Q rest (a.put o.dst (.slice A' (n + 1) c')) w') :
    wpList Try.prog ops Q (o :: rest) a (wb.alloc (.cells #[.int .u64 (m : Int)] 23)) := by
  obtain ⟨i0, hi0, hz0, hz1, hz2⟩ := u_info
  have hown := h.own
  rw [hn] at hown
  have hal : (wb.alloc (.cells #[.int .u64 (m : Int)] 23)).ownsRow w0.heap.size 23 1 (.slice A n c) n (UC F) := own_under hown ((Below.refl _ wb).alloc (Nat.le_refl _) _) (Nat.le_refl _)
  have hsz := h.below.size
  refine wpList_app2 _ hgd s x 25 ho w0.heap.size 23 i0 (.int .u64 0) 1 8 Try.underlying25 hi0 hz0 hz1 hz2 rfl (by omega) (.slice A n c) n (UC F) hs hal (wb.heap.size + 1) (some ⟨wb.heap.size, 0, none⟩) 1 1 [.int .u64 (m : Int)] hx (lies_new wb _ _) (fun u hu => by simp at hu; rw [hu]; rfl) (by omega) (by simp only [maxLen]; omega) (by omega) (by simp; omega) ?_
  intro v5 w5 ho5 hg5 _
  obtain ⟨A5, c5, rfl, _⟩ := own_slice ho5
  refine k A5 c5 w5 ⟨?_, ?_⟩
  · have hg2 : wb.grownBy w5 (Value.slice A n c).ownBlock := (World.grownBy_alloc wb _ _).andThen hg5 (fun j hj => .inr hj)
    exact below_own h.below hown hg2 (Nat.le_refl _) hsz
  · rw [UC_append, List.length_append, hn]
    exact ho5

set_option maxHeartbeats 3200000 in
theorem insert_any (A : Option Addr) (n c : Nat) (l : List Nat) (x : Nat) (w : World) (h : Lz (fun _ => False) w 1 A n (UC l)) (hn : n ≤ 100000) :
    Calls Try.prog 30 #[.slice A n c, .int .u64 (x : Int)] w (RetU w (insU l x)) := by
  have hlen := h.ulen
  have HL := Lib.hid h
  clear h
  go_enter Try.func30, Try.ntmps30
  go_wp2_with fail
  go_loopw [5, 6, 7] (fun vo vp vi wr => ∃ (k : Nat) (pt : Bool) (B : Option Addr) (nF cF : Nat), k ≤ n ∧ nF ≤ 2 * k + 1 ∧ vo = .slice B nF cF ∧ vp = .bool pt ∧ vi = .int .i64 (k : Int) ∧ Hid (putK l x k = pt) ∧ Hid ((insK l x k pt).length = nF) ∧ Hid (RowS w (insK l x k pt) (.slice B nF cF) wr)) (fun _ _ i _ => n - (intOf i).toNat)
  case atStart => exact ⟨0, false, none, 0, 0, Nat.zero_le _, by omega, rfl, rfl, rfl, Lib.hid rfl, Lib.hid rfl, Lib.hid (RowS.nil w)⟩
  case round =>
    obtain ⟨k, pt, B, nF, cF, hk, hnF, rfl, rfl, rfl, HP, HN, HR⟩ := hrel
    by_cases hlt : k < n
    · obtain ⟨b, o, hl, rfl, hb, hc⟩ := HL.out.uc hlt
      obtain ⟨y, hy⟩ : ∃ y, l[k] = y := ⟨_, rfl⟩
      rw [hy] at hc
      have p1 : wr.cell? ⟨b, o + k, none⟩ = some (.int .u64 (y : Int)) := (HR.out.below.cell (p := ⟨b, o + k, none⟩) hb).trans hc
      have HC := Lib.hid hc
      have HY := Lib.hid hy
      have hpn := putK_next (x := x) hl
      rw [HP.out, hy] at hpn
      have HPN := Lib.hid hpn
      clear hc hy hpn
      cases pt
      · obtain ⟨tb, htb⟩ : ∃ tb, decide ((x : Int) < (y : Int)) = tb := ⟨_, rfl⟩
        have htn : decide (x < y) = tb := by rw [← htb]; exact decide_eq_decide.2 (by omega)
        have HTN := Lib.hid htn
        cases tb
        · have HF : Hid (insK l x (k + 1) false = insK l x k false ++ [y]) := by show _ = _; rw [insK_not hl, HY.out]
          go_wp2_with (at_builtin; refine wpList_push rfl (.tmp 28) (.tmp 33) rfl HR.out HN.out (by omega) rfl rfl ?_; intro A5 c5 w5 h5)
          exact ⟨⟨k + 1, false, A5, nF + 1, c5, by omega, by omega, rfl, rfl, by go_num, Lib.hid (by rw [HPN.out, HTN.out]; rfl), Lib.hid (by rw [HF.out, List.length_append, HN.out]; rfl), Lib.hid (by rw [HF.out]; exact h5)⟩, by simp [intOf]; omega⟩
        · have hxy : x < y := by simpa using htn
          have HF : Hid (insK l x (k + 1) true = insK l x k false ++ [x] ++ [y]) := by
            show _ = _
            rw [insK_now hl HP.out (by rw [HY.out]; exact hxy), HY.out]
          clear hxy
          go_upto_region 8 with (at_builtin; refine wpList_push rfl (.tmp 24) (.tmp 26) rfl HR.out HN.out (by omega) rfl rfl ?_; intro A5 c5 w5 h5)
          have H5 := Lib.hid h5
          have HN5 : Hid ((insK l x k false ++ [x]).length = nF + 1) := by show _ = _; rw [List.length_append, HN.out]; rfl
          have p2 : w5.cell? ⟨b, o + k, none⟩ = some (.int .u64 (y : Int)) := (h5.below.cell (p := ⟨b, o + k, none⟩) hb).trans HC.out
          clear h5 p1
          go_wp2_with (at_builtin; refine wpList_push rfl (.tmp 28) (.tmp 33) rfl H5.out HN5.out (by omega) rfl rfl ?_; intro A6 c6 w6 h6)
          exact ⟨⟨k + 1, true, A6, nF + 2, c6, by omega, by omega, rfl, rfl, by go_num, Lib.hid (by rw [HPN.out, HTN.out]; rfl), Lib.hid (by rw [HF.out, List.length_append, HN5.out]; rfl), Lib.hid (by rw [HF.out]; exact h6)⟩, by simp [intOf]; omega⟩
      · have HF : Hid (insK l x (k + 1) true = insK l x k true ++ [y]) := by show _ = _; rw [insK_put hl HP.out, HY.out]
        go_wp2_with (at_builtin; refine wpList_push rfl (.tmp 28) (.tmp 33) rfl HR.out HN.out (by omega) rfl rfl ?_; intro A5 c5 w5 h5)
        exact ⟨⟨k + 1, true, A5, nF + 1, c5, by omega, by omega, rfl, rfl, by go_num, Lib.hid (by rw [HPN.out]; rfl), Lib.hid (by rw [HF.out, List.length_append, HN.out]; rfl), Lib.hid (by rw [HF.out]; exact h5)⟩, by simp [intOf]; omega⟩
    · obtain rfl : k = n := by omega
      cases pt
      · have HF := Lib.hid (insK_last hlen HP.out)
        go_wp2_with (at_builtin; refine wpList_push rfl (.tmp 37) (.tmp 39) rfl HR.out HN.out (by omega) rfl rfl ?_; intro A5 c5 w5 h5)
        go_ret
        have e : (insU l x).length = nF + 1 := by rw [HF.out, List.length_append, HN.out]; rfl
        exact ⟨A5, c5, by rw [e]; rfl, by rw [e, HF.out]; exact h5⟩
      · have HF := Lib.hid (insK_done (x := x) hlen)
        go_wp2_with fail
        go_ret
        have e : (insU l x).length = nF := by rw [HF.out, HN.out]
        exact ⟨B, cF, by rw [e]; rfl, by rw [e, HF.out]; exact HR.out⟩
end Go.Proofs.Ytnkphpjnhjbokaa
