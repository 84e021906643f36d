/-
  Walks: readPage.
  Conditions: readers over at most 10000 bytes.
-/
import Derived.Test.YtihlmjknhgnjpaaDoorT3
namespace Go.Proofs.YtihlmjknhgnjpaaDoor
open Go.RowKit
set_option maxRecDepth 8000

theorem zset51 (v : Int) : Tryd.zeroCells51.setIfInBounds 0 (.int .i64 v) = imA ⟨v, zpg⟩ := by kernel_rfl
theorem zero51 : Tryd.zeroCells51 = imA ⟨0, zpg⟩ := by kernel_rfl
theorem zero51_one : Tryd.zeroCells51.all (·.oneCell') = true := by rw [zero51]; exact imA_one _

/-- Within readPage, which began in world w0: the box of the result, the page, the reader. -/
structure RPS (w0 : World) (g gi : Nat) (im : Im) (s : RS) (w : World) : Prop where
  box : At w w0.heap.size 51 Tryd.zeroCells51
  img : At w gi 51 (imA im)
  rdr : Rdr w g s.1 s.2
  low : g < w0.heap.size
  high : w0.heap.size < gi
  frame : w0.grownBy w (some g)
section
variable {w0 w w' : World} {g gi : Nat} {im im' : Im} {s s' : RS}
theorem RPS.call (h : RPS w0 g gi im s w) (hr : Rdr w' g s'.1 s'.2) (hg : w.grownBy w' (some g)) : RPS w0 g gi im s' w' := by
  have hl := h.low
  have hh := h.high
  exact ⟨h.box.grown hg (by intro e; injection e with e; omega), h.img.grown hg (by intro e; injection e with e; omega), hr, h.low, h.high, h.frame.trans hg⟩
theorem RPS.below (h : RPS w0 g gi im s w) (hb : Below w.heap.size w w') : RPS w0 g gi im s w' :=
  h.call (h.rdr.below hb) (grown_below hb _)
/-- The box of the result is filled. -/
theorem RPS.ret {cs : Array Value} (h : RPS w0 g gi im s w) (hg : w.grownBy w' (some w0.heap.size)) (_ha : At w' w0.heap.size 51 cs) : Rdr w' g s.1 s.2 ∧ w0.grownBy w' (some g) := by
  have hl := h.low
  refine ⟨h.rdr.kept (fun k hk => hg.block k (by have := h.rdr.lt; omega) (by intro e; injection e with e; omega)), ⟨hg.os.trans h.frame.os, hg.tape.trans h.frame.tape, hg.output.trans h.frame.output, Nat.le_trans h.frame.size hg.size, fun k hk hne => ?_⟩⟩
  rw [hg.block k (by have := h.frame.size; omega) (by intro e; injection e with e; omega)]
  exact h.frame.block k hk hne
theorem RPS.copied (h : RPS w0 g gi im s w) (hg : w.grownBy w' (some gi)) (ha : At w' gi 51 (imA im')) : RPS w0 g gi im' s w' := by
  have hl := h.low
  have hh := h.high
  refine ⟨h.box.grown hg (by intro e; injection e with e; omega), ha, h.rdr.kept (fun k hk => hg.block k (by have := h.rdr.lt; omega) (by intro e; injection e with e; omega)), h.low, h.high, ⟨hg.os.trans h.frame.os, hg.tape.trans h.frame.tape, hg.output.trans h.frame.output, Nat.le_trans h.frame.size hg.size, fun k hk hne => ?_⟩⟩
  rw [hg.block k (by have := h.frame.size; omega) (by intro e; injection e with e; omega)]
  exact h.frame.block k hk hne
end
def RpYes (w : World) (g : Nat) (s : RS) (e : Ending) (w' : World) : Prop :=
  e = .returned (.tuple #[.agg (imA (rpIm s)), .bool true]) ∧ Rdr w' g (p3 s).1 (p3 s).2 ∧ w.grownBy w' (some g)
def RpNo (w : World) (g : Nat) (s : RS) (e : Ending) (w' : World) : Prop :=
  e = .returned (.tuple #[.agg (imA ⟨0, zpg⟩), .bool false]) ∧ Rdr w' g (p3 s).1 (p3 s).2 ∧ w.grownBy w' (some g)
def Rp (w : World) (g : Nat) (s : RS) (e : Ending) (w' : World) : Prop := if rpOk s = true then RpYes w g s e w' else RpNo w g s e w'
theorem i64_nat {n : Nat} (h : n < 256) : IntKind.i64.wrap (n : Int) = (n : Int) := by rw [IntKind.wrap_i64]; omega

set_option maxHeartbeats 3200000 in
theorem readPage_any (g : Nat) (s : RS) (w : World) (hr : Rdr w g s.1 s.2) (hl : s.1.length ≤ 10000) :
    Calls Tryd.prog 48 #[.pointer (some ⟨g, 0, none⟩)] w (Rp w g s) := by
  have hgl := hr.lt
  have hwp := i64_nat (vl_lt1 s)
  have hwn := i64_nat (vl_lt1 (p1 s))
  have N1 := Lib.hid (Nat.le_trans (nx_len 1 s) hl)
  have N2 := Lib.hid (Nat.le_trans (nx_len 1 (p1 s)) N1.out)
  have B0 := Lib.hid ((Below.refl w.heap.size w).alloc (Nat.le_refl _) (.cells Tryd.zeroCells51 51))
  have R0 := Lib.hid (hr.below B0.out)
  go_enter Tryd.func48, Tryd.ntmps48
  go_wp2_with fail
  refine (num_st g 1 s _ R0.out hl).mono ?_
  rintro e w1 ⟨rfl, hrd, hgr⟩
  have RP1 : Hid (RPS w g w1.heap.size ⟨(vl 1 s : Int), zpg⟩ (p1 s) (w1.alloc (.cells (imA ⟨(vl 1 s : Int), zpg⟩) 51))) := by
    have hs1 := hgr.size
    simp only [World.alloc, Array.size_push] at hs1
    have hb := ((Below.refl w1.heap.size w1).alloc (Nat.le_refl _) (.cells (imA ⟨(vl 1 s : Int), zpg⟩) 51))
    exact ⟨((At.new w 51 Tryd.zeroCells51).grown hgr (by intro e; injection e with e; omega)).alloc _, At.new w1 51 _, Rdr.below hrd hb, hgl, by omega, ((grown_below B0.out _).trans hgr).trans (grown_below hb _)⟩
  clear hrd hgr R0 B0
  go_wp2_with (refine wpList_store_new 51 (.tmp 4) (.tmp 9) rfl rfl rfl w1.heap.size w1 rfl rfl (imA ⟨(vl 1 s : Int), zpg⟩) Tryd.zeroCells51 225 (congrArg Value.agg (zset51 _)) str51 (imA_size _) Tryd.zeroCells51_size (imA_one _) rfl ?_)
  refine (num_st g 1 (p1 s) _ RP1.out.rdr N1.out).mono ?_
  rintro e w2 ⟨rfl, hrd, hgr⟩
  have RP2 := Lib.hid (RP1.out.call (s' := p2 s) hrd hgr)
  clear hrd hgr RP1
  go_wp2_with fail
  refine (take_st g (vl 1 (p1 s)) (p2 s) w2 RP2.out.rdr N2.out).mono ?_
  rintro e w3 ⟨A, c, rfl, ho, hrd, hgr⟩
  have RP3 := Lib.hid (RP2.out.call (s' := p3 s) hrd hgr)
  clear hrd hgr RP2
  have PST : Hid (pst s = tk (vl 1 (p1 s)) (p2 s)) := Lib.hid rfl
  rw [← PST.out] at ho ⊢
  obtain ⟨n, hn⟩ : ∃ n, (pst s).length = n := ⟨_, rfl⟩
  rw [hn] at ho ⊢
  have hn255 : n ≤ 255 := by have := vl_lt1 (p1 s); have h2 := tk_len (vl 1 (p1 s)) (p2 s); rw [← PST.out, hn] at h2; omega
  obtain ⟨_, c', hv, hcn, _⟩ := own_slice ho
  have hnc : n ≤ c := by injection hv with _ _ h3; rw [h3]; exact hcn
  have LI3 := Lib.hid (Lies.of_own ho)
  have HN := Lib.hid hn
  clear ho hn hv hcn
  go_wp2_with fail
  refine (right_any g (p3 s).1 (p3 s).2 w3 RP3.out.rdr).mono ?_
  rintro e w4 ⟨rfl, rfl⟩
  obtain ⟨z, hz⟩ : ∃ z, (p3 s).2 = z := ⟨_, rfl⟩
  rw [hz]
  have HZ := Lib.hid hz
  clear hz
  cases z with
  | true =>
    have hok := Lib.hid (show ¬ rpOk s = true by rw [rpOk, HZ.out]; simp)
    go_wp2_with (refine wpList_store_at 51 (.tmp 2) (.tmp 28) rfl rfl rfl w.heap.size rfl Tryd.zeroCells51 Tryd.zeroCells51 225 rfl str51 Tryd.zeroCells51_size Tryd.zeroCells51_size zero51_one RP3.out.box ?_; intro w7 h7 g7; have H7 := Lib.hid h7; have K7 := Lib.hid (RP3.out.ret g7 h7); clear h7 g7)
    refine bodyPost_ret (v := .tuple #[.agg Tryd.zeroCells51, .bool false]) (results_at2 rfl H7.out str51 Tryd.zeroCells51_size Tryd.results48 rfl) rfl ?_
    rw [Rp, if_neg hok.out]
    exact ⟨by rw [zero51], K7.out⟩
  | false =>
    by_cases hbig : 224 < n
    · have hok := Lib.hid (show ¬ rpOk s = true by rw [rpOk, HN.out, decide_eq_false (by omega)]; simp)
      go_wp2_with (refine wpList_store_at 51 (.tmp 2) (.tmp 28) rfl rfl rfl w.heap.size rfl Tryd.zeroCells51 Tryd.zeroCells51 225 rfl str51 Tryd.zeroCells51_size Tryd.zeroCells51_size zero51_one RP3.out.box ?_; intro w7 h7 g7; have H7 := Lib.hid h7; have K7 := Lib.hid (RP3.out.ret g7 h7); clear h7 g7)
      refine bodyPost_ret (v := .tuple #[.agg Tryd.zeroCells51, .bool false]) (results_at2 rfl H7.out str51 Tryd.zeroCells51_size Tryd.results48 rfl) rfl ?_
      rw [Rp, if_neg hok.out]
      exact ⟨by rw [zero51], K7.out⟩
    · obtain ⟨q, hq⟩ : ∃ q, sfx (pst s) = q := ⟨_, rfl⟩
      have HQ := Lib.hid hq
      clear hq
      go_wp2_with fail
      refine (hasSuffix_any w3.heap.size n c (w3.heap.size + 1) _ A _ (pst s) _ (LI3.out.alloc (Nat.le_refl _) _) (lies_byte w3 0 0 5 rfl) (by omega) hnc).mono ?_
      rintro e w5 ⟨rfl, rfl⟩
      rw [HQ.out]
      have RP5 := Lib.hid (RP3.out.below ((Below.refl w3.heap.size w3).alloc (Nat.le_refl _) (.cells #[.int .u8 0] 5)))
      have LI5 := Lib.hid (LI3.out.alloc (Nat.le_refl _) (.cells #[.int .u8 0] 5))
      clear RP3 LI3
      generalize w3.alloc (.cells #[.int .u8 0] 5) = w5 at *
      cases q with
      | true =>
        have hok := Lib.hid (show ¬ rpOk s = true by rw [rpOk, HQ.out]; simp)
        go_wp2_with (refine wpList_store_at 51 (.tmp 2) (.tmp 28) rfl rfl rfl w.heap.size rfl Tryd.zeroCells51 Tryd.zeroCells51 225 rfl str51 Tryd.zeroCells51_size Tryd.zeroCells51_size zero51_one RP5.out.box ?_; intro w7 h7 g7; have H7 := Lib.hid h7; have K7 := Lib.hid (RP5.out.ret g7 h7); clear h7 g7)
        refine bodyPost_ret (v := .tuple #[.agg Tryd.zeroCells51, .bool false]) (results_at2 rfl H7.out str51 Tryd.zeroCells51_size Tryd.results48 rfl) rfl ?_
        rw [Rp, if_neg hok.out]
        exact ⟨by rw [zero51], K7.out⟩
      | false =>
        have hok := Lib.hid (show rpOk s = true by rw [rpOk, HQ.out, HZ.out, HN.out, decide_eq_true (by omega)]; rfl)
        go_wp2_with (first
          | (refine wpList_copy_im 32 (.tmp 30) (.tmp 31) rfl rfl rfl w1.heap.size _ n c A (vl 1 s : Int) (pst s) rfl rfl RP5.out.img LI5.out (by omega) ?_; intro w6 h6 g6; have RP6 := Lib.hid (RP5.out.copied g6 h6); clear h6 g6)
          | refine wpList_load_at 51 33 (.tmp 4) rfl rfl rfl w1.heap.size rfl (imA ⟨(vl 1 s : Int), padPg (pst s)⟩) 225 str51 (imA_size _) RP6.out.img ?_
          | (refine wpList_store_at 51 (.tmp 2) (.tmp 33) rfl rfl rfl w.heap.size rfl (imA ⟨(vl 1 s : Int), padPg (pst s)⟩) Tryd.zeroCells51 225 rfl str51 (imA_size _) Tryd.zeroCells51_size (imA_one _) RP6.out.box ?_; intro w7 h7 g7; have H7 := Lib.hid h7; have K7 := Lib.hid (RP6.out.ret g7 h7); clear h7 g7))
        refine bodyPost_ret (v := .tuple #[.agg (imA ⟨(vl 1 s : Int), padPg (pst s)⟩), .bool true]) (results_at2 rfl H7.out str51 (imA_size _) Tryd.results48 rfl) rfl ?_
        rw [Rp, if_pos hok.out]
        exact ⟨rfl, K7.out⟩
end Go.Proofs.YtihlmjknhgnjpaaDoor
