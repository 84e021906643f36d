/-
  The walk of the law LeafPuts.
  Conditions: what came in are bytes and a number of 64 bits.
-/
import Derived.Test.YtlanaplnhjdgcaaV1
import Derived.Test.YtlanaplnhjdgcaaS5
namespace Go.Proofs.Ytlanaplnhjdgcaa
open Go.RowKit

theorem below_drewN {B : Nat} {a w : World} (h : Below B a w) (n : Nat) : Below B a (w.drewN n) := ⟨h.os, h.tape, h.output, h.size, h.block⟩
theorem RowAt.drewN {w : World} {g : Nat} {t : TypeId} {L : List Int} (h : RowAt w g t L) (n : Nat) : RowAt (w.drewN n) g t L := h

theorem wp_load_pg {op : Oper} {a : Act} {w : World} {K : Act → World → Prop} {Q : Exit → Act → World → Prop} (d : Nat) (x : Operand) (hop : op.dst = some d) (ho : op.op = .load 22 x)
    (g : Nat) (hx : a.eval x = .pointer (some ⟨g, 0, none⟩)) (p : Pg) (hc : RowAt w g 22 p.toList) (h : K (a.put (some d) (.agg (pgA p))) w) : Oper.wp Try.prog op a w K Q := by
  refine wp_load_mid 22 x ho g 0 hx (pg p) _ hc.all Try.underlying22 rfl (by rw [pg_length]; exact pg_size) ?_
  rw [hop]
  exact h

theorem wpList_load_pgG {ops : Array Oper} {rest : List Oper} {op : Oper} {a : Act} {w : World} {Q : Exit → Act → World → Prop} (d : Nat) (x : Operand) (hop : op.dst = some d) (ho : op.op = .load 22 x) (hw : Region.wanted op (yielded ops a.tmps) = true)
    (g : Nat) (hx : a.eval x = .pointer (some ⟨g, 0, none⟩)) (p : Pg) (hc : RowAt w g 22 p.toList)
    (h : wpList Try.prog ops Q rest (a.put (some d) (.agg (pgA p))) w) : wpList Try.prog ops Q (op :: rest) a w := by
  rw [wpList, if_pos hw]
  left
  exact wp_load_pg d x hop ho g hx p hc h

set_option maxRecDepth 20000 in
set_option maxHeartbeats 1600000 in
theorem puts_out (p : Pg) (lsn : Int) (n c : Nat) (A : Option Addr) (w : World) (hn : 20 < n) : Calls Try.prog 3 #[.agg (pgA p), .int .u64 lsn, .slice A n c] w fun e w' => e = .returned (.bool true) ∧ Below w.heap.size w w' := by
  have B0 := Lib.hid (show Below w.heap.size w (w.alloc (.cells (pgA p) 22)) from (Below.refl _ _).alloc (Nat.le_refl _) _)
  go_enter Try.func3, Try.ntmps3
  go_wp2_with fail
  refine (works_any _).mono ?_
  rintro e w1 ⟨rfl, hb⟩
  have B1 : Hid (Below w.heap.size w w1) := B0.out.trans (hb.mono B0.out.size)
  clear hb
  go_wp2_with fail
  go_ret
  exact ⟨rfl, B1.out⟩

set_option maxRecDepth 20000 in
set_option maxHeartbeats 4000000 in
theorem puts_in (p : Pg) (lsn : Nat) (n c : Nat) (A : Option Addr) (l : List Sect) (w : World) (hn : n ≤ 20) (hlsn : lsn < 18446744073709551616) (hp : Okb p.toList) (hA : Lz (fun _ => False) w 64 A n (flat l)) (hs : Oks l) :
    Calls Try.prog 3 #[.agg (pgA p), .int .u64 lsn, .slice A n c] w fun e w' => e = .returned (.bool true) ∧ Below w.heap.size w w' := by
  have hzero := (zero_of_info pg_info).1
  have hinfo := Lib.hid (zero_of_info pg_info).2
  have HOK := Lib.hid (oks_puts p lsn hp)
  have HS := Lib.hid hs
  have HA := Lib.hid hA
  have R0 := Lib.hid (row_pg w p)
  have B0 := Lib.hid (show Below w.heap.size w (w.alloc (.cells (pgA p) 22)) from (Below.refl _ _).alloc (Nat.le_refl _) _)
  have HPL : Hid ((puts p lsn).length = 4) := rfl
  have HGP := Lib.hid (GotV_puts p lsn hlsn)
  have HLT := Lib.hid hlsn
  have HGV : Hid (GotV l = .tuple #[.agg (pgA (getP l)), .int .u64 (getM l), .bool (whole l)]) := rfl
  obtain ⟨pp, hpp⟩ : ∃ pp, pp = getP l := ⟨_, rfl⟩
  obtain ⟨mm, hmm⟩ : ∃ mm, mm = getM l := ⟨_, rfl⟩
  obtain ⟨bb, hbb⟩ : ∃ bb, bb = whole l := ⟨_, rfl⟩
  rw [← hpp, ← hmm, ← hbb] at HGV
  clear hpp hmm hbb hA hs hp hlsn
  have he1 : ∀ w, (binOp .eql 22 (.agg (pgA p)) (.agg (pgA p))).run Try.prog w = .ok (.bool true) w := fun w => by
    have := eql_pg p p w
    rwa [beq_self_eq_true] at this
  have he2 : ∀ w, (binOp .eql 22 (.agg (pgA pp)) (.agg (pgA pp))).run Try.prog w = .ok (.bool true) w := fun w => by
    have := eql_pg pp pp w
    rwa [beq_self_eq_true] at this
  have HSA : Hid ((puts p lsn == puts p lsn) = true) := beq_self_eq_true _
  go_enter Try.func3, Try.ntmps3
  go_wp2_with (refine wpList_load_pg 21 (.tmp 3) rfl rfl rfl w.heap.size rfl p R0.out ?_)
  refine (put_any p lsn _).mono ?_
  rintro e w1 ⟨A1, c1, rfl, ho1, hb1⟩
  rw [HPL.out] at ho1 ⊢
  have O1 := Lib.hid ho1
  have HB1 := Lib.hid hb1
  have B1 : Hid (Below w.heap.size w w1) := B0.out.trans (hb1.mono B0.out.size)
  have R1 := Lib.hid (R0.out.below hb1)
  clear ho1 hb1
  go_wp2_with fail
  refine (get6_any (fun _ => False) 4 c1 A1 (puts p lsn) _ (Lz.of_own O1.out (fun _ h => h.elim)) HOK.out).mono ?_
  rintro e w2 ⟨rfl, hb2⟩
  rw [HGP.out]
  have O2 := Lib.hid (own_under O1.out hb2 (Nat.le_refl _))
  have B2 : Hid (Below w.heap.size w w2) := B1.out.trans (hb2.mono B1.out.size)
  have R2 := Lib.hid (R1.out.below hb2)
  clear hb2
  obtain ⟨b8, hb8⟩ : ∃ b8, b8 = w2.heap.size := ⟨_, rfl⟩
  have HB8E := Lib.hid hb8
  go_wp2_with (refine wpList_store_pg (.tmp 8) (.tmp 27) rfl rfl rfl w2.heap.size rfl p zpg rfl (row_pg w2 zpg) ?_; rw [← hb8]; clear hb8; intro w3 h3 m3; have RA3 := Lib.hid h3; rw [HB8E.out] at m3; have HB3 := Lib.hid (below_new m3); clear h3 m3)
  have O3 := Lib.hid (own_under O2.out HB3.out (Nat.le_refl _))
  have B3 : Hid (Below w.heap.size w w3) := B2.out.trans (HB3.out.mono B2.out.size)
  have R3 := Lib.hid (R2.out.below HB3.out)
  refine (get6_any (fun _ => False) n c A l _ (HA.out.below B3.out) HS.out).mono ?_
  rintro e w4 ⟨rfl, hb4⟩
  rw [HGV.out]
  have O4 := Lib.hid (own_under O3.out hb4 (Nat.le_refl _))
  have B4 : Hid (Below w.heap.size w w4) := B3.out.trans (hb4.mono B3.out.size)
  have R4 := Lib.hid (R3.out.below hb4)
  have RA4 := Lib.hid (RA3.out.below hb4)
  clear hb4
  obtain ⟨b11, hb11⟩ : ∃ b11, b11 = w4.heap.size := ⟨_, rfl⟩
  have HB11E := Lib.hid hb11
  go_wp2_with (refine wpList_store_pg (.tmp 11) (.tmp 33) rfl rfl rfl w4.heap.size rfl pp zpg rfl (row_pg w4 zpg) ?_; rw [← hb11]; clear hb11; intro w5 h5 m5; have RB5 := Lib.hid h5; rw [HB11E.out] at m5; have HB5 := Lib.hid (below_new m5); clear h5 m5)
  have O5 := Lib.hid (own_under O4.out HB5.out (Nat.le_refl _))
  have B5 : Hid (Below w.heap.size w w5) := B4.out.trans (HB5.out.mono B4.out.size)
  have R5 := Lib.hid (R4.out.below HB5.out)
  have RA5 := Lib.hid (RA4.out.below HB5.out)
  refine (refGet6_any (fun _ => False) n c A l _ (HA.out.below B5.out) HS.out).mono ?_
  rintro e w6 ⟨rfl, hb6⟩
  rw [HGV.out]
  have O6 := Lib.hid (own_under O5.out hb6 (Nat.le_refl _))
  have B6 : Hid (Below w.heap.size w w6) := B5.out.trans (hb6.mono B5.out.size)
  have R6 := Lib.hid (R5.out.below hb6)
  have RA6 := Lib.hid (RA5.out.below hb6)
  have RB6 := Lib.hid (RB5.out.below hb6)
  clear hb6
  obtain ⟨b14, hb14⟩ : ∃ b14, b14 = w6.heap.size := ⟨_, rfl⟩
  have HB14E := Lib.hid hb14
  go_wp2_with (first
    | (refine wpList_store_pg (.tmp 14) (.tmp 39) rfl rfl rfl w6.heap.size rfl pp zpg rfl (row_pg w6 zpg) ?_; rw [← hb14]; clear hb14; intro w7 h7 m7; have RC7 := Lib.hid h7; rw [HB14E.out] at m7; have HB7 := Lib.hid (below_new m7); clear h7 m7; have R7 := Lib.hid (R6.out.below HB7.out))
    | refine wpList_load_pg 43 (.tmp 3) rfl rfl rfl w.heap.size rfl p R7.out ?_)
  have O7 := Lib.hid (own_under O6.out HB7.out (Nat.le_refl _))
  have B7 : Hid (Below w.heap.size w w7) := B6.out.trans (HB7.out.mono B6.out.size)
  have RA7 := Lib.hid (RA6.out.below HB7.out)
  have RB7 := Lib.hid (RB6.out.below HB7.out)
  refine (refPut6_any p lsn _ HLT.out).mono ?_
  rintro e w8 ⟨A8, c8, rfl, ho8, hb8⟩
  rw [HPL.out] at ho8 ⊢
  have O8 := Lib.hid (own_under O7.out hb8 (Nat.le_refl _))
  have Q8 := Lib.hid ho8
  have B8 : Hid (Below w.heap.size w w8) := B7.out.trans (hb8.mono B7.out.size)
  have R8 := Lib.hid (R7.out.below hb8)
  have RA8 := Lib.hid (RA7.out.below hb8)
  have RB8 := Lib.hid (RB7.out.below hb8)
  have RC8 := Lib.hid (RC7.out.below hb8)
  clear ho8 hb8
  go_wp2_with fail
  refine (same_any (fun _ => False) (fun _ => False) 4 c1 4 c8 A1 A8 (puts p lsn) (puts p lsn) _ (Lz.of_own O8.out (fun _ h => h.elim)) (Lz.of_own Q8.out (fun _ h => h.elim)) (by omega) (by omega)).mono ?_
  rintro e w9 ⟨rfl, m, hw9⟩
  rw [HSA.out]
  have B9 : Hid (Below w.heap.size w w9) := by rw [hw9]; exact below_drewN B8.out m
  have R9 : Hid (RowAt w9 w.heap.size 22 p.toList) := by rw [hw9]; exact R8.out.drewN m
  have RA9 : Hid (RowAt w9 b8 22 p.toList) := by rw [hw9]; exact RA8.out.drewN m
  have RB9 : Hid (RowAt w9 b11 22 pp.toList) := by rw [hw9]; exact RB8.out.drewN m
  have RC9 : Hid (RowAt w9 b14 22 pp.toList) := by rw [hw9]; exact RC8.out.drewN m
  clear hw9
  go_wp2_with (first
    | refine wpList_load_pgG 48 (.tmp 8) rfl rfl (by rfl) b8 rfl p RA9.out ?_
    | refine wpList_load_pgG 49 (.tmp 3) rfl rfl (by rfl) w.heap.size rfl p R9.out ?_
    | refine wpList_load_pgG 61 (.tmp 11) rfl rfl (by rfl) b11 rfl pp RB9.out ?_
    | refine wpList_load_pgG 62 (.tmp 14) rfl rfl (by rfl) b14 rfl pp RC9.out ?_
    | (go_at_call 6; refine (works_any _).mono ?_; rintro e w10 ⟨rfl, hb10⟩; have HB10 := Lib.hid hb10; clear hb10))
  go_ret
  exact ⟨rfl, B9.out.trans (HB10.out.mono B9.out.size)⟩
theorem puts_law (p : Pg) (lsn : Nat) (c : Nat) (A : Option Addr) (l : List Sect) (w : World) (hlsn : lsn < 18446744073709551616) (hp : Okb p.toList) (hA : Lz (fun _ => False) w 64 A l.length (flat l)) (hs : Oks l) :
    Calls Try.prog 3 #[.agg (pgA p), .int .u64 lsn, .slice A l.length c] w fun e w' => e = .returned (.bool true) ∧ Below w.heap.size w w' := by
  by_cases h : 20 < l.length
  · exact puts_out p lsn l.length c A w h
  · exact puts_in p lsn l.length c A l w (by omega) hlsn hp hA hs
end Go.Proofs.Ytlanaplnhjdgcaa
