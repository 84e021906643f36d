/-
  The walk of leaf.Read.
  Conditions: disks of at most 100000 sectors; the sectors' cells are bytes.
-/
import Derived.Test.YtlanaplnhjdgcaaS2
namespace Go.Proofs.Ytlanaplnhjdgcaa
open Go.RowKit

def ReadV (l : List Sect) : Value := .tuple #[.agg (pgA (getP l)), .int .u64 (getM l), .bool (whole l), .int .i64 0]
def NoneV (code : Int) : Value := .tuple #[.agg (pgA zpg), .int .u64 0, .bool false, .int .i64 code]
section
variable (X : Nat → Prop) (g gs : Nat) (S : List Sect) (nw fu : Int) (kp : List Bool) (dn : Bool) (w : World)
set_option maxRecDepth 8000 in
set_option maxHeartbeats 400000 in
theorem lread_no (base n : Int) (h : Plat X w g gs S nw fu kp dn) (hn : S.length ≤ 100000) (hb1 : -9223372036854775808 ≤ base) (hb2 : base ≤ 9223372036854775807) (hf : ¬ (0 ≤ base ∧ 0 ≤ n ∧ base + 4 * n + 4 ≤ S.length)) :
    Calls Try.prog 17 #[.pointer (some ⟨g, 0, none⟩), .int .i64 base, .int .i64 n] w fun e w' => e = .returned (NoneV 2) ∧ Below w.heap.size w w' := by
  have hzero := (zero_of_info pg_info).1
  have hinfo := Lib.hid (zero_of_info pg_info).2
  have B1 : Below w.heap.size w (w.alloc (.cells (pgA zpg) 22)) := (Below.refl _ _).alloc (Nat.le_refl _) _
  have EX := Lib.hid (exists_no X g gs S nw fu kp dn (w.alloc (.cells (pgA zpg) 22)) base n (h.below B1) hn hb1 hb2 hf)
  have HB1 := Lib.hid B1
  have R0 := Lib.hid (row_pg w zpg)
  clear h B1 hf
  go_enter Try.func17, Try.ntmps17
  go_wp2_with (first
    | (go_at_call 25; refine EX.out.mono ?_; rintro e w1 ⟨rfl, rfl⟩)
    | (refine wpList_store_pg (.tmp 6) (.tmp 20) rfl rfl rfl w.heap.size rfl zpg zpg rfl R0.out ?_; intro w9 h9 m9; have H9 := Lib.hid h9; have M9 := Lib.hid m9; clear h9 m9))
  refine bodyPost_ret (v := NoneV 2) (results_pg4 _ _ w.heap.size zpg _ _ _ rfl H9.out Try.results17 rfl rfl rfl) rfl ⟨rfl, ?_⟩
  exact M9.out.below HB1.out (fun q hq => by omega) HB1.out.size
set_option maxRecDepth 8000 in
set_option maxHeartbeats 400000 in
theorem lread_down (base n : Nat) (h : Plat X w g gs S nw fu kp true) (hn : S.length ≤ 100000) (hf : base + 4 * n + 4 ≤ S.length) :
    Calls Try.prog 17 #[.pointer (some ⟨g, 0, none⟩), .int .i64 base, .int .i64 n] w fun e w' => e = .returned (NoneV 4) ∧ Below w.heap.size w w' := by
  have hzero := (zero_of_info pg_info).1
  have hinfo := Lib.hid (zero_of_info pg_info).2
  have B1 : Below w.heap.size w (w.alloc (.cells (pgA zpg) 22)) := (Below.refl _ _).alloc (Nat.le_refl _) _
  have EX := Lib.hid (exists_yes X g gs S nw fu kp true (w.alloc (.cells (pgA zpg) 22)) base n (h.below B1) hn hf)
  have RD := Lib.hid (read_no g (w.alloc (.cells (pgA zpg) 22)) ((base + 4 * n : Nat) : Int) 4 4 (cut_down X g gs S nw fu kp (w.alloc (.cells (pgA zpg) 22)) _ 4 (h.below B1) hn ⟨by omega, by omega, by omega, by omega⟩))
  have HB1 := Lib.hid B1
  have R0 := Lib.hid (row_pg w zpg)
  clear h B1
  go_enter Try.func17, Try.ntmps17
  go_wp2_with (first
    | (go_at_call 25; refine EX.out.mono ?_; rintro e w1 ⟨rfl, rfl⟩)
    | (go_at_call 19; refine (where_any base n _ (by omega) (by omega)).mono ?_; rintro e w1 ⟨rfl, rfl⟩
       obtain ⟨at_, hat⟩ : ∃ at_, at_ = base + 4 * n := ⟨_, rfl⟩
       rw [← hat] at RD ⊢
       clear hat)
    | (go_at_call 28; refine RD.out.mono ?_; rintro e w1 ⟨rfl, rfl⟩)
    | (refine wpList_store_pg (.tmp 6) (.tmp 31) rfl rfl rfl w.heap.size rfl zpg zpg rfl R0.out ?_; intro w9 h9 m9; have H9 := Lib.hid h9; have M9 := Lib.hid m9; clear h9 m9))
  refine bodyPost_ret (v := NoneV 4) (results_pg4 _ _ w.heap.size zpg _ _ _ rfl H9.out Try.results17 rfl rfl rfl) rfl ⟨rfl, ?_⟩
  exact M9.out.below HB1.out (fun q hq => by omega) HB1.out.size
set_option maxRecDepth 8000 in
set_option maxHeartbeats 800000 in
theorem lread_ok (base n : Nat) (h : Plat X w g gs S nw fu kp false) (hn : S.length ≤ 100000) (hf : base + 4 * n + 4 ≤ S.length) (l : List Sect) (hl : (S.drop (base + 4 * n)).take 4 = l) (hs : Oks l) :
    Calls Try.prog 17 #[.pointer (some ⟨g, 0, none⟩), .int .i64 base, .int .i64 n] w fun e w' => e = .returned (ReadV l) ∧ Below w.heap.size w w' := by
  have hzero := (zero_of_info pg_info).1
  have hinfo := Lib.hid (zero_of_info pg_info).2
  have B1 : Below w.heap.size w (w.alloc (.cells (pgA zpg) 22)) := (Below.refl _ _).alloc (Nat.le_refl _) _
  have EX := Lib.hid (exists_yes X g gs S nw fu kp false (w.alloc (.cells (pgA zpg) 22)) base n (h.below B1) hn hf)
  have RD := read_ok X g gs S nw fu kp (w.alloc (.cells (pgA zpg) 22)) (base + 4 * n) 4 (h.below B1) hn (by omega) (by omega)
  rw [hl] at RD
  have hll : l.length = 4 := by rw [← hl, List.length_take, List.length_drop]; omega
  have HLL := Lib.hid hll
  have RD := Lib.hid RD
  have HS := Lib.hid hs
  have HB1 := Lib.hid B1
  have R0 := Lib.hid (row_pg w zpg)
  clear h B1 hs hl hll
  have HGV : Hid (GotV l = .tuple #[.agg (pgA (getP l)), .int .u64 (getM l), .bool (whole l)]) := rfl
  obtain ⟨pp, hpp⟩ : ∃ pp, pp = getP l := ⟨_, rfl⟩
  obtain ⟨mm, hmm⟩ : ∃ mm, mm = getM l := ⟨_, rfl⟩
  obtain ⟨bb, hbb⟩ : ∃ bb, bb = whole l := ⟨_, rfl⟩
  have HRV : Hid (ReadV l = .tuple #[.agg (pgA pp), .int .u64 mm, .bool bb, .int .i64 0]) := by
    show _ = _
    rw [ReadV, hpp, hmm, hbb]
  rw [← hpp, ← hmm, ← hbb] at HGV
  clear hpp hmm hbb
  rw [HRV.out]
  go_enter Try.func17, Try.ntmps17
  go_wp2_with (first
    | (go_at_call 25; refine EX.out.mono ?_; rintro e w1 ⟨rfl, rfl⟩)
    | (go_at_call 19; refine (where_any base n _ (by omega) (by omega)).mono ?_; rintro e w1 ⟨rfl, rfl⟩
       obtain ⟨at_, hat⟩ : ∃ at_, at_ = base + 4 * n := ⟨_, rfl⟩
       rw [← hat] at RD ⊢
       clear hat)
    | (go_at_call 28; refine RD.out.mono ?_; rintro e w2 ⟨A2, c2, rfl, ho, hb⟩; rw [HLL.out] at ho ⊢; have HO := Lib.hid ho; have HB := Lib.hid hb; clear ho hb)
    | (go_at_call 8; refine (get6_any (fun _ => False) 4 c2 A2 l _ (Lz.of_own HO.out (fun _ h => h.elim)) HS.out).mono ?_; rintro e w3 ⟨rfl, hb3⟩; rw [HGV.out]; have HB3 := Lib.hid hb3; clear hb3)
    | (refine wpList_store_pg (.tmp 12) (.tmp 36) rfl rfl rfl w3.heap.size rfl pp zpg rfl (row_pg w3 zpg) ?_; intro w4 h4 m4; have H4 := Lib.hid h4; have M4 := Lib.hid (mod_new (X := fun _ => False) m4); clear h4 m4)
    | refine wpList_load_pg 39 (.tmp 12) rfl rfl rfl w3.heap.size rfl pp H4.out ?_
    | (refine wpList_store_pg (.tmp 6) (.tmp 39) rfl rfl rfl w.heap.size rfl pp zpg rfl (((R0.out.below HB.out).below HB3.out).kept M4.out (fun h => h)) ?_; intro w9 h9 m9; have H9 := Lib.hid h9; have M9 := Lib.hid m9; clear h9 m9))
  refine bodyPost_ret (v := .tuple #[.agg (pgA pp), .int .u64 mm, .bool bb, .int .i64 0]) (results_pg4 _ _ w.heap.size pp _ _ _ rfl H9.out Try.results17 rfl rfl rfl) rfl ⟨rfl, ?_⟩
  have e1 := HB1.out.size
  have e2 := HB.out.size
  have h3 : Below w.heap.size w w3 := (HB1.out.trans (HB.out.mono e1)).trans (HB3.out.mono (by omega))
  have h4 : Below w.heap.size w w4 := M4.out.below h3 (fun _ h => h.elim) h3.size
  exact M9.out.below h4 (fun q hq => by omega) h4.size
end
end Go.Proofs.Ytlanaplnhjdgcaa
