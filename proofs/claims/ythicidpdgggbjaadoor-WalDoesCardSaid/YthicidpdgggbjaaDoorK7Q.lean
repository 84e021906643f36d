/-
  The walk of wal.twin.
  Conditions: entries of at most 1000 pages and numbers.
-/
import Derived.Test.YthicidpdgggbjaaDoorK6Q
namespace Go.Proofs.YthicidpdgggbjaaDoor
open Go.RowKit
set_option maxRecDepth 8000

def zE : Array Value := #[.int .u64 0, .int .i64 0, .int .u64 0, .int .u64 0, .int .u64 0, .int .u64 0, .int .u64 0, .int .u32 0, .int .u32 0, .string ⟨#[]⟩, .bool false, .slice none 0 0, .slice none 0 0]
def TwinR (w : World) (r : Er) (e : Ending) (w' : World) : Prop :=
  ∃ r' : Er, r'.e = r.e ∧ r'.np = r.np ∧ r'.na = r.na ∧ e = .returned (.agg (erA r')) ∧ ELz (fun k => k < w.heap.size) w' r' ∧ Below w.heap.size w w'
/-- Two boxes of entries, made one after the other. -/
structure TwS (w : World) (c1 : Array Value) (z : World) : Prop where
  b1 : At z w.heap.size 42 c1
  b2 : At z (w.heap.size + 1) 42 zE
  low : Below w.heap.size w z
section
variable {w z z' : World} {c1 c2 : Array Value}
theorem TwS.call (h : TwS w c1 z) (hb : Below z.heap.size z z') : TwS w c1 z' := ⟨h.b1.under hb h.b1.lt, h.b2.under hb h.b2.lt, h.low.trans (hb.mono h.low.size)⟩
theorem TwS.put (h : TwS w c1 z) (ha : At z' w.heap.size 42 c2) (hg : z.grownBy z' (some w.heap.size)) : TwS w c2 z' :=
  ⟨ha, h.b2.grown hg (by intro e; injection e with e; omega), h.low.grown hg h.low.size (fun k hk => by injection hk with hk; omega)⟩
theorem TwS.lt (h : TwS w c1 z) : w.heap.size + 1 < z.heap.size := h.b2.lt
end
theorem TwS.new (w : World) (c : Array Value) : TwS w c ((w.alloc (.cells c 42)).alloc (.cells zE 42)) := by
  refine ⟨(At.new w 42 c).alloc _, ?_, ((Below.refl _ w).alloc (Nat.le_refl _) _).alloc (by simp) _⟩
  have := At.new (w.alloc (.cells c 42)) 42 zE
  rwa [World.size_alloc] at this
/-- A block that is not one of the two boxes turned stays: what lay outside X and is older. -/
theorem ELz.twS {X : Nat → Prop} {w z : World} {r : Er} {c : Array Value} (h : ELz X w r) (hz : TwS w c z) : ELz X z r := h.below hz.low

set_option maxHeartbeats 1600000 in
theorem twin_any (X : Nat → Prop) (r : Er) (w : World) (h : ELz X w r) (hnp : r.np ≤ 1000) (hna : r.na ≤ 1000) : Calls Tryd.prog 34 #[.agg (erA r)] w (TwinR w r) := by
  have hzero := (zero_of_info (show (Tryd.prog.info? 42).map (fun i => (i.zero, i.size)) = some (some (.agg zE), 13) by kernel_rfl)).1
  have hinfo := Lib.hid (zero_of_info (show (Tryd.prog.info? 42).map (fun i => (i.zero, i.size)) = some (some (.agg zE), 13) by kernel_rfl)).2
  have S0 := Lib.hid (TwS.new w (erA r))
  obtain ⟨W1, hW1⟩ : ∃ W1, (w.alloc (.cells (erA r) 42)).alloc (.cells zE 42) = W1 := ⟨_, rfl⟩
  rw [hW1] at S0
  have c11 : W1.cell? ⟨w.heap.size, 11, none⟩ = some (.slice r.PA r.np r.pc) := S0.out.b1.cell 11
  have c12 : W1.cell? ⟨w.heap.size, 12, none⟩ = some (.slice r.QA r.na r.qc) := S0.out.b1.cell 12
  have H := Lib.hid h
  obtain ⟨e0, PA, np, pc, QA, na, qc⟩ := r
  simp only at *
  clear h
  go_enter Tryd.func34, Tryd.ntmps34
  go_wp2_with fail
  refine (cloneI_any X np pc PA e0.pages _ (H.out.twS S0.out).pages.la hnp).mono ?_
  rintro e w1 ⟨A1, k1, rfl, hl1, h11, h12, hb1⟩
  have S1 := Lib.hid (S0.out.call hb1)
  have L1 := Lib.hid (hl1.mono (Y := fun k => k < w.heap.size ∨ k = w.heap.size ∨ k = w.heap.size + 1) (fun k _ hk => by have := S0.out.lt; omega))
  have M1 := Lib.hid (S0.out.low.trans (hb1.mono S0.out.low.size))
  clear hl1 hb1
  go_wp2_with (first
    | (refine wpList_store_cell 39 (.tmp 6) (.tmp 5) rfl rfl rfl w.heap.size 11 rfl (.slice A1 np k1) rfl rfl (by kernel_rfl) _ 42 (by rw [erA_size]; omega) S1.out.b1 ?_
       intro w2 h2 g2
       have S2 := Lib.hid (S1.out.put (c2 := erA ⟨e0, A1, np, k1, QA, na, qc⟩) h2 g2)
       have L2 := Lib.hid (L1.out.kept (w' := w2) ((Mod.refl _ w1).grown g2 (fun k hk => .inl (.inr (.inl (by injection hk with hk; omega))))))
       have d12 : w2.cell? ⟨w.heap.size, 12, none⟩ = some (.slice QA na qc) := S2.out.b1.cell 12
       clear h2 g2 c12))
  refine (cloneU_any X na qc QA e0.act _ (H.out.twS S2.out).act hna).mono ?_
  rintro e w3 ⟨A3, k3, rfl, hl3, h31, h32, hb3⟩
  have S3 := Lib.hid (S2.out.call hb3)
  have L3 := Lib.hid (hl3.mono (Y := fun k => k < w.heap.size ∨ k = w.heap.size ∨ k = w.heap.size + 1) (fun k _ hk => by have := S2.out.lt; omega))
  have L32 := Lib.hid (L2.out.below hb3)
  clear hl3 hb3 d12
  go_wp2_with (first
    | (refine wpList_store_cell 40 (.tmp 10) (.tmp 9) rfl rfl rfl w.heap.size 12 rfl (.slice A3 na k3) rfl rfl (by kernel_rfl) _ 42 (by rw [erA_size]; omega) S3.out.b1 ?_
       intro w4 h4 g4
       have S4 := Lib.hid (S3.out.put (c2 := erA ⟨e0, A1, np, k1, A3, na, k3⟩) h4 g4)
       have L4 := Lib.hid (L3.out.kept (w' := w4) ((Mod.refl _ w3).grown g4 (fun k hk => .inl (.inr (.inl (by injection hk with hk; omega))))))
       have L42 := Lib.hid (L32.out.kept (w' := w4) ((Mod.refl _ w3).grown g4 (fun k hk => .inl (.inr (.inl (by injection hk with hk; omega))))))
       clear h4 g4)
    | (refine wpList_load_at 42 11 (.tmp 1) rfl rfl rfl w.heap.size rfl (erA ⟨e0, A1, np, k1, A3, na, k3⟩) 13 strE rfl S4.out.b1 ?_)
    | (refine wpList_store_at 42 (.tmp 2) (.tmp 11) rfl rfl rfl (w.heap.size + 1) rfl (erA ⟨e0, A1, np, k1, A3, na, k3⟩) zE 13 rfl strE rfl rfl (erA_one _) S4.out.b2 ?_
       intro w5 h5 g5
       have H5 := Lib.hid h5
       have B5 := Lib.hid (S4.out.low.grown g5 S4.out.low.size (fun k hk => by injection hk with hk; omega))
       have L5 := Lib.hid (L4.out.kept (w' := w5) ((Mod.refl _ w4).grown g5 (fun k hk => .inl (.inr (.inr (by injection hk with hk; omega))))))
       have L52 := Lib.hid (L42.out.kept (w' := w5) ((Mod.refl _ w4).grown g5 (fun k hk => .inl (.inr (.inr (by injection hk with hk; omega))))))
       clear h5 g5))
  refine bodyPost_ret (v := .agg (erA ⟨e0, A1, np, k1, A3, na, k3⟩)) (results_at1 rfl H5.out strE rfl Tryd.results34) rfl ?_
  exact ⟨⟨e0, A1, np, k1, A3, na, k3⟩, rfl, rfl, rfl, rfl, ⟨L52.out.mono (fun k _ hk => .inl hk), (L5.out.mono (fun k _ hk => .inl hk)).la⟩, B5.out⟩
end Go.Proofs.YthicidpdgggbjaaDoor
