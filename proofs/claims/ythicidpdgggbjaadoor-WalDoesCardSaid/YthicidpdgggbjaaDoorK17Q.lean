/-
  The reference: Append.
  Conditions: entries of at most 1000 pages and numbers, lists of at most 900.
-/
import Derived.Test.YthicidpdgggbjaaDoorK16Q
import Derived.Test.YthicidpdgggbjaaDoorQ3
namespace Go.Proofs.YthicidpdgggbjaaDoor
open Go.RowKit
set_option maxRecDepth 8000

theorem strRL : Str 34 4 := ⟨_, Tryd.underlying34, rfl, by kernel_rfl⟩
theorem At.neq {z : World} {a b : Nat} {t t' : TypeId} {c1 c2 : Array Value} (h1 : At z a t c1) (h2 : At z b t' c2) (ht : t ≠ t') : some a ≠ some b := fun e => by
  injection e with e
  subst e
  rw [At] at h1 h2
  rw [h1] at h2
  injection h2 with h2
  injection h2 with _ h2
  exact ht h2
/-- Three results, the first out of a cell. -/
theorem results_at3 {fn : Func} {p t s : Tmp} {ty : TypeId} {tmps : Array Value} {w : World} {g n : Nat} {cs : Array Value} {v u : Value} (hp : tmps.getD p undef = .pointer (some ⟨g, 0, none⟩)) (hc : At w g ty cs) (hs : Str ty n) (hn : cs.size = n)
    (h : fn.results = #[.cell p ty, .tmp t, .tmp s]) (hv : tmps.getD t undef = v) (hu : tmps.getD s undef = u) : (results fn tmps).run Tryd.prog w = .ok (.tuple #[.agg cs, v, u]) w := by
  obtain ⟨ds, h1, h2, h3⟩ := hs
  have hp' : tmps[p]?.getD undef = .pointer (some ⟨g, 0, none⟩) := by simpa using hp
  have hv' : tmps[t]?.getD undef = v := by simpa using hv
  have hu' : tmps[s]?.getD undef = u := by simpa using hu
  have hl := run_loadVar_row w g ty ty cs (0, 0) ds hc h1 (by cases ds <;> first | rfl | cases h2) (by rw [hn]; exact h3)
  simp [results, h, hp', hv', hu', asAddr, hl]

/-- A log of the reference. -/
def rlA (size : Nat) (A : Option Addr) (n c us dn : Nat) : Array Value := #[.int .i64 (size : Int), .slice A n c, .int .i64 (us : Int), .int .i64 (dn : Int)]
theorem rlA_one (size : Nat) (A : Option Addr) (n c us dn : Nat) : (rlA size A n c us dn).all (·.oneCell') = true := by simp [rlA, Value.oneCell']
structure RaS (w : World) (g2 g3 : Nat) (bx cs : Array Value) (z : World) : Prop where
  b0 : At z w.heap.size 34 bx
  b2 : At z g2 34 #[.int .i64 0, .slice none 0 0, .int .i64 0, .int .i64 0]
  b3 : At z g3 42 cs
  low : Below w.heap.size w z
theorem RaS.call {w z z' : World} {g2 g3 : Nat} {bx cs : Array Value} (h : RaS w g2 g3 bx cs z) (hb : Below z.heap.size z z') : RaS w g2 g3 bx cs z' :=
  ⟨h.b0.under hb h.b0.lt, h.b2.under hb h.b2.lt, h.b3.under hb h.b3.lt, h.low.trans (hb.mono h.low.size)⟩
theorem RaS.first {w z0 z : World} {g2 : Nat} {bx cs cs' : Array Value} (a0 : At z0 w.heap.size 34 bx) (a2 : At z0 g2 34 #[.int .i64 0, .slice none 0 0, .int .i64 0, .int .i64 0]) (hl : Below w.heap.size w z0)
    (h3 : At z z0.heap.size 42 cs') (hg : (z0.alloc (.cells cs 42)).grownBy z (some z0.heap.size)) : RaS w g2 z0.heap.size bx cs' z :=
  ⟨(a0.alloc _).grown hg ((a0.alloc _).neq (At.new z0 42 cs) (by decide)), (a2.alloc _).grown hg ((a2.alloc _).neq (At.new z0 42 cs) (by decide)), h3, (hl.alloc hl.size _).grown hg (hl.alloc hl.size _).size (fun k hk => by injection hk with hk; have := hl.size; omega)⟩

/-- What the reference's Append answers where nothing is appended. -/
def RAppN (bx : Array Value) (w : World) (z : Int) (e : Ending) (w' : World) : Prop := e = .returned (.tuple #[.agg bx, .int .u64 0, .int .i64 z]) ∧ Below w.heap.size w w'
set_option maxHeartbeats 1600000 in
theorem rappend_bad (X : Nat → Prop) (A : Option Addr) (n c size us dn : Nat) (r : Er) (w : World) (z : Int) (hr : ELz X w r) (hus : us ≤ 100000) (hnp : r.np ≤ 1000) (hna : r.na ≤ 1000) (hv : r.e.rc.val.length ≤ 1000) (hz : chk (withN r.e (us + 1)) = z) (hne : (z != 0) = true) :
    Calls Tryd.prog 11 #[.agg (rlA size A n c us dn), .agg (erA r)] w (RAppN (rlA size A n c us dn) w z) := by
  have HR := Lib.hid hr
  have A0 := Lib.hid (((At.new w 34 (rlA size A n c us dn)).alloc (.cells (erA r) 42)).alloc (.cells #[.int .i64 0, .slice none 0 0, .int .i64 0, .int .i64 0] 34))
  have A1 := Lib.hid ((At.new (w.alloc (.cells (rlA size A n c us dn) 34)) 42 (erA r)).alloc (.cells #[.int .i64 0, .slice none 0 0, .int .i64 0, .int .i64 0] 34))
  have A2 := Lib.hid (At.new ((w.alloc (.cells (rlA size A n c us dn) 34)).alloc (.cells (erA r) 42)) 34 #[.int .i64 0, .slice none 0 0, .int .i64 0, .int .i64 0])
  have L0 := Lib.hid ((((Below.refl w.heap.size w).alloc (Nat.le_refl _) (.cells (rlA size A n c us dn) 34)).alloc (by simp) (.cells (erA r) 42)).alloc (by simp; omega) (.cells #[.int .i64 0, .slice none 0 0, .int .i64 0, .int .i64 0] 34))
  have LT2 := Lib.hid (show w.heap.size < w.heap.size + 1 + 1 by omega)
  rw [show (w.alloc (.cells (rlA size A n c us dn) 34)).heap.size = w.heap.size + 1 by simp] at A1
  rw [show ((w.alloc (.cells (rlA size A n c us dn) 34)).alloc (.cells (erA r) 42)).heap.size = w.heap.size + 1 + 1 by simp] at A2
  have u1 : IntKind.u64.wrap (us : Int) = (us : Int) := by rw [IntKind.wrap_u64]; omega
  obtain ⟨nx, hnx⟩ : ∃ nx, nx = us + 1 := ⟨_, rfl⟩
  have u2 : (us : Int) + 1 = (nx : Int) := by omega
  have u3 : IntKind.u64.wrap (nx : Int) = (nx : Int) := by rw [IntKind.wrap_u64]; omega
  have HX := Lib.hid hnx
  rw [← hnx] at hz
  have HZ := Lib.hid hz
  clear hr hnx hz
  go_enter Tryd.func11, Tryd.ntmps11
  go_upto_region 1 with fail
  generalize (((w.alloc (.cells (rlA size A n c us dn) 34)).alloc (.cells (erA r) 42)).alloc (.cells #[.int .i64 0, .slice none 0 0, .int .i64 0, .int .i64 0] 34)) = z0 at *
  generalize w.heap.size + 1 + 1 = g2 at *
  generalize w.heap.size + 1 = g1 at *
  have c2 : (z0.alloc (.cells (erA r) 42)).cell? ⟨w.heap.size, 2, none⟩ = some (.int .i64 (us : Int)) := (A0.out.alloc _).cell 2
  go_wp2_with (first
    | refine wpList_load_at 42 12 (.tmp 3) rfl rfl rfl g1 rfl (erA r) 13 strE rfl A1.out ?_
    | (refine wpList_store_new 42 (.tmp 7) (.tmp 12) rfl rfl rfl z0.heap.size z0 rfl rfl (erA r) zE 13 rfl strE rfl rfl (erA_one _) rfl ?_)
    | (refine wpList_store_cell 35 (.tmp 17) (.tmp 16) rfl rfl rfl z0.heap.size 0 rfl (.int .u64 (nx : Int)) rfl rfl (by kernel_rfl) (erA r) 42 (by rw [erA_size]; omega) (At.new z0 42 (erA r)) ?_
       intro w2 h2 gr2
       rw [erN_set] at h2
       have S2 := Lib.hid (RaS.first A0.out A2.out L0.out h2 gr2)
       have E2 := Lib.hid ((HR.out.below S2.out.low).withN nx)
       clear h2 gr2)
    | refine wpList_load_at 42 19 (.tmp 7) rfl rfl rfl z0.heap.size rfl (erA (erN r nx)) 13 strE rfl S2.out.b3 ?_
    | (go_at_call 22; refine (refPut_bad (erN r nx).e r.PA r.QA r.np r.pc r.na r.qc _ z E2.out.el hnp hna hv HZ.out hne).mono ?_
       rintro e w3 ⟨rfl, hb3⟩
       have S3 := Lib.hid (S2.out.call hb3)
       clear hb3)
    | refine wpList_load_at 34 25 (.tmp 2) rfl rfl rfl w.heap.size rfl (rlA size A n c us dn) 4 strRL rfl S3.out.b0 ?_
    | (refine wpList_store_at 34 (.tmp 4) (.tmp 25) rfl rfl rfl g2 rfl (rlA size A n c us dn) _ 4 rfl strRL rfl rfl (rlA_one _ _ _ _ _ _) S3.out.b2 ?_
       intro w4 h4 gr4
       have H4 := Lib.hid h4
       have B4 := Lib.hid (S3.out.low.grown gr4 S3.out.low.size (fun k hk => by injection hk with hk; have := LT2.out; omega))
       clear h4 gr4))
  refine bodyPost_ret (v := .tuple #[.agg (rlA size A n c us dn), .int .u64 0, .int .i64 z]) (results_at3 rfl H4.out strRL rfl Tryd.results11 rfl rfl) rfl ?_
  exact ⟨rfl, B4.out⟩

/-- What the reference's Append answers where an entry is appended. -/
def RAppY (size us dn n : Nat) (rs : List Er) (r : Er) (w : World) (e : Ending) (w' : World) : Prop :=
  ∃ v, e = .returned (.tuple #[.agg #[.int .i64 (size : Int), v, .int .i64 ((us + wid (withN r.e (us + 1)) : Nat) : Int), .int .i64 (dn : Int)], .int .u64 ((us + 1 : Nat) : Int), .int .i64 0]) ∧
    w'.ownsRow w.heap.size 42 13 v (n + 1) (flatE (rs ++ [erN r (us + 1)])) ∧ Below w.heap.size w w'
/-- Where Append stands while it makes the new log. -/
structure RaO (w : World) (B g2 g3 size un dn : Nat) (cs3 : Array Value) (v : Value) (k : Nat) (xs : List Value) (z : World) : Prop where
  b2 : At z g2 34 #[.int .i64 0, .slice none 0 0, .int .i64 0, .int .i64 0]
  b3 : At z g3 42 cs3
  o4 : At z B 34 #[.int .i64 (size : Int), v, .int .i64 (un : Int), .int .i64 (dn : Int)]
  own : z.ownsRow B 42 13 v k xs
  low : Below w.heap.size w z
  l2 : g2 < B
  l3 : g3 < B
  l0 : w.heap.size ≤ B
theorem RaO.call {w z z' : World} {B g2 g3 size un dn k : Nat} {cs3 : Array Value} {v : Value} {xs : List Value} (h : RaO w B g2 g3 size un dn cs3 v k xs z) (hb : Below z.heap.size z z') : RaO w B g2 g3 size un dn cs3 v k xs z' :=
  ⟨h.b2.under hb h.b2.lt, h.b3.under hb h.b3.lt, h.o4.under hb h.o4.lt, own_under h.own hb (Nat.le_refl _), h.low.trans (hb.mono h.low.size), h.l2, h.l3, h.l0⟩
theorem RaO.push {w z z1 z2 : World} {B g2 g3 size un dn k k' : Nat} {cs3 : Array Value} {v v' : Value} {xs xs' : List Value} (h : RaO w B g2 g3 size un dn cs3 v k xs z) (ho : z1.ownsRow B 42 13 v' k' xs') (hg : z.grownBy z1 v.ownBlock)
    (h4 : At z2 B 34 #[.int .i64 (size : Int), v', .int .i64 (un : Int), .int .i64 (dn : Int)]) (hg2 : z1.grownBy z2 (some B)) : RaO w B g2 g3 size un dn cs3 v' k' xs' z2 := by
  have o1 := h.o4.grown hg (own_ne h.own h.o4 (by decide))
  refine ⟨(h.b2.grown hg (own_ne h.own h.b2 (by decide))).grown hg2 (fun e => by injection e with e; have := h.l2; omega), (h.b3.grown hg (fun e => by have := (own_cells h.own e.symm).1; have := h.l3; omega)).grown hg2 (fun e => by injection e with e; have := h.l3; omega), h4,
    own_keep ho fun k hk => ?_, (h.low.grown hg h.low.size fun k hk => by have := (own_cells h.own hk).1; have := h.l0; omega).grown hg2 (h.low.grown hg h.low.size fun k hk => by have := (own_cells h.own hk).1; have := h.l0; omega).size (fun k hk => by injection hk with hk; have := h.l0; omega), h.l2, h.l3, h.l0⟩
  obtain ⟨_, cur, hc⟩ := own_cells ho hk
  exact hg2.block k (Array.getElem?_eq_some_iff.1 hc).1 fun e => own_ne ho o1 (by decide) (by rw [← e]; exact hk.symm)
set_option maxHeartbeats 1600000 in
theorem rappend_full (X : Nat → Prop) (A : Option Addr) (n c size us dn : Nat) (r : Er) (w : World) (hr : ELz X w r) (hus : us ≤ size) (hsz : size ≤ 100000) (hz : Gd (withN r.e (us + 1))) (hfit : size - us < wid (withN r.e (us + 1))) :
    Calls Tryd.prog 11 #[.agg (rlA size A n c us dn), .agg (erA r)] w (RAppN (rlA size A n c us dn) w 6) := by
  have HR := Lib.hid hr
  have A0 := Lib.hid (((At.new w 34 (rlA size A n c us dn)).alloc (.cells (erA r) 42)).alloc (.cells #[.int .i64 0, .slice none 0 0, .int .i64 0, .int .i64 0] 34))
  have A1 := Lib.hid ((At.new (w.alloc (.cells (rlA size A n c us dn) 34)) 42 (erA r)).alloc (.cells #[.int .i64 0, .slice none 0 0, .int .i64 0, .int .i64 0] 34))
  have A2 := Lib.hid (At.new ((w.alloc (.cells (rlA size A n c us dn) 34)).alloc (.cells (erA r) 42)) 34 #[.int .i64 0, .slice none 0 0, .int .i64 0, .int .i64 0])
  have L0 := Lib.hid ((((Below.refl w.heap.size w).alloc (Nat.le_refl _) (.cells (rlA size A n c us dn) 34)).alloc (by simp) (.cells (erA r) 42)).alloc (by simp; omega) (.cells #[.int .i64 0, .slice none 0 0, .int .i64 0, .int .i64 0] 34))
  have LT2 := Lib.hid (show w.heap.size < w.heap.size + 1 + 1 by omega)
  rw [show (w.alloc (.cells (rlA size A n c us dn) 34)).heap.size = w.heap.size + 1 by simp] at A1
  rw [show ((w.alloc (.cells (rlA size A n c us dn) 34)).alloc (.cells (erA r) 42)).heap.size = w.heap.size + 1 + 1 by simp] at A2
  have u1 : IntKind.u64.wrap (us : Int) = (us : Int) := by rw [IntKind.wrap_u64]; omega
  obtain ⟨nx, hnx⟩ : ∃ nx, nx = us + 1 := ⟨_, rfl⟩
  have u2 : (us : Int) + 1 = (nx : Int) := by omega
  have u3 : IntKind.u64.wrap (nx : Int) = (nx : Int) := by rw [IntKind.wrap_u64]; omega
  have HX := Lib.hid hnx
  rw [← hnx] at hz hfit
  obtain ⟨wd, hwd⟩ : ∃ wd, wd = wid (withN r.e nx) := ⟨_, rfl⟩
  obtain ⟨le, hle⟩ : ∃ le, le = size - us := ⟨_, rfl⟩
  have hwd2 : 1 ≤ wd ∧ wd ≤ 112 := by rw [hwd]; exact wid_ok hz
  rw [← hwd] at hfit
  have HWD := Lib.hid hwd
  have e5 : (size : Int) - (us : Int) = (le : Int) := by omega
  have hfit2 : decide ((le : Int) < (wd : Int)) = true := by simp; omega
  have hfit3 : decide (le < wd) = true := by simp; omega
  have HCL := Lib.hid (show (cutS (enc (withN r.e nx)) 0).length = wd by rw [cutS_length, hwd]; rfl)
  have HZ := Lib.hid hz
  have HL := Lib.hid (enc_len hz)
  have hlz : le ≤ size := by omega
  clear hr hnx hz hwd hle hfit
  go_enter Tryd.func11, Tryd.ntmps11
  go_upto_region 1 with fail
  generalize (((w.alloc (.cells (rlA size A n c us dn) 34)).alloc (.cells (erA r) 42)).alloc (.cells #[.int .i64 0, .slice none 0 0, .int .i64 0, .int .i64 0] 34)) = z0 at *
  generalize w.heap.size + 1 + 1 = g2 at *
  generalize w.heap.size + 1 = g1 at *
  have c2 : (z0.alloc (.cells (erA r) 42)).cell? ⟨w.heap.size, 2, none⟩ = some (.int .i64 (us : Int)) := (A0.out.alloc _).cell 2
  go_wp2_with (first
    | refine wpList_load_at 42 12 (.tmp 3) rfl rfl rfl g1 rfl (erA r) 13 strE rfl A1.out ?_
    | (refine wpList_store_new 42 (.tmp 7) (.tmp 12) rfl rfl rfl z0.heap.size z0 rfl rfl (erA r) zE 13 rfl strE rfl rfl (erA_one _) rfl ?_)
    | (refine wpList_store_cell 35 (.tmp 17) (.tmp 16) rfl rfl rfl z0.heap.size 0 rfl (.int .u64 (nx : Int)) rfl rfl (by kernel_rfl) (erA r) 42 (by rw [erA_size]; omega) (At.new z0 42 (erA r)) ?_
       intro w2 h2 gr2
       rw [erN_set] at h2
       have S2 := Lib.hid (RaS.first A0.out A2.out L0.out h2 gr2)
       have E2 := Lib.hid ((HR.out.below S2.out.low).withN nx)
       clear h2 gr2)
    | refine wpList_load_at 42 19 (.tmp 7) rfl rfl rfl z0.heap.size rfl (erA (erN r nx)) 13 strE rfl S2.out.b3 ?_
    | (go_at_call 22; refine (refPut_good (erN r nx).e r.PA r.QA r.np r.pc r.na r.qc _ E2.out.el HZ.out.ok HZ.out.chk).mono ?_
       rintro e w3 ⟨A3, n3, c3, rfl, ho3, hb3⟩
       have S3 := Lib.hid (S2.out.call hb3)
       have L3 := Lib.hid (Lies.of_own ho3)
       have hn3 : (enc (withN r.e nx)).length = n3 := own_n ho3
       have e3 : n3 ≤ 6016 := by rw [← hn3]; exact HL.out.2
       have hc3 : n3 ≤ c3 := by
         obtain ⟨_, _, h, h2, _⟩ := own_slice ho3
         injection h with _ _ h
         omega
       clear hb3 ho3 hn3)
    | (go_at_call 19; refine (rcut_any n3 c3 0 A3 (enc (withN r.e nx)) w3 L3.out (by omega) hc3 (by omega)).mono ?_
       rintro e z5 ⟨A5, c5, rfl, ho5, hb5⟩
       rw [HCL.out]
       have S5 := Lib.hid (S3.out.call hb5)
       have d0 : z5.cell? ⟨w.heap.size, 0, none⟩ = some (.int .i64 (size : Int)) := S5.out.b0.cell 0
       have d1 : z5.cell? ⟨w.heap.size, 1, none⟩ = some (.slice A n c) := S5.out.b0.cell 1
       have d2 : z5.cell? ⟨w.heap.size, 2, none⟩ = some (.int .i64 (us : Int)) := S5.out.b0.cell 2
       have d3 : z5.cell? ⟨w.heap.size, 3, none⟩ = some (.int .i64 (dn : Int)) := S5.out.b0.cell 3
       clear hb5 ho5)
    | refine wpList_load_at 34 37 (.tmp 2) rfl rfl rfl w.heap.size rfl (rlA size A n c us dn) 4 strRL rfl S5.out.b0 ?_
    | (refine wpList_store_at 34 (.tmp 4) (.tmp 37) rfl rfl rfl g2 rfl (rlA size A n c us dn) _ 4 rfl strRL rfl rfl (rlA_one _ _ _ _ _ _) S5.out.b2 ?_
       intro w6 h6 gr6
       have H6 := Lib.hid h6
       have B6 := Lib.hid (S5.out.low.grown gr6 S5.out.low.size (fun k hk => by injection hk with hk; have := LT2.out; omega))
       clear h6 gr6))
  refine bodyPost_ret (v := .tuple #[.agg (rlA size A n c us dn), .int .u64 0, .int .i64 6]) (results_at3 rfl H6.out strRL rfl Tryd.results11 rfl rfl) rfl ?_
  exact ⟨rfl, B6.out⟩

end Go.Proofs.YthicidpdgggbjaaDoor
