/-
  A record, an entry and a row of bytes that came in read as such.
  Conditions: none beyond those that each theorem names.
-/
import Derived.Test.YthicidpdgggbjaaDoorK25Q
import Derived.Deep.Slices
import Derived.Lib.SmallJoins
import Derived.OpenShut
import Derived.WideShapes
import Derived.ProofKit
namespace Go.Proofs.YthicidpdgggbjaaDoor
open Go.RowKit Go.Deep Go.Joins Go.ChangeShapes Go.WideShapes
set_option maxRecDepth 20000

theorem ce3 : Tryd.prog.cellsOf 3 = 1 := by kernel_rfl
theorem ce4 : Tryd.prog.cellsOf 4 = 1 := by kernel_rfl
theorem ce5 : Tryd.prog.cellsOf 5 = 1 := by kernel_rfl
theorem ce9 : Tryd.prog.cellsOf 9 = 1 := by kernel_rfl
theorem ce22 : Tryd.prog.cellsOf 35 = 1 := by kernel_rfl
theorem ce23 : Tryd.prog.cellsOf 36 = 1 := by kernel_rfl
theorem ce25 : Tryd.prog.cellsOf 38 = 6 := by kernel_rfl
theorem ce26 : Tryd.prog.cellsOf 39 = 1 := by kernel_rfl
theorem ce27 : Tryd.prog.cellsOf 40 = 1 := by kernel_rfl
theorem ce29 : Tryd.prog.cellsOf 42 = 13 := by kernel_rfl
theorem ce49 : Tryd.prog.cellsOf 96 = 224 := by kernel_rfl
theorem ce51 : Tryd.prog.cellsOf 98 = 225 := by kernel_rfl

theorem wf_int {k : IntKind} {n : Int} (h : (Lit.int k n).wf = true) : k.min ≤ n ∧ n ≤ k.max := by
  unfold Lit.wf at h
  simpa using h
theorem wfIn64 {n : Int} (h : (Lit.int .u64 n).wf = true) : ∃ k : Nat, n = k ∧ k < 18446744073709551616 := by
  have h2 := wf_int h
  rw [show IntKind.u64.min = 0 by decide, show IntKind.u64.max = 18446744073709551615 by decide] at h2
  exact ⟨n.toNat, by omega, by omega⟩
theorem wfIn32 {n : Int} (h : (Lit.int .u32 n).wf = true) : ∃ k : Nat, n = k ∧ k < 4294967296 := by
  have h2 := wf_int h
  rw [show IntKind.u32.min = 0 by decide, show IntKind.u32.max = 4294967295 by decide] at h2
  exact ⟨n.toNat, by omega, by omega⟩
theorem wfIn8 {n : Int} (h : (Lit.int .u8 n).wf = true) : ∃ b : UInt8, n = (b.toNat : Nat) := by
  have h2 := wf_int h
  rw [show IntKind.u8.min = 0 by decide, show IntKind.u8.max = 255 by decide] at h2
  refine ⟨UInt8.ofNat n.toNat, ?_⟩
  rw [UInt8.toNat_ofNat_of_lt' (by simp [UInt8.size]; omega)]
  omega
theorem list6 {α : Type} {l : List α} (h : l.length = 6) : ∃ a b c d e f, l = [a, b, c, d, e, f] := by
  match l, h with
  | [a, b, c, d, e, f], _ => exact ⟨a, b, c, d, e, f, rfl⟩
theorem list8 {α : Type} {l : List α} (h : l.length = 8) : ∃ a b c d e f g k, l = [a, b, c, d, e, f, g, k] := by
  match l, h with
  | [a, b, c, d, e, f, g, k], _ => exact ⟨a, b, c, d, e, f, g, k, rfl⟩
theorem list13 {α : Type} {l : List α} (h : l.length = 13) : ∃ a b c d e f g k m n o p q, l = [a, b, c, d, e, f, g, k, m, n, o, p, q] := by
  match l, h with
  | [a, b, c, d, e, f, g, k, m, n, o, p, q], _ => exact ⟨a, b, c, d, e, f, g, k, m, n, o, p, q, rfl⟩
theorem plainAt {W : World} {a : Addr} {v : Value} (h : W.cell? (a.add 0) = some v) : ∃ b off, a = ⟨b, off, none⟩ := by
  obtain ⟨b, off, spot⟩ := a
  have hs : spot = none := by simpa [Addr.add] using World.cell?_spot h
  subst hs
  exact ⟨b, off, rfl⟩
theorem flatI_get : ∀ (l : List Im) (j : Nat) (v : Value), (flatI l)[j]? = some v → ∃ (hk : j / 225 < l.length), (imL l[j / 225])[j % 225]? = some v
  | [], j, v, h => by simp [flatI] at h
  | s :: r, j, v, h => by
    rw [flatI] at h
    by_cases hj : j < 225
    · rw [List.getElem?_append_left (by rw [imL_length]; exact hj)] at h
      refine ⟨by rw [Nat.div_eq_of_lt hj]; simp, ?_⟩
      simp only [Nat.div_eq_of_lt hj, Nat.mod_eq_of_lt hj, List.getElem_cons_zero]
      exact h
    · rw [List.getElem?_append_right (by rw [imL_length]; omega), imL_length] at h
      obtain ⟨hk, h2⟩ := flatI_get r (j - 225) v h
      have e1 : j / 225 = (j - 225) / 225 + 1 := by omega
      have e2 : j % 225 = (j - 225) % 225 := by omega
      refine ⟨by rw [e1]; simpa using hk, ?_⟩
      simp only [e1, e2, List.getElem_cons_succ]
      exact h2

instance : Inhabited Im := ⟨⟨0, Vector.replicate 224 0⟩⟩

section
variable {H : Type} {enc : TypeId × Value → H} {W : World} {spare : Nat → Bool} {held : Bool} {fuel : Nat} {cs : List Value} {x : DataW H × List MemPlace}
theorem in64 (h : DataW.trod enc Tryd.prog W 0 spare held fuel 35 cs = some x) : ∃ n : Nat, cs = [.int .u64 (n : Int)] ∧ n < 18446744073709551616 := by
  obtain ⟨z, e, _, wf⟩ := DataW.trod_int Tryd.underlying35 h
  obtain ⟨k, rfl, hk⟩ := wfIn64 wf
  exact ⟨k, e, hk⟩
theorem in32 (h : DataW.trod enc Tryd.prog W 0 spare held fuel 36 cs = some x) : ∃ n : Nat, cs = [.int .u32 (n : Int)] ∧ n < 4294967296 := by
  obtain ⟨z, e, _, wf⟩ := DataW.trod_int Tryd.underlying36 h
  obtain ⟨k, rfl, hk⟩ := wfIn32 wf
  exact ⟨k, e, hk⟩
theorem in8 (h : DataW.trod enc Tryd.prog W 0 spare held fuel 5 cs = some x) : ∃ b : UInt8, cs = [.int .u8 (b.toNat : Nat)] := by
  obtain ⟨z, e, _, wf⟩ := DataW.trod_int Tryd.underlying5 h
  obtain ⟨k, rfl⟩ := wfIn8 wf
  exact ⟨k, e⟩
theorem inI (h : DataW.trod enc Tryd.prog W 0 spare held fuel 3 cs = some x) : ∃ z : Int, cs = [.int .i64 z] := by
  obtain ⟨z, e, _, _⟩ := DataW.trod_int Tryd.underlying3 h
  exact ⟨z, e⟩
theorem inS (h : DataW.trod enc Tryd.prog W 0 spare held fuel 9 cs = some x) : ∃ l : List UInt8, cs = [.string (strOf l)] ∧ l.length ≤ maxLen := by
  obtain ⟨s, e, _, hs⟩ := DataW.trod_string Tryd.underlying9 h
  refine ⟨s.data.toList, by rw [e]; rfl, ?_⟩
  have : s.data.toList.length = s.size := Array.length_toList
  omega
theorem rc_of (h : DataW.trod enc Tryd.prog W 0 spare held fuel 38 cs = some x) : ∃ r : Rc, r.ok ∧ r.val.length ≤ maxLen ∧ cs = [.int .u64 (r.id : Nat), .int .u64 (r.key : Nat), .int .u32 (r.x : Nat), .int .u32 (r.y : Nat), .string (strOf r.val), .bool r.ghost] := by
  obtain ⟨xs, n, _, _, hl, hxl, hf⟩ := DataW.trod_struct Tryd.underlying38 h
  rw [ce25] at hl
  obtain ⟨v0, v1, v2, v3, v4, v5, rfl⟩ := list6 hl
  obtain ⟨y0, y1, y2, y3, y4, y5, rfl⟩ := list6 hxl
  have g0 := hf 0 _ rfl
  have g1 := hf 1 _ rfl
  have g2 := hf 2 _ rfl
  have g3 := hf 3 _ rfl
  have g4 := hf 4 _ rfl
  have g5 := hf 5 _ rfl
  simp [ce22, ce23, ce9, ce4] at g0 g1 g2 g3 g4 g5
  obtain ⟨id, e0, b0⟩ := in64 g0
  obtain ⟨key, e1, b1⟩ := in64 g1
  obtain ⟨a, e2, b2⟩ := in32 g2
  obtain ⟨b, e3, b3⟩ := in32 g3
  obtain ⟨l, e4, b4⟩ := inS g4
  obtain ⟨gh, e5, _⟩ := DataW.trod_bool Tryd.underlying4 g5
  injection e0 with e0
  injection e1 with e1
  injection e2 with e2
  injection e3 with e3
  injection e4 with e4
  injection e5 with e5
  subst e0 e1 e2 e3 e4 e5
  exact ⟨⟨id, key, a, b, l, gh⟩, ⟨b0, b1, b2, b3⟩, b4, rfl⟩
theorem arr_of (h : DataW.trod enc Tryd.prog W 0 spare held fuel 96 cs = some x) : ∃ p : Pg, cs = BC p.toList := by
  obtain ⟨xs, m, _, _, hlen, hxl, hi⟩ := DataW.trod_array Tryd.underlying96 h
  rw [ce49] at hlen
  rw [ce5] at hi
  have each : ∀ i, i < 224 → ∃ b : UInt8, cs[i]? = some (.int .u8 (b.toNat : Nat)) := fun i hlt => by
    have hx : i < xs.length := by omega
    have h1 := hi i hlt
    rw [List.getElem?_eq_getElem hx, Nat.mul_one] at h1
    obtain ⟨b, e⟩ := in8 h1
    have hcs : i < cs.length := by omega
    rw [List.drop_eq_getElem_cons hcs, List.take_succ_cons, List.take_zero] at e
    injection e with e _
    exact ⟨b, by rw [List.getElem?_eq_getElem hcs, e]⟩
  obtain ⟨Z, hZ⟩ := choose_lt each
  refine ⟨Vector.ofFn fun j : Fin 224 => Z j.val, ?_⟩
  apply List.ext_getElem?
  intro i
  by_cases hlt : i < 224
  · rw [hZ i hlt, BC_get _ i (by rw [Vector.length_toList]; exact hlt), Vector.getElem_toList, Vector.getElem_ofFn]
  · rw [List.getElem?_eq_none (by omega), List.getElem?_eq_none (by rw [BC_length, Vector.length_toList]; omega)]
theorem im_of (h : DataW.trod enc Tryd.prog W 0 spare held fuel 98 cs = some x) : ∃ i : Im, cs = imL i := by
  obtain ⟨y0, y1, n, _, hl, g0, g1⟩ := trod_struct2 Tryd.underlying98 h
  rw [ce51] at hl
  simp [ce3, ce49] at g0 g1
  obtain ⟨z, e0⟩ := inI g0
  obtain ⟨p, e1⟩ := arr_of g1
  refine ⟨⟨z, p⟩, ?_⟩
  match cs, hl with
  | v :: r, hl =>
    simp at hl e0 e1
    rw [List.take_of_length_le (by omega)] at e1
    rw [e0, e1]
    rfl
/-- A row of one-cell values. -/
theorem row_of {t e : TypeId} {α : Type} [Inhabited α] {f : α → Value} {q : α → Prop} (ht : Tryd.prog.underlying t = some (.slice e)) (hc : Tryd.prog.cellsOf e = 1)
    (hp : ∀ (fuel : Nat) (v : Value) (y : DataW H × List MemPlace), DataW.trod enc Tryd.prog W 0 spare held fuel e [v] = some y → ∃ a, v = f a ∧ q a)
    {v : Value} (h : DataW.trod enc Tryd.prog W 0 spare held fuel t [v] = some x) :
    ∃ A cap, ∃ l : List α, v = .slice A l.length cap ∧ Lies W W.heap.size 1 A l.length (l.map f) ∧ (∀ a ∈ l, q a) ∧ l.length ≤ cap ∧ cap ≤ maxLen := by
  rcases open_slice1 ht hc h with ⟨hcs, _⟩ | ⟨a, len, cap, m, k, V, D, Pl, hcs, _, hl, hm, hmm, _, hi⟩
  · injection hcs with hcs
    subst hcs
    exact ⟨none, 0, [], rfl, Lies.empty, fun a h => by simp at h, Nat.le_refl _, by simp [maxLen]⟩
  · injection hcs with hcs
    subst hcs
    have hlm : len ≤ m := by rw [hmm]; split <;> omega
    have hz : ∀ i, i < m → ∃ z : α, V i = f z ∧ q z := fun i hlt => hp _ _ _ (hi i hlt).2
    obtain ⟨Z, hZ⟩ := choose_lt hz
    have hlen : ((List.range len).map Z).length = len := by simp
    refine ⟨some a, cap, (List.range len).map Z, by rw [hlen], ?_, fun b hb => ?_, by rw [hlen]; exact hl, hm⟩
    · rw [hlen]
      refine ⟨by simp, fun hn => ⟨a, rfl, ?_, fun j u hu => ?_⟩⟩
      · have h0 := (hi 0 (by omega)).1
        have := World.block_lt_of_cell? W _ h0
        rwa [add_block] at this
      · rw [List.map_map, List.getElem?_map] at hu
        by_cases hj : j < len
        · rw [List.getElem?_range hj] at hu
          injection hu with hu
          subst hu
          rw [(hi j (by omega)).1, (hZ j (by omega)).1]
          rfl
        · rw [List.getElem?_eq_none (by simp; omega)] at hu
          cases hu
    · obtain ⟨i, hi', rfl⟩ := List.mem_map.1 hb
      have := List.mem_range.1 hi'
      exact (hZ i (by omega)).2
theorem bytes_of {v : Value} (h : DataW.trod enc Tryd.prog W 0 spare held fuel 59 [v] = some x) :
    ∃ A cap, ∃ l : List UInt8, v = .slice A l.length cap ∧ Lies W W.heap.size 1 A l.length (BC l) ∧ l.length ≤ cap ∧ cap ≤ maxLen := by
  obtain ⟨A, cap, l, h1, h2, _, h3, h4⟩ := row_of (f := fun b : UInt8 => Value.int .u8 b.toNat) (q := fun _ => True) Tryd.underlying59 ce5 (fun _ v _ hy => by
    obtain ⟨b, e⟩ := in8 hy
    injection e with e
    exact ⟨b, e, trivial⟩) h
  exact ⟨A, cap, l, h1, h2, h3, h4⟩
theorem nums_of {v : Value} (h : DataW.trod enc Tryd.prog W 0 spare held fuel 40 [v] = some x) :
    ∃ A cap, ∃ l : List Nat, v = .slice A l.length cap ∧ Lies W W.heap.size 1 A l.length (UC l) ∧ (∀ n ∈ l, n < 18446744073709551616) ∧ l.length ≤ cap ∧ cap ≤ maxLen :=
  row_of (f := fun n : Nat => Value.int .u64 (n : Int)) (q := fun n => n < 18446744073709551616) Tryd.underlying40 ce22 (fun _ v _ hy => by
    obtain ⟨n, e, hn⟩ := in64 hy
    injection e with e
    exact ⟨n, e, hn⟩) h
theorem ims_of {v : Value} (h : DataW.trod enc Tryd.prog W 0 spare held fuel 39 [v] = some x) :
    ∃ A cap, ∃ l : List Im, v = .slice A l.length cap ∧ LI W W.heap.size A l.length l ∧ l.length ≤ cap ∧ cap ≤ maxLen := by
  rcases open_slice Tryd.underlying39 h with ⟨hcs, _⟩ | ⟨a, len, cap, m, n, D, Pl, hcs, _, hl, hm, hmm, _, hi⟩
  · injection hcs with hcs
    subst hcs
    exact ⟨none, 0, [], rfl, LI.empty, Nat.le_refl _, by simp [maxLen]⟩
  · injection hcs with hcs
    subst hcs
    have hlm : len ≤ m := by rw [hmm]; split <;> omega
    by_cases hl0 : len = 0
    · subst hl0
      exact ⟨some a, cap, [], rfl, LI.empty, by simp, hm⟩
    rw [ce51] at hi
    have each : ∀ i, i < len → ∃ s : Im, ∀ j, j < 225 → W.cell? ((a.add (i * 225)).add j) = (imL s)[j]? := fun i hlt => by
      obtain ⟨cs', h1, h2⟩ := hi i (by omega)
      obtain ⟨_, hlen, hcell⟩ := World.cells?_some h1
      obtain ⟨s, rfl⟩ := im_of h2
      refine ⟨s, fun j hj => ?_⟩
      rw [hcell j (by omega)]
    obtain ⟨F, hF⟩ := choose_lt (α := Im) each
    have hlen : ((List.range len).map F).length = len := by simp
    have g0 : ∀ s : Im, (imL s)[0]? = some (.int .i64 s.page) := fun s => rfl
    obtain ⟨b, off, rfl⟩ : ∃ b off, a = ⟨b, off, none⟩ := by
      have := hF 0 (by omega) 0 (by omega)
      rw [Nat.zero_mul, Go.Deep.add_add, g0] at this
      exact plainAt this
    refine ⟨some ⟨b, off, none⟩, cap, (List.range len).map F, by rw [hlen], ⟨rfl, fun _ => ⟨b, off, rfl, ?_, fun j v hv => ?_⟩⟩, by rw [hlen]; exact hl, hm⟩
    · have := hF 0 (by omega) 0 (by omega)
      rw [g0] at this
      have := World.block_lt_of_cell? W _ this
      rwa [add_block, add_block] at this
    · obtain ⟨hk, hv2⟩ := flatI_get _ j v hv
      have hk' : j / 225 < len := by rwa [hlen] at hk
      have h3 := hF (j / 225) hk' (j % 225) (Nat.mod_lt _ (by omega))
      rw [add_plain, add_plain, Nat.add_assoc, show j / 225 * 225 + j % 225 = j by omega] at h3
      rw [h3, ← hv2]
      simp
theorem ent_of (h : DataW.trod enc Tryd.prog W 0 spare held fuel 42 cs = some x) :
    ∃ e : Ent, ∃ PA pc QA qc, e.ok ∧ EL W W.heap.size e PA e.pages.length QA e.act.length ∧ cs = [.int .u64 (e.lsn : Nat), .int .i64 e.kind, .int .u64 (e.txn : Nat), .int .u64 (e.prev : Nat), .int .u64 (e.next : Nat), .int .u64 (e.rc.id : Nat), .int .u64 (e.rc.key : Nat), .int .u32 (e.rc.x : Nat), .int .u32 (e.rc.y : Nat), .string (strOf e.rc.val), .bool e.rc.ghost, .slice PA e.pages.length pc, .slice QA e.act.length qc] ∧ e.rc.val.length ≤ maxLen ∧ e.pages.length ≤ maxLen ∧ e.act.length ≤ maxLen := by
  obtain ⟨xs, n, _, _, hl, hxl, hf⟩ := DataW.trod_struct Tryd.underlying42 h
  rw [ce29] at hl
  obtain ⟨v0, v1, v2, v3, v4, v5, v6, v7, v8, v9, v10, v11, v12, rfl⟩ := list13 hl
  obtain ⟨y0, y1, y2, y3, y4, y5, y6, y7, rfl⟩ := list8 hxl
  have g0 := hf 0 _ rfl
  have g1 := hf 1 _ rfl
  have g2 := hf 2 _ rfl
  have g3 := hf 3 _ rfl
  have g4 := hf 4 _ rfl
  have g5 := hf 5 _ rfl
  have g6 := hf 6 _ rfl
  have g7 := hf 7 _ rfl
  simp [ce22, ce3, ce25, ce26, ce27] at g0 g1 g2 g3 g4 g5 g6 g7
  obtain ⟨lsn, e0, b0⟩ := in64 g0
  obtain ⟨kind, e1⟩ := inI g1
  obtain ⟨txn, e2, b2⟩ := in64 g2
  obtain ⟨prev, e3, b3⟩ := in64 g3
  obtain ⟨next, e4, b4⟩ := in64 g4
  obtain ⟨r, hr, hv, e5⟩ := rc_of g5
  obtain ⟨PA, pc, lp, e6, hP, hpc, hpm⟩ := ims_of g6
  obtain ⟨QA, qc, lq, e7, hQ, hq, hqc, hqm⟩ := nums_of g7
  injection e0 with e0
  injection e1 with e1
  injection e2 with e2
  injection e3 with e3
  injection e4 with e4
  simp only [List.cons.injEq, and_true] at e5
  obtain ⟨f0, f1, f2, f3, f4, f5⟩ := e5
  subst e0 e1 e2 e3 e4 f0 f1 f2 f3 f4 f5 e6 e7
  exact ⟨⟨lsn, kind, txn, prev, next, r, lp, lq⟩, PA, pc, QA, qc, ⟨b0, b2, b3, b4, hr, hq⟩, ⟨hP, hQ⟩, rfl, hv, Nat.le_trans hpc hpm, Nat.le_trans hqc hqm⟩
end
section
variable {H : Type} {enc : TypeId × Value → H} {W : World} {spare : Nat → Bool} {held : Bool} {v : Value} {d : DataW H} {p : List MemPlace} {base : Nat}
theorem rc_in (hv : Value.okWide Tryd.prog W .any base 38 v) (h : DataW.Trod enc Tryd.prog W 0 spare held 38 v d p) : ∃ r : Rc, r.ok ∧ r.val.length ≤ maxLen ∧ v = .agg #[.int .u64 (r.id : Nat), .int .u64 (r.key : Nat), .int .u32 (r.x : Nat), .int .u32 (r.y : Nat), .string (strOf r.val), .bool r.ghost] := by
  obtain ⟨cs, rfl, _⟩ := okWide_struct Tryd.underlying38 hv
  obtain ⟨fuel, hf⟩ := h
  have hf' : DataW.trod enc Tryd.prog W 0 spare held fuel 38 cs.toList = some (d, p) := hf
  obtain ⟨r, h1, h2, h3⟩ := rc_of hf'
  exact ⟨r, h1, h2, by rw [← h3]⟩
theorem ent_in (hv : Value.okWide Tryd.prog W .any base 42 v) (h : DataW.Trod enc Tryd.prog W 0 spare held 42 v d p) :
    ∃ e : Ent, ∃ PA pc QA qc, e.ok ∧ EL W W.heap.size e PA e.pages.length QA e.act.length ∧ v = .agg #[.int .u64 (e.lsn : Nat), .int .i64 e.kind, .int .u64 (e.txn : Nat), .int .u64 (e.prev : Nat), .int .u64 (e.next : Nat), .int .u64 (e.rc.id : Nat), .int .u64 (e.rc.key : Nat), .int .u32 (e.rc.x : Nat), .int .u32 (e.rc.y : Nat), .string (strOf e.rc.val), .bool e.rc.ghost, .slice PA e.pages.length pc, .slice QA e.act.length qc] ∧ e.rc.val.length ≤ maxLen ∧ e.pages.length ≤ maxLen ∧ e.act.length ≤ maxLen := by
  obtain ⟨cs, rfl, _⟩ := okWide_struct Tryd.underlying42 hv
  obtain ⟨fuel, hf⟩ := h
  have hf' : DataW.trod enc Tryd.prog W 0 spare held fuel 42 cs.toList = some (d, p) := hf
  obtain ⟨e, PA, pc, QA, qc, h1, h2, h3, h4⟩ := ent_of hf'
  exact ⟨e, PA, pc, QA, qc, h1, h2, by rw [← h3], h4⟩
theorem bytes_in (hv : Value.okWide Tryd.prog W .any base 59 v) (h : DataW.Trod enc Tryd.prog W 0 spare held 59 v d p) :
    ∃ A cap, ∃ l : List UInt8, v = .slice A l.length cap ∧ Lies W W.heap.size 1 A l.length (BC l) ∧ l.length ≤ cap ∧ cap ≤ maxLen := by
  obtain ⟨A, n, c, rfl⟩ := okWide_slice Tryd.underlying59 hv
  obtain ⟨fuel, hf⟩ := h
  have hf' : DataW.trod enc Tryd.prog W 0 spare held fuel 59 [.slice A n c] = some (d, p) := hf
  exact bytes_of hf'
end


/-! ### A row of entries that came in -/
theorem ELz.of_begin {W : World} {r : Er} (h : EL W W.heap.size r.e r.PA r.np r.QA r.na) : ELz (fun k => W.heap.size ≤ k) W r := by
  refine ⟨⟨by rw [flatI_length, h.lenP], fun hn => ?_⟩, ⟨h.act.len, fun hn => ?_⟩⟩
  · obtain ⟨b, o, ha, hb, hr⟩ := h.pages.spot hn
    exact ⟨b, o, ha, Nat.not_le.2 hb, hb, hr⟩
  · obtain ⟨a, ha, hb, hr⟩ := h.act.spot hn
    exact ⟨a, ha, Nat.not_le.2 hb, hb, hr⟩
/-- An entry as it may come in. -/
structure ErIn (r : Er) : Prop where
  ok : r.e.ok
  val : r.e.rc.val.length ≤ maxLen
  np : r.np ≤ maxLen
  na : r.na ≤ maxLen
theorem flatE_get : ∀ (l : List Er) (j : Nat) (v : Value), (flatE l)[j]? = some v → ∃ (hk : j / 13 < l.length), (erL l[j / 13])[j % 13]? = some v
  | [], j, v, h => by simp [flatE] at h
  | s :: r, j, v, h => by
    rw [flatE] at h
    by_cases hj : j < 13
    · rw [List.getElem?_append_left (by rw [erL_length]; exact hj)] at h
      refine ⟨by rw [Nat.div_eq_of_lt hj]; simp, ?_⟩
      simp only [Nat.div_eq_of_lt hj, Nat.mod_eq_of_lt hj, List.getElem_cons_zero]
      exact h
    · rw [List.getElem?_append_right (by rw [erL_length]; omega), erL_length] at h
      obtain ⟨hk, h2⟩ := flatE_get r (j - 13) v h
      have e1 : j / 13 = (j - 13) / 13 + 1 := by omega
      have e2 : j % 13 = (j - 13) % 13 := by omega
      refine ⟨by rw [e1]; simpa using hk, ?_⟩
      simp only [e1, e2, List.getElem_cons_succ]
      exact h2
instance : Inhabited Er := ⟨⟨zent, none, 0, 0, none, 0, 0⟩⟩
section
variable {H : Type} {enc : TypeId × Value → H} {W : World} {spare : Nat → Bool} {held : Bool} {fuel : Nat} {cs : List Value} {x : DataW H × List MemPlace}
theorem er_of (h : DataW.trod enc Tryd.prog W 0 spare held fuel 42 cs = some x) : ∃ r : Er, ErIn r ∧ ELz (fun k => W.heap.size ≤ k) W r ∧ cs = erL r := by
  obtain ⟨e, PA, pc, QA, qc, h1, h2, h3, h4, h5, h6⟩ := ent_of h
  exact ⟨⟨e, PA, e.pages.length, pc, QA, e.act.length, qc⟩, ⟨h1, h4, h5, h6⟩, ELz.of_begin h2, h3⟩
theorem ents_of {v : Value} (h : DataW.trod enc Tryd.prog W 0 spare held fuel 32 [v] = some x) :
    ∃ A cap, ∃ l : List Er, v = .slice A l.length cap ∧ LEz (fun k => W.heap.size ≤ k) W A l.length l ∧ (∀ r ∈ l, ErIn r) ∧ l.length ≤ cap ∧ cap ≤ maxLen := by
  rcases open_slice Tryd.underlying32 h with ⟨hcs, _⟩ | ⟨a, len, cap, m, n, D, Pl, hcs, _, hl, hm, hmm, _, hi⟩
  · injection hcs with hcs
    subst hcs
    exact ⟨none, 0, [], rfl, LEz.empty, fun r h => by simp at h, Nat.le_refl _, by simp [maxLen]⟩
  · injection hcs with hcs
    subst hcs
    have hlm : len ≤ m := by rw [hmm]; split <;> omega
    by_cases hl0 : len = 0
    · subst hl0
      exact ⟨some a, cap, [], rfl, LEz.empty, fun r h => by simp at h, by simp, hm⟩
    rw [ce29] at hi
    have each : ∀ i, i < len → ∃ s : Er, (∀ j, j < 13 → W.cell? ((a.add (i * 13)).add j) = (erL s)[j]?) ∧ ErIn s ∧ ELz (fun k => W.heap.size ≤ k) W s := fun i hlt => by
      obtain ⟨cs', h1, h2⟩ := hi i (by omega)
      obtain ⟨_, hlen, hcell⟩ := World.cells?_some h1
      obtain ⟨s, hs1, hs2, rfl⟩ := er_of h2
      refine ⟨s, fun j hj => ?_, hs1, hs2⟩
      rw [hcell j (by omega)]
    obtain ⟨F, hF⟩ := choose_lt (α := Er) each
    have hlen : ((List.range len).map F).length = len := by simp
    have g0 : ∀ s : Er, (erL s)[0]? = some (.int .u64 (s.e.lsn : Nat)) := fun s => rfl
    obtain ⟨b, off, rfl⟩ : ∃ b off, a = ⟨b, off, none⟩ := by
      have := (hF 0 (by omega)).1 0 (by omega)
      rw [Nat.zero_mul, Go.Deep.add_add, g0] at this
      exact plainAt this
    have hb : b < W.heap.size := by
      have := (hF 0 (by omega)).1 0 (by omega)
      rw [g0] at this
      have := World.block_lt_of_cell? W _ this
      rwa [add_block, add_block] at this
    refine ⟨some ⟨b, off, none⟩, cap, (List.range len).map F, by rw [hlen], ⟨⟨by rw [flatE_length], fun _ => ⟨b, off, rfl, Nat.not_le.2 hb, hb, fun j v hv => ?_⟩⟩, fun r hr => ?_⟩, fun r hr => ?_, by rw [hlen]; exact hl, hm⟩
    · obtain ⟨hk, hv2⟩ := flatE_get _ j v hv
      have hk' : j / 13 < len := by rwa [hlen] at hk
      have h3 := (hF (j / 13) hk').1 (j % 13) (Nat.mod_lt _ (by omega))
      rw [add_plain, add_plain, Nat.add_assoc, show j / 13 * 13 + j % 13 = j by omega] at h3
      rw [h3, ← hv2]
      simp
    · obtain ⟨i, hi', rfl⟩ := List.mem_map.1 hr
      exact (hF i (List.mem_range.1 hi')).2.2
    · obtain ⟨i, hi', rfl⟩ := List.mem_map.1 hr
      exact (hF i (List.mem_range.1 hi')).2.1
end
section
variable {H : Type} {enc : TypeId × Value → H} {W : World} {spare : Nat → Bool} {held : Bool} {v : Value} {d : DataW H} {p : List MemPlace} {base : Nat}
theorem ents_in (hv : Value.okWide Tryd.prog W .any base 32 v) (h : DataW.Trod enc Tryd.prog W 0 spare held 32 v d p) :
    ∃ A cap, ∃ l : List Er, v = .slice A l.length cap ∧ LEz (fun k => W.heap.size ≤ k) W A l.length l ∧ (∀ r ∈ l, ErIn r) ∧ l.length ≤ cap ∧ cap ≤ maxLen := by
  obtain ⟨A, n, c, rfl⟩ := okWide_slice Tryd.underlying32 hv
  obtain ⟨fuel, hf⟩ := h
  have hf' : DataW.trod enc Tryd.prog W 0 spare held fuel 32 [.slice A n c] = some (d, p) := hf
  exact ents_of hf'
end
end Go.Proofs.YthicidpdgggbjaaDoor
