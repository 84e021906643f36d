/-
  A []Op, a []byte and a []bool that came in read as lists.
  Conditions: none.
-/
import Derived.Test.YtggcfbglfmcdmaaF1
import Derived.Deep.Slices
import Derived.Lib.SmallJoins
namespace Go.Proofs.Ytggcfbglfmcdmaa
open Go.RowKit Go.Deep Go.Joins Go.ChangeShapes Go.WideShapes

theorem cells4 : Try.prog.cellsOf 4 = 1 := by kernel_rfl
theorem cells3 : Try.prog.cellsOf 3 = 1 := by kernel_rfl
theorem cells38 : Try.prog.cellsOf 38 = 1 := by kernel_rfl
theorem cells30 : Try.prog.cellsOf 30 = 1 := by kernel_rfl
theorem cells40 : Try.prog.cellsOf 40 = 5 := by kernel_rfl

section
variable {H : Type} {enc : TypeId × Value → H} {W : World} {spare : Nat → Bool} {held : Bool}
theorem plain_addr {a : Addr} {v : Value} (h : W.cell? (a.add 0) = some v) : ∃ b off, a = ⟨b, off, none⟩ := by
  obtain ⟨b, off, spot⟩ := a
  have hs : spot = none := by simpa [Addr.add] using World.cell?_spot h
  subst hs
  exact ⟨b, off, rfl⟩

theorem row_of {a : Addr} {len m : Nat} {V : Nat → Value} {xs : List Value} (hl : len ≤ m) (hx : ∀ i, i < m → W.cell? (a.add i) = some (V i)) (hxs : xs = (List.range len).map V) : Lz (fun _ => False) W 1 (some a) len xs := by
  refine ⟨by rw [hxs]; simp, fun hn => ?_⟩
  obtain ⟨b, off, rfl⟩ := plain_addr (hx 0 (by omega))
  have h0 := hx 0 (by omega)
  refine ⟨b, off, rfl, fun h => h, ?_, fun j v hv => ?_⟩
  · have := World.block_lt_of_cell? W _ h0
    rwa [add_block] at this
  · have hj : j < len := by
      have := (List.getElem?_eq_some_iff.1 hv).1
      rw [hxs] at this
      simpa using this
    rw [hxs, List.getElem?_map, List.getElem?_range hj] at hv
    injection hv with hv
    subst hv
    have := hx j (by omega)
    rwa [add_plain] at this
theorem bytes_of {n : Nat} {v : Value} {y : DataW H × List MemPlace} (h : DataW.trod enc Try.prog W 0 spare held n 38 [v] = some y) :
    ∃ B l cB, v = .slice B l.length cB ∧ Lz (fun _ => False) W 1 B l.length (IL l) ∧ l.length ≤ cB ∧ cB ≤ maxLen := by
  rcases open_slice1 Try.underlying38 cells5 h with ⟨hcs, _⟩ | ⟨a, len, cap, m, k, V, D, Pl, hcs, _, hl, hm, hmm, _, hi⟩
  · injection hcs with hcs
    subst hcs
    exact ⟨none, [], 0, rfl, Lz.empty, Nat.le_refl _, by simp [maxLen]⟩
  · injection hcs with hcs
    subst hcs
    have hlm : len ≤ m := by rw [hmm]; split <;> omega
    have hz : ∀ i, i < m → ∃ z : Int, V i = .int .u8 z := fun i hlt => by
      obtain ⟨z, e, _⟩ := DataW.trod_int Try.underlying5 (hi i hlt).2
      injection e with e
      exact ⟨z, e⟩
    obtain ⟨Z, hZ⟩ := choose_lt hz
    have hlen : ((List.range len).map Z).length = len := by simp
    refine ⟨some a, (List.range len).map Z, cap, by rw [hlen], ?_, by rw [hlen]; exact hl, hm⟩
    rw [hlen]
    refine row_of (V := V) hlm (fun i hlt => (hi i hlt).1) ?_
    rw [IL, List.map_map]
    apply List.map_congr_left
    intro i hi'
    rw [hZ i (by have := List.mem_range.1 hi'; omega)]
    rfl
theorem bools_of {n : Nat} {v : Value} {y : DataW H × List MemPlace} (h : DataW.trod enc Try.prog W 0 spare held n 30 [v] = some y) :
    ∃ E el e2, v = .slice E el.length e2 ∧ Lz (fun _ => False) W 1 E el.length (BL el) ∧ el.length ≤ e2 ∧ e2 ≤ maxLen := by
  rcases open_slice1 Try.underlying30 cells4 h with ⟨hcs, _⟩ | ⟨a, len, cap, m, k, V, D, Pl, hcs, _, hl, hm, hmm, _, hi⟩
  · injection hcs with hcs
    subst hcs
    exact ⟨none, [], 0, rfl, Lz.empty, Nat.le_refl _, by simp [maxLen]⟩
  · injection hcs with hcs
    subst hcs
    have hlm : len ≤ m := by rw [hmm]; split <;> omega
    have hz : ∀ i, i < m → ∃ z : Bool, V i = .bool z := fun i hlt => by
      obtain ⟨z, e, _⟩ := DataW.trod_bool Try.underlying4 (hi i hlt).2
      injection e with e
      exact ⟨z, e⟩
    obtain ⟨Z, hZ⟩ := choose_lt hz
    have hlen : ((List.range len).map Z).length = len := by simp
    refine ⟨some a, (List.range len).map Z, cap, by rw [hlen], ?_, by rw [hlen]; exact hl, hm⟩
    rw [hlen]
    refine row_of (V := V) hlm (fun i hlt => (hi i hlt).1) ?_
    rw [BL, List.map_map]
    apply List.map_congr_left
    intro i hi'
    rw [hZ i (by have := List.mem_range.1 hi'; omega)]
    rfl
theorem wf_i64 {n : Int} (h : (Lit.int .i64 n).wf = true) : I64 n := by
  have h2 : decide (IntKind.i64.min ≤ n) = true ∧ decide (n ≤ IntKind.i64.max) = true := by
    unfold Lit.wf at h
    simpa using h
  have e1 : IntKind.i64.min = -9223372036854775808 := by decide
  have e2 : IntKind.i64.max = 9223372036854775807 := by decide
  rw [e1, e2] at h2
  simpa [I64] using h2

set_option maxRecDepth 100000 in
theorem ops_of {A : Option Addr} {len cap : Nat} {d : DataW H} {p : List MemPlace}
    (h : DataW.Trod enc Try.prog W 0 spare held 22 (.slice A len cap) d p) : ∃ fs : List OpV, fs.length = len ∧ Ops W A fs ∧ len ≤ maxLen := by
  obtain ⟨fuel, hf⟩ := h
  rcases open_slice Try.underlying22 hf with ⟨hcs, _⟩ | ⟨a, len', cap', m, n, D, Pl, hcs, _, hl, hm, hmm, _, hi⟩
  · simp [Value.cells] at hcs
    obtain ⟨rfl, rfl, rfl⟩ := hcs
    exact ⟨[], rfl, ⟨fun i hi => absurd hi (Nat.not_lt_zero _)⟩, by simp [maxLen]⟩
  · simp [Value.cells] at hcs
    obtain ⟨rfl, rfl, rfl⟩ := hcs
    have hlm : len ≤ m := by rw [hmm]; split <;> omega
    by_cases hl0 : len = 0
    · subst hl0
      exact ⟨[], rfl, ⟨fun i hi => absurd hi (Nat.not_lt_zero _)⟩, by simp [maxLen]⟩
    rw [cells40] at hi
    obtain ⟨b, off, rfl⟩ : ∃ b off, a = ⟨b, off, none⟩ := by
      obtain ⟨cs', h1, _⟩ := hi 0 (by omega)
      obtain ⟨_, hlen, hcell⟩ := World.cells?_some h1
      have c0 := hcell 0 (by omega)
      match cs', hlen with
      | [v0, v1, v2, v3, v4], _ =>
        rw [Nat.zero_mul, Go.Deep.add_add] at c0
        exact plain_addr c0
    have each : ∀ i, i < len → ∃ f : OpV, b < W.heap.size ∧ OpAt W b off i f ∧ OpOk W f := by
      intro i hlt
      obtain ⟨cs', h1, h2⟩ := hi i (by omega)
      obtain ⟨_, hlen, hcell⟩ := World.cells?_some h1
      obtain ⟨xs, k, _, _, _, hxl, hfd⟩ := DataW.trod_struct Try.underlying40 h2
      match cs', hlen, xs, hxl with
      | [v0, v1, v2, v3, v4], _, [y0, y1, y2, y3, y4], _ =>
        have g0 := hfd 0 _ rfl
        have g1 := hfd 1 _ rfl
        have g2 := hfd 2 _ rfl
        have g3 := hfd 3 _ rfl
        have g4 := hfd 4 _ rfl
        simp [cells3, cells38, cells30] at g0 g1 g2 g3 g4
        obtain ⟨kd, e0, _, _⟩ := DataW.trod_int Try.underlying3 g0
        obtain ⟨p, e1, _, _⟩ := DataW.trod_int Try.underlying3 g1
        obtain ⟨N, e2, _, wN⟩ := DataW.trod_int Try.underlying3 g2
        obtain ⟨B, l, cB, rfl, hB, hB1, hB2⟩ := bytes_of g3
        obtain ⟨E, el, ec, rfl, hE, hE1, hE2⟩ := bools_of g4
        simp at e0 e1 e2
        subst e0 e1 e2
        have c0 := hcell 0 (by omega)
        have c1 := hcell 1 (by omega)
        have c2 := hcell 2 (by omega)
        have c3 := hcell 3 (by omega)
        have c4 := hcell 4 (by omega)
        rw [Go.Deep.add_add, add_plain] at c0 c1 c2 c3 c4
        have hblk := World.block_lt_of_cell? W _ c0
        refine ⟨⟨kd, p, N, B, l, cB, E, el, ec⟩, hblk, ⟨by simpa using c0, ?_, ?_, ?_, ?_⟩, ⟨hB, hE, by unfold maxLen at hB2; show l.length ≤ _; omega, hE1, hE2, wf_i64 wN⟩⟩
        · rw [show off + i * 5 + 1 = off + (i * 5 + 1) from by omega, c1]
          rfl
        · rw [show off + i * 5 + 2 = off + (i * 5 + 2) from by omega, c2]
          rfl
        · rw [show off + i * 5 + 3 = off + (i * 5 + 3) from by omega, c3]
          rfl
        · rw [show off + i * 5 + 4 = off + (i * 5 + 4) from by omega, c4]
          rfl
    obtain ⟨F, hF⟩ := choose_lt each
    refine ⟨(List.range len).map F, by simp, ⟨fun i hi => ?_⟩, Nat.le_trans hl hm⟩
    have hi' : i < len := by simpa using hi
    obtain ⟨h1, h2, h3⟩ := hF i hi'
    refine ⟨b, off, rfl, h1, ?_, ?_⟩
    · simpa using h2
    · simpa using h3
end

set_option maxHeartbeats 800000 in
theorem does_heavy (n : Int) (A : Option Addr) (fs : List OpV) (c : Nat) (at_ : Int) (w : World) (h : Ops w A fs) (hlb : lightB fs = false) (hl : fs.length ≤ 9223372036854775807) :
    Calls Try.prog 3 #[.int .i64 n, .slice A fs.length c, .int .i64 at_] w fun e w' => e = .returned (.bool true) ∧ Below w.heap.size w w' := by
  have LI := Lib.hid (light_any c A fs w h hl)
  rw [hlb] at LI
  clear h hlb
  go_enter Try.func3, Try.ntmps3
  go_wp2_with (first
    | (go_at_call 5; refine LI.out.mono ?_; rintro e w0 ⟨rfl, rfl⟩)
    | (go_at_call 6; refine (works_any _).mono ?_; rintro e w6 ⟨rfl, hb6⟩))
  go_ret
  exact ⟨rfl, hb6⟩
set_option maxHeartbeats 800000 in
theorem does_large (n : Int) (A : Option Addr) (fs : List OpV) (c : Nat) (at_ : Int) (w : World) (h : Ops w A fs) (hlb : lightB fs = true) (hl : fs.length ≤ 9223372036854775807) (hn : 40 < n) :
    Calls Try.prog 3 #[.int .i64 n, .slice A fs.length c, .int .i64 at_] w fun e w' => e = .returned (.bool true) ∧ Below w.heap.size w w' := by
  have LI := Lib.hid (light_any c A fs w h hl)
  rw [hlb] at LI
  clear h hlb
  have d40 : decide (40 < n) = true := by simpa using hn
  go_enter Try.func3, Try.ntmps3
  go_wp2_with (first
    | (go_at_call 5; refine LI.out.mono ?_; rintro e w0 ⟨rfl, rfl⟩)
    | (go_at_call 6; refine (works_any _).mono ?_; rintro e w6 ⟨rfl, hb6⟩))
  go_ret
  exact ⟨rfl, hb6⟩
set_option maxHeartbeats 1600000 in
theorem does_small (n : Int) (A : Option Addr) (fs : List OpV) (c : Nat) (at_ : Int) (w : World) (h : Ops w A fs) (hlb : lightB fs = true) (hl : fs.length ≤ 9223372036854775807) (hn : n < 1) :
    Calls Try.prog 3 #[.int .i64 n, .slice A fs.length c, .int .i64 at_] w fun e w' => e = .returned (.bool true) ∧ Below w.heap.size w w' := by
  have LI := Lib.hid (light_any c A fs w h hl)
  rw [hlb] at LI
  clear h hlb
  have d40 : decide (40 < n) = false := by simp; omega
  have NB := Lib.hid (new_bad n w (.inl hn))
  have RB := Lib.hid (refNew_bad n w (.inl hn))
  go_enter Try.func3, Try.ntmps3
  go_wp2_with (first
    | (go_at_call 5; refine LI.out.mono ?_; rintro e w0 ⟨rfl, rfl⟩)
    | (go_at_call 7; refine NB.out.mono ?_; rintro e w0 ⟨rfl, rfl⟩)
    | (go_at_call 8; refine RB.out.mono ?_; rintro e w2 ⟨rfl, hb2⟩; have HB2 := Lib.hid hb2; clear hb2)
    | (go_at_call 6; refine (works_any _).mono ?_; rintro e w6 ⟨rfl, hb6⟩; have HB6 := Lib.hid hb6; clear hb6))
  go_ret
  exact ⟨rfl, (HB2.out.alloc HB2.out.size _).trans (HB6.out.mono (by have := HB2.out.size; simp; omega))⟩
theorem does_any (n : Int) (A : Option Addr) (fs : List OpV) (c : Nat) (at_ : Int) (w : World) (h : Ops w A fs) (hl : fs.length ≤ maxLen) :
    Calls Try.prog 3 #[.int .i64 n, .slice A fs.length c, .int .i64 at_] w fun e w' => e = .returned (.bool true) ∧ Below w.heap.size w w' := by
  unfold maxLen at hl
  cases hlb : lightB fs with
  | false => exact does_heavy n A fs c at_ w h hlb (by omega)
  | true =>
    by_cases h1 : n < 1
    · exact does_small n A fs c at_ w h hlb (by omega) h1
    · by_cases h2 : 40 < n
      · exact does_large n A fs c at_ w h hlb (by omega) h2
      · obtain ⟨k, rfl⟩ := Int.eq_ofNat_of_zero_le (show 0 ≤ n by omega)
        exact does_main k A fs c at_ w h hlb (by omega) (by omega) (lightB_iff.1 hlb).1
end Go.Proofs.Ytggcfbglfmcdmaa
