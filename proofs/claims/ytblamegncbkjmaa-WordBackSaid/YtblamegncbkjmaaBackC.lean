/-
  WordBack: a []Field that came in reads as a list of fields; a list of more than 30.
  Conditions: none.
-/
import Derived.Test.YtblamegncbkjmaaBackA
import Derived.Deep.Slices
import Derived.Lib.SmallJoins
namespace Go.Proofs.Ytblamegncbkjmaa
open Go.RowKit Go.Deep Go.Joins Go.ChangeShapes Go.WideShapes

theorem Try.cells42 : Try.prog.cellsOf 42 = 4 := by kernel_rfl
theorem Try.cells4 : Try.prog.cellsOf 4 = 1 := by kernel_rfl
theorem Try.cells5 : Try.prog.cellsOf 5 = 1 := by kernel_rfl
theorem Try.cells23 : Try.prog.cellsOf 23 = 1 := by kernel_rfl
theorem Try.cells9 : Try.prog.cellsOf 9 = 1 := by kernel_rfl

instance : Inhabited Fl := ⟨⟨false, 0, 0, ByteArray.empty⟩⟩

set_option maxRecDepth 100000 in
theorem fields_of {H : Type} {enc : TypeId × Value → H} {W : World} {spare : Nat → Bool} {held : Bool} {A : Option Addr} {len cap : Nat} {d : DataW H} {p : List MemPlace}
    (h : DataW.Trod enc Try.prog W 0 spare held 40 (.slice A len cap) d p) : ∃ fs : List Fl, fs.length = len ∧ Fls W W.heap.size A fs ∧ len ≤ maxLen := by
  obtain ⟨fuel, hf⟩ := h
  rcases open_slice Try.underlying40 hf with ⟨hcs, _⟩ | ⟨a, len', cap', m, n, D, Pl, hcs, _, hl, hm, hmm, _, hi⟩
  · simp [Value.cells] at hcs
    obtain ⟨rfl, rfl, rfl⟩ := hcs
    exact ⟨[], rfl, ⟨fun i hi => absurd hi (Nat.not_lt_zero _)⟩, by simp [maxLen]⟩
  · simp [Value.cells] at hcs
    obtain ⟨rfl, rfl, rfl⟩ := hcs
    have hlm : len ≤ m := by rw [hmm]; split <;> omega
    by_cases hl0 : len = 0
    · subst hl0
      exact ⟨[], rfl, ⟨fun i hi => absurd hi (Nat.not_lt_zero _)⟩, by simp [maxLen]⟩
    obtain ⟨b, off, rfl⟩ : ∃ b off, a = ⟨b, off, none⟩ := by
      obtain ⟨cs', h1, _⟩ := hi 0 (by omega)
      rw [Try.cells42] at h1
      obtain ⟨_, hlen, hcell⟩ := World.cells?_some h1
      have c0 := hcell 0 (by omega)
      obtain ⟨b, off, spot⟩ := a
      match cs', hlen with
      | [v0, v1, v2, v3], _ =>
        have := World.cell?_spot c0
        have hs : spot = none := by simpa [Addr.add] using this
        subst hs
        exact ⟨b, off, rfl⟩
    have each : ∀ i, i < len → ∃ f : Fl, b < W.heap.size ∧ FlAt W b off i f := by
      intro i hlt
      obtain ⟨cs', h1, h2⟩ := hi i (by omega)
      rw [Try.cells42] at h1
      obtain ⟨_, hlen, hcell⟩ := World.cells?_some h1
      obtain ⟨y0, y1, y2, y3, k, _, _, g0, g1, g2, g3⟩ := trod_struct4 Try.underlying42 h2
      match cs', hlen with
      | [v0, v1, v2, v3], _ =>
        simp [Try.cells4, Try.cells5, Try.cells23, Try.cells9] at g0 g1 g2 g3
        obtain ⟨tx, e0, _⟩ := DataW.trod_bool Try.underlying4 g0
        obtain ⟨sz, e1, _, wz⟩ := DataW.trod_int Try.underlying5 g1
        obtain ⟨nn, e2, _, wn⟩ := DataW.trod_int Try.underlying23 g2
        obtain ⟨s, e3, _, ws⟩ := DataW.trod_string Try.underlying9 g3
        simp at e0 e1 e2 e3
        subst e0 e1 e2 e3
        have c0 := hcell 0 (by omega)
        have c1 := hcell 1 (by omega)
        have c2 := hcell 2 (by omega)
        have c3 := hcell 3 (by omega)
        rw [Go.Deep.add_add] at c0 c1 c2 c3
        have hblk := World.block_lt_of_cell? W _ c0
        rw [add_block] at hblk
        obtain ⟨z0, z1⟩ := wf_u8 wz
        simp [Lit.wf, IntKind.min, IntKind.max, IntKind.bits, IntKind.signed] at wn
        have pl : ∀ q, (⟨b, off, none⟩ : Addr).add q = ⟨b, off + q, none⟩ := by
          intro q
          unfold Addr.add
          split <;> simp_all
        rw [pl] at c0 c1 c2 c3
        refine ⟨⟨tx, sz.toNat, nn.toNat, s⟩, hblk, ⟨?_, ?_, ?_, ?_, ?_, ?_, ws⟩⟩
        · simpa using c0
        · rw [show off + i * 4 + 1 = off + (i * 4 + 1) from by omega, c1]
          simp
          omega
        · rw [show off + i * 4 + 2 = off + (i * 4 + 2) from by omega, c2]
          simp
          omega
        · rw [show off + i * 4 + 3 = off + (i * 4 + 3) from by omega, c3]
          simp
        · show sz.toNat < 256
          omega
        · show nn.toNat < 18446744073709551616
          omega
    obtain ⟨F, hF⟩ := choose_lt each
    refine ⟨(List.range len).map F, by simp, ⟨fun i hi => ?_⟩, Nat.le_trans hl hm⟩
    have hi' : i < len := by simpa using hi
    obtain ⟨h1, h2⟩ := hF i hi'
    refine ⟨b, off, rfl, h1, ?_⟩
    simpa using h2

set_option maxHeartbeats 400000 in
theorem back_big (A0 : Option Addr) (n0 c0 : Nat) (w : World) (h : 30 < n0) (hn0 : n0 ≤ 9223372036854775807) :
    Calls Try.prog 5 #[.slice A0 n0 c0] w fun e w' => e = .returned (.bool true) ∧ Below w.heap.size w w' := by
  have d0 : decide ((30 : Int) < (n0 : Int)) = true := by simp; omega
  go_enter Try.func5, Try.ntmps5
  go_wp2_with (go_at_call 7; refine (works_any _).mono ?_; rintro e w' ⟨rfl, hb⟩)
  go_ret
  exact ⟨rfl, hb⟩
end Go.Proofs.Ytblamegncbkjmaa
