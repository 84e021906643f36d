/-
  A page that came in.
  Conditions: none.
-/
import Derived.Test.YtgjkbnplpioloaaB29
import Derived.Deep.Slices
import Derived.Lib.SmallJoins
import Derived.OpenShut
import Derived.WideShapes
import Derived.ProofKit
namespace Go.Proofs.Ytgjkbnplpioloaa
open Go.RowKit Go.Deep Go.Joins Go.ChangeShapes Go.WideShapes
set_option maxRecDepth 20000

theorem cellsP : Try.prog.cellsOf 62 = 224 := by kernel_rfl
theorem wf_byte {n : Int} (h : (Lit.int .u8 n).wf = true) : ∃ b : UInt8, n = (b.toNat : Nat) := by
  have h2 : IntKind.u8.min ≤ n ∧ n ≤ IntKind.u8.max := by
    unfold Lit.wf at h
    simpa using h
  rw [show IntKind.u8.min = 0 by decide, show IntKind.u8.max = 255 by decide] at h2
  refine ⟨UInt8.ofNat n.toNat, ?_⟩
  rw [UInt8.toNat_ofNat_of_lt' (by simp [UInt8.size]; omega)]
  omega
section
variable {H : Type} {enc : TypeId × Value → H} {W : World} {spare : Nat → Bool} {held : Bool}
theorem arrB_of {n fuel : Nat} {t : TypeId} {cs : List Value} {x : DataW H × List MemPlace} (ht : Try.prog.underlying t = some (.array n 5)) (hc : Try.prog.cellsOf t = n) (h : DataW.trod enc Try.prog W 0 spare held fuel t cs = some x) :
    ∃ L : List UInt8, L.length = n ∧ cs = BC L := by
  obtain ⟨xs, m, _, _, hlen, hxl, hi⟩ := DataW.trod_array ht h
  rw [hc] at hlen
  rw [cells5] at hi
  have each : ∀ i, i < n → ∃ z : UInt8, cs[i]? = some (.int .u8 (z.toNat : Nat)) := fun i hlt => by
    have hx : i < xs.length := by omega
    have h1 := hi i hlt
    rw [List.getElem?_eq_getElem hx, Nat.mul_one] at h1
    obtain ⟨z, e, _, wf⟩ := DataW.trod_int Try.underlying5 h1
    have hcs : i < cs.length := by omega
    rw [List.drop_eq_getElem_cons hcs, List.take_succ_cons, List.take_zero] at e
    injection e with e _
    obtain ⟨b, rfl⟩ := wf_byte wf
    exact ⟨b, by rw [List.getElem?_eq_getElem hcs, e]⟩
  have : ∃ Z : Nat → UInt8, ∀ i, i < n → cs[i]? = some (.int .u8 ((Z i).toNat : Nat)) :=
    ⟨fun i => if h : i < n then (each i h).choose else 0, fun i h => by simp only [h, dif_pos]; exact (each i h).choose_spec⟩
  obtain ⟨Z, hZ⟩ := this
  refine ⟨(List.range n).map Z, by simp, ?_⟩
  apply List.ext_getElem?
  intro i
  by_cases hlt : i < n
  · rw [hZ i hlt, BC, List.getElem?_map, List.getElem?_map, List.getElem?_range hlt]
    rfl
  · rw [List.getElem?_eq_none (by omega), List.getElem?_eq_none (by rw [BC_length]; simp; omega)]
theorem pageB_of {v : Value} {d : DataW H} {p : List MemPlace} {base : Nat} (hv : Value.okWide Try.prog W .any base 62 v) (h : DataW.Trod enc Try.prog W 0 spare held 62 v d p) : ∃ q : Pg, v = .agg (pgA q) := by
  obtain ⟨cs, rfl, hsz, _⟩ : ∃ cs, v = .agg cs ∧ cs.size = Try.prog.cellsOf 62 ∧ Row.okWide Try.prog W .any base 62 cs := by
    simpa [Value.okWide, Try.underlying62] using hv
  obtain ⟨fuel, hf⟩ := h
  obtain ⟨L, hl, hcs⟩ := arrB_of Try.underlying62 cellsP hf
  have e : (padPg L).toList = L := by rw [padPg_toList L (by omega), hl]; simp
  refine ⟨padPg L, ?_⟩
  have hcs' : cs.toList = BC L := hcs
  rw [pgA, e, ← hcs']
end
end Go.Proofs.Ytgjkbnplpioloaa
