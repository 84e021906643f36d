/-
  A []Op that came in reads as a list of acts; the walk of light.
  Conditions: none beyond those that each theorem names.
-/
import Derived.Test.YtggcfbglfmcdmaaD5
namespace Go.Proofs.Ytggcfbglfmcdmaa
open Go.RowKit

structure OpV where
  kd : Int
  p : Int
  N : Int
  B : Option Addr
  l : List Int
  cB : Nat
  E : Option Addr
  el : List Bool
  e2 : Nat
instance : Inhabited OpV := ⟨⟨0, 0, 0, none, [], 0, none, [], 0⟩⟩
/-- The act f lies in place i of the row that begins at off in block b. -/
structure OpAt (w : World) (b off i : Nat) (f : OpV) : Prop where
  c0 : w.cell? ⟨b, off + i * 5, none⟩ = some (.int .i64 f.kd)
  c1 : w.cell? ⟨b, off + i * 5 + 1, none⟩ = some (.int .i64 f.p)
  c2 : w.cell? ⟨b, off + i * 5 + 2, none⟩ = some (.int .i64 f.N)
  c3 : w.cell? ⟨b, off + i * 5 + 3, none⟩ = some (.slice f.B f.l.length f.cB)
  c4 : w.cell? ⟨b, off + i * 5 + 4, none⟩ = some (.slice f.E f.el.length f.e2)
/-- What a slice that came in gives of its act. -/
structure OpOk (w : World) (f : OpV) : Prop where
  bytes : Lz (fun _ => False) w 1 f.B f.l.length (IL f.l)
  keep : Lz (fun _ => False) w 1 f.E f.el.length (BL f.el)
  l1 : f.l.length ≤ 9223372036854775807
  c1 : f.el.length ≤ f.e2
  c2 : f.e2 ≤ maxLen
  n64 : I64 f.N
structure Ops (w : World) (A : Option Addr) (fs : List OpV) : Prop where
  at_ : ∀ i (h : i < fs.length), ∃ b off, A = some ⟨b, off, none⟩ ∧ b < w.heap.size ∧ OpAt w b off i fs[i] ∧ OpOk w fs[i]
theorem OpAt.under {w w' : World} {b off i : Nat} {f : OpV} {B : Nat} (h : OpAt w b off i f) (hb : Below B w w') (hB : b < B) : OpAt w' b off i f :=
  ⟨(hb.cell (p := ⟨b, _, none⟩) hB).trans h.c0, (hb.cell (p := ⟨b, _, none⟩) hB).trans h.c1, (hb.cell (p := ⟨b, _, none⟩) hB).trans h.c2, (hb.cell (p := ⟨b, _, none⟩) hB).trans h.c3, (hb.cell (p := ⟨b, _, none⟩) hB).trans h.c4⟩
/-- An act as do takes it, in a world in which old memory is as it was. -/
theorem OpOk.act {X : Nat → Prop} {w w' : World} {f : OpV} (h : OpOk w f) (hb : Below w.heap.size w w') (hX : ∀ k, X k → w.heap.size ≤ k) (h1 : f.l.length ≤ 1000) (h2 : f.el.length ≤ 1000) : ActAt X w' f.N f.B f.l f.E f.el f.e2 :=
  ⟨(h.bytes.mono (fun k hk hx => by have := hX k hx; omega)).below hb, (h.keep.mono (fun k hk hx => by have := hX k hx; omega)).below hb, h1, h2, h.c1, h.c2, h.n64⟩

def okB (f : OpV) : Bool := decide (f.l.length ≤ 40) && decide (f.el.length ≤ 60)
def lightB (fs : List OpV) : Bool := decide (fs.length ≤ 80) && fs.all okB
theorem lightB_iff {fs : List OpV} : lightB fs = true ↔ fs.length ≤ 80 ∧ ∀ f ∈ fs, f.l.length ≤ 40 ∧ f.el.length ≤ 60 := by
  unfold lightB okB
  simp
theorem light_bad {fs : List OpV} {k : Nat} (hk : k < fs.length) (h : 40 < fs[k].l.length ∨ 60 < fs[k].el.length) : lightB fs = false := by
  cases hh : lightB fs with
  | false => rfl
  | true =>
    have := (lightB_iff.1 hh).2 fs[k] (List.getElem_mem hk)
    omega

set_option maxHeartbeats 800000 in
theorem light_any (c : Nat) (A : Option Addr) (fs : List OpV) (w : World) (h : Ops w A fs) (hn : fs.length ≤ 9223372036854775807) :
    Calls Try.prog 5 #[.slice A fs.length c] w fun e w' => e = .returned (.bool (lightB fs)) ∧ w = w' := by
  have H := Lib.hid h
  clear h
  by_cases h80 : 80 < fs.length
  · have d0 : decide ((80 : Int) < (fs.length : Int)) = true := by simp; omega
    have LB := Lib.hid (show lightB fs = false by unfold lightB; simp; omega)
    go_enter Try.func5, Try.ntmps5
    go_wp2_with fail
    go_ret
    exact ⟨ret_bool LB.out.symm, rfl⟩
  · have d0 : decide ((80 : Int) < (fs.length : Int)) = false := by simp; omega
    go_enter Try.func5, Try.ntmps5
    go_wp2_with fail
    go_loop [3] (fun i => ∃ k : Nat, k ≤ fs.length ∧ i = .int .i64 k ∧ Hid (∀ f ∈ fs.take k, okB f = true)) (fun i => fs.length - (intOf i).toNat)
    case atStart => exact ⟨0, Nat.zero_le _, rfl, Lib.hid (by simp)⟩
    case round =>
      obtain ⟨k, hk, rfl, hE⟩ := hrel
      by_cases hlt : k < fs.length
      · obtain ⟨b, off, rfl, hb, hat, hok⟩ := H.out.at_ k hlt
        have c3 := hat.c3
        have c4 := hat.c4
        have l1 := hok.l1
        have l2 := hok.c1
        have l3 := hok.c2
        unfold maxLen at l3
        have BAD := Lib.hid (fun h => light_bad hlt h)
        have HTS := Lib.hid (take_snoc fs k hlt)
        generalize fs[k] = f at *
        clear hat hok
        by_cases h1 : 40 < f.l.length
        · have d1 : decide ((40 : Int) < (f.l.length : Int)) = true := by simp; omega
          go_wp2_with fail
          go_ret
          exact ⟨ret_bool (BAD.out (.inl h1)).symm, rfl⟩
        · have d1 : decide ((40 : Int) < (f.l.length : Int)) = false := by simp; omega
          by_cases h2 : 60 < f.el.length
          · have d2 : decide ((60 : Int) < (f.el.length : Int)) = true := by simp; omega
            go_wp2_with fail
            go_ret
            exact ⟨ret_bool (BAD.out (.inr h2)).symm, rfl⟩
          · have d2 : decide ((60 : Int) < (f.el.length : Int)) = false := by simp; omega
            go_wp2_with fail
            refine ⟨⟨k + 1, by omega, by go_num, ?_⟩, by simp [intOf]; omega⟩
            intro f' hf'
            rw [HTS.out, List.mem_append] at hf'
            rcases hf' with hf' | hf'
            · exact hE.out f' hf'
            · simp at hf'
              subst hf'
              unfold okB
              simp
              omega
      · have LB : Hid (lightB fs = true) := by
          show lightB fs = true
          rw [lightB_iff]
          refine ⟨by omega, fun f hf => ?_⟩
          have := hE.out f (by rw [List.take_of_length_le (by omega)]; exact hf)
          unfold okB at this
          simpa using this
        go_wp2_with fail
        go_ret
        exact ⟨ret_bool LB.out.symm, rfl⟩
end Go.Proofs.Ytggcfbglfmcdmaa
