/-
  works.
  Conditions: none.
-/
import Derived.Test.YtnkphpjnhjbokaaSX
import Derived.Test.YtnkphpjnhjbokaaSV
import Derived.Test.YtnkphpjnhjbokaaSH
namespace Go.Proofs.Ytnkphpjnhjbokaa
open Go.RowKit Go.Shelf
attribute [local go_sem] Oper.semAt_some
set_option maxRecDepth 100000

def wl : List Ar := [(1, 2), (2, 3), (3, 1), (2, 4)]
def wlA : Array Value := #[.int .u64 1, .int .u64 2, .int .u64 2, .int .u64 3, .int .u64 3, .int .u64 1, .int .u64 2, .int .u64 4]
theorem wl_cells : wlA.toList = arL wl := rfl
theorem build4 (w : World) : (Instr.buildSlice 27 4 #[(0, .agg #[.int .u64 1, .int .u64 2]), (1, .agg #[.int .u64 2, .int .u64 3]), (2, .agg #[.int .u64 3, .int .u64 1]), (3, .agg #[.int .u64 2, .int .u64 4])]).run Try.prog w = .ok (.slice (some ⟨w.heap.size, 0, none⟩) 4 4) (w.alloc (.cells wlA 40)) := by
  kernel_rfl
theorem wl_own (w : World) : (w.alloc (.cells wlA 40)).ownsRow w.heap.size 40 2 (.slice (some ⟨w.heap.size, 0, none⟩) 4 4) 4 (arL wl) :=
  ⟨rfl, .inr ⟨w.heap.size, 4, wlA, rfl, Nat.le_refl _, heap_alloc_new w _, Nat.le_refl _, by simp [maxLen], rfl, rfl⟩⟩
theorem wl_u64 : ∀ a ∈ wl, U64 a.1 ∧ U64 a.2 := by
  intro a ha
  simp only [wl, List.mem_cons, List.not_mem_nil, or_false] at ha
  rcases ha with rfl | rfl | rfl | rfl <;> exact ⟨by unfold U64; decide, by unfold U64; decide⟩
theorem wl_find : roundU wl 2 (farU wl 2 2) 2 = [2, 3, 1] := by decide +kernel
theorem wl_find4 : roundU wl 4 (farU wl 4 4) 4 = [] := by decide +kernel
theorem wl_reach : (reachU wl 1 wl.length).length = 4 := by decide +kernel
theorem wl_far3 : farU wl 3 3 = 3 := by decide +kernel
theorem wl_far4 : farU wl 4 4 = 0 := by decide +kernel
theorem wl_not : ¬ NoWay wl := fun h => absurd (noWay_far.1 h (3, 1) (by decide)) (by decide +kernel)
theorem wl_yes : NoWay [(2, 3)] := noWay_far.2 (by decide +kernel)
theorem wl_sub {W : World} {g : Nat} (h : Lz (fun _ => False) W 2 (some ⟨g, 0, none⟩) 4 (arL wl)) : Lz (fun _ => False) W 2 (some ⟨g, 2, none⟩) 1 (arL [(2, 3)]) := by
  obtain ⟨b, o, e, hx, hb, hr⟩ := h.spot (by omega)
  injection e with e
  injection e with e1 e2
  subst e1 e2
  refine ⟨rfl, fun _ => ⟨g, 2, rfl, hx, hb, fun j v hv => ?_⟩⟩
  have hj : j < 2 := (List.getElem?_eq_some_iff.1 hv).1
  have := hr (2 + j) v (by
    rcases j with _ | _ | j
    · exact hv
    · exact hv
    · omega)
  simpa using this
theorem works_stamp (w : World) : StampF 21 #[] (fun x => x) w := fun W x _ => works1_any x W
set_option maxHeartbeats 8000000 in
theorem works_any (w : World) : Calls Try.prog 8 #[] w (RetB w (.bool true)) := by
  have hb4 := build4 w
  have HOW := Lib.hid (Lz.of_own (X := fun _ => False) (wl_own w) (fun _ h => h.elim))
  have HBW : Hid (Below w.heap.size w (w.alloc (.cells wlA 40))) := (Below.refl _ w).alloc (Nat.le_refl _) _
  go_enter Try.func8, Try.ntmps8
  go_wp2_with fail
  change Calls Try.prog _ _ (w.alloc (.cells wlA 40)) _
  generalize w.alloc (.cells wlA 40) = W1 at HOW HBW ⊢
  generalize w.heap.size = g at HOW ⊢
  clear hb4
  have hf := Find_any (some ⟨g, 0, none⟩) 4 4 wl 2 W1 HOW.out (by omega) wl_u64 (by unfold U64; decide)
  refine hf.mono ?_
  rintro e z1 ⟨p, m, P, cP, rfl, hm, hr, _, hp⟩
  rw [wl_find] at hp
  subst hp
  obtain rfl : m = 3 := hm.symm
  have HR1 := Lib.hid hr
  have HL1 := Lib.hid (HOW.out.below hr.below)
  have HB1 := Lib.hid (HBW.out.trans (hr.below.mono HBW.out.size))
  clear hm hr hf
  go_wp2_with fail
  have hrc := Reach_any (some ⟨g, 0, none⟩) 4 4 wl 1 z1 HL1.out (by omega) (fun a ha => (wl_u64 a ha).2)
  refine hrc.mono ?_
  rintro e z2 ⟨R, m, cR, rfl, hm, hr⟩
  rw [wl_reach] at hm
  subst hm
  have HR2 := Lib.hid (HR1.out.under hr.below)
  have HL2 := Lib.hid (HL1.out.below hr.below)
  have HB2 := Lib.hid (HB1.out.trans (hr.below.mono HB1.out.size))
  clear hr hrc
  have hlz := HR2.out.lz (n := 3) rfl
  obtain ⟨pb, po, _, e0, hb0, hc0⟩ := hlz.uc (k := 0) (by omega)
  obtain ⟨pb1, po1, _, e1, hb1, hc1⟩ := hlz.uc (k := 1) (by omega)
  obtain ⟨pb2, po2, _, e2, hb2, hc2⟩ := hlz.uc (k := 2) (by omega)
  subst e0
  injection e1 with e1
  injection e1 with e1 e1'
  injection e2 with e2
  injection e2 with e2 e2'
  subst e1 e1' e2 e2'
  have q0 : z2.cell? ⟨pb, po, none⟩ = some (.int .u64 2) := hc0
  have q1 : z2.cell? ⟨pb, po + 1, none⟩ = some (.int .u64 3) := hc1
  have q2 : z2.cell? ⟨pb, po + 2, none⟩ = some (.int .u64 1) := hc2
  clear hc0 hc1 hc2 hlz hb0 hb1 hb2
  go_wp2_with (go_at_call 9
               refine (Find_any (some ⟨g, 0, none⟩) 4 4 wl 4 z2 HL2.out (by omega) wl_u64 (by unfold U64; decide)).mono ?_
               rintro e z3 ⟨p, m, P4, c4, rfl, hm, hr, _, hp⟩
               rw [wl_find4] at hp
               subst hp
               obtain rfl : m = 0 := hm.symm
               have HR3 := Lib.hid (HR2.out.under hr.below)
               have HL3 := Lib.hid (HL2.out.below hr.below)
               have HB3 := Lib.hid (HB2.out.trans (hr.below.mono HB2.out.size))
               clear hm hr q0 q1 q2)
  have hs3 := Stuck_any (some ⟨g, 0, none⟩) 4 4 wl 3 z3 HL3.out (by omega) (fun a ha => (wl_u64 a ha).2) (by unfold U64; decide)
  rw [wl_far3, show decide (0 < 3) = true from rfl] at hs3
  refine hs3.mono ?_
  rintro e z4 ⟨rfl, hb⟩
  have HR4 := Lib.hid (HR3.out.under hb)
  have HL4 := Lib.hid (HL3.out.below hb)
  have HB4 := Lib.hid (HB3.out.trans (hb.mono HB3.out.size))
  clear hb hs3
  go_wp2_with fail
  have hs4 := Stuck_any (some ⟨g, 0, none⟩) 4 4 wl 4 z4 HL4.out (by omega) (fun a ha => (wl_u64 a ha).2) (by unfold U64; decide)
  rw [wl_far4, show decide (0 < 0) = false from rfl] at hs4
  refine hs4.mono ?_
  rintro e z5 ⟨rfl, hb⟩
  have HR5 := Lib.hid (HR4.out.under hb)
  have HL5 := Lib.hid (HL4.out.below hb)
  have HB5 := Lib.hid (HB4.out.trans (hb.mono HB4.out.size))
  clear hb hs4
  go_wp2_with fail
  refine (Free_any (some ⟨g, 0, none⟩) 4 4 wl z5 HL5.out (by omega) wl_u64).mono ?_
  rintro e z6 ⟨r, rfl, hr, hb⟩
  have hrf : r = false := by
    cases r
    · rfl
    · exact absurd (hr.1 rfl) wl_not
  subst hrf
  have HR6 := Lib.hid (HR5.out.under hb)
  have HL6 := Lib.hid (HL5.out.below hb)
  have HB6 := Lib.hid (HB5.out.trans (hb.mono HB5.out.size))
  clear hb hr
  go_wp2_with fail
  refine (Free_any (some ⟨g, 2, none⟩) 1 3 [(2, 3)] z6 (wl_sub HL6.out) (by omega) (fun a ha => wl_u64 a (by simp at ha; subst ha; decide))).mono ?_
  rintro e z7 ⟨r, rfl, hr, hb⟩
  have hrf : r = true := hr.2 wl_yes
  subst hrf
  have HR7 := Lib.hid (HR6.out.under hb)
  have HB7 := Lib.hid (HB6.out.trans (hb.mono HB6.out.size))
  clear hb hr
  go_wp2_with fail
  refine (Youngest_any 21 #[] (fun x => x) ent_works1 (some ⟨pb, po, none⟩) 3 cP [2, 3, 1] z7 (works_stamp z7) (HR7.out.lz rfl) (by omega)).mono ?_
  rintro e z8 ⟨bi, m, rfl, hy, hb⟩
  have hbi : bi = 1 := by
    rcases hy with ⟨h0, _⟩ | ⟨b, rfl, hy⟩
    · omega
    · have h1 := hy.lt
      have h2 := hy.max 1 (by decide) (by decide)
      rcases b with _ | _ | _ | b
      · have h3 := hy.is (by decide)
        simp at h2 h3
        omega
      · rfl
      · have h3 := hy.is (by decide)
        simp at h2 h3
        omega
      · omega
  subst hbi
  have HB8 := Lib.hid (HB7.out.trans (hb.mono HB7.out.size))
  clear hb hy
  go_wp2_with fail
  refine (Youngest_nil none 0 0 z8).mono ?_
  rintro e z9 ⟨rfl, hb⟩
  have HB9 := Lib.hid (HB8.out.trans (hb.mono HB8.out.size))
  clear hb
  go_wp2_with fail
  go_ret
  exact ⟨rfl, HB9.out⟩
end Go.Proofs.Ytnkphpjnhjbokaa
