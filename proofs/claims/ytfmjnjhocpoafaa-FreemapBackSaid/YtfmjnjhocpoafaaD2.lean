/-
  The walks of the reference's Take and of the law's ints.
  Conditions: at most 120 pages; the slices read as the lists.
-/
import Derived.Test.YtfmjnjhocpoafaaD1
namespace Go.Proofs.Ytfmjnjhocpoafaa
open Go.RowKit

theorem run_head {P : Program} (t e : TypeId) (ht : P.underlying t = some (.slice e)) (hi : (P.info? e).map (·.size) = some 1) (A : Option Addr) (n c k : Nat) (hk : k ≤ c) (w : World) :
    (Instr.slice t (.slice A n c) none (some (.int .i64 (k : Int))) none).run P w = .ok (.slice A k c) w := by
  cases hq : P.info? e with
  | none => simp [hq] at hi
  | some i =>
    have hz : ∀ a : Addr, a.add 0 = a := fun a => by simp [Addr.add]
    simp [Instr.slice, Instr.sliceBounds, Instr.sliceBound, asIntOf, run_underlying ht, sizeOf, typeInfo, hq, hk, hz]

set_option maxHeartbeats 800000 in
theorem refTake_neg (l : List Bool) (A : Option Addr) (cap : Nat) (n : Int) (h : n < 0) (w : World) :
    Calls Try.prog 11 #[.slice A l.length cap, .int .i64 n] w fun e w' => e = .returned (.tuple #[.slice A l.length cap, .slice none 0 0, .int .i64 1]) ∧ Below w.heap.size w w' := by
  go_enter Try.func11, Try.ntmps11
  go_wp2_with fail
  exact bodyPost_ret (v := .tuple #[.slice A l.length cap, .slice none 0 0, .int .i64 1]) (by simp [results, Try.results11, go_sem]) rfl ⟨rfl, Below.refl _ _⟩
set_option maxHeartbeats 800000 in
theorem refTake_full (l : List Bool) (A : Option Addr) (cap : Nat) (n : Int) (hm : l.length ≤ 120) (h : ((fr l).length : Int) < n) (w : World) (hL : Lies w w.heap.size 1 A l.length (BL l)) :
    Calls Try.prog 11 #[.slice A l.length cap, .int .i64 n] w fun e w' => e = .returned (.tuple #[.slice A l.length cap, .slice none 0 0, .int .i64 6]) ∧ Below w.heap.size w w' := by
  have HL := Lib.hid hL
  clear hL
  go_enter Try.func11, Try.ntmps11
  go_wp2_with fail
  refine (refFree_any l A cap hm w HL.out).mono ?_
  rintro e w1 ⟨A', c', rfl, h1, h2, h3, h4, h5⟩
  have HB := Lib.hid h4
  clear h1 h2 h3 h4 h5
  generalize (fr l).length = f at h ⊢
  go_wp2_with fail
  exact bodyPost_ret (v := .tuple #[.slice A l.length cap, .slice none 0 0, .int .i64 6]) (by simp [results, Try.results11, go_sem]) rfl ⟨rfl, HB.out⟩

/-- Between two rounds of the reference's Take. -/
structure RTI (w : World) (l : List Bool) (f : Nat) (Af : Option Addr) (k : Nat) (A : Option Addr) (W : World) : Prop where
  out : Lies W W.heap.size 1 A l.length (BL (takeL l k))
  fr : Lies W W.heap.size 1 Af f (IN (fr l))
  old : Below w.heap.size w W
def RTR (w : World) (l : List Bool) (n f : Nat) (Af : Option Addr) (o i : Value) (W : World) : Prop :=
  ∃ k A c, k ≤ n ∧ o = .slice A l.length c ∧ i = .int .i64 ((k : Nat) : Int) ∧ Hid (RTI w l f Af k A W)
/-- What the reference's Take returns. -/
def RTook (w : World) (l : List Bool) (n : Nat) (e : Ending) (w' : World) : Prop :=
  ∃ A c A2 c2, e = .returned (.tuple #[.slice A l.length c, .slice A2 n c2, .int .i64 0]) ∧ Lies w' w'.heap.size 1 A l.length (BL (takeL l n)) ∧ Lies w' w'.heap.size 1 A2 n (IN ((fr l).take n)) ∧ (∀ a, A2 = some a → w.heap.size ≤ a.block) ∧ Below w.heap.size w w'
set_option maxHeartbeats 1000000 in
theorem refTake_ok (l : List Bool) (A : Option Addr) (cap : Nat) (n : Nat) (hm : l.length ≤ 120) (h : n ≤ (fr l).length) (w : World) (hL : Lies w w.heap.size 1 A l.length (BL l)) :
    Calls Try.prog 11 #[.slice A l.length cap, .int .i64 n] w (RTook w l n) := by
  have HL := Lib.hid hL
  have hfl : (fr l).length ≤ l.length := pg_le l false l.length
  obtain ⟨f, hf⟩ : ∃ f, f = (fr l).length := ⟨_, rfl⟩
  rw [← hf] at h hfl
  have HF := Lib.hid hf
  have d0 : decide ((n : Int) < 0) = false := by simp
  have d1 : decide (f < n) = false := by simp; omega
  have d2 : decide ((f : Int) < (n : Int)) = false := by simp; omega
  clear hL hf
  go_enter Try.func11, Try.ntmps11
  go_wp2_with fail
  refine (refFree_any l A cap hm w HL.out).mono ?_
  rintro e w1 ⟨Af, cf, rfl, h1, h2, h3, h4, h5⟩
  have HAf := Lib.hid h5
  clear h5
  rw [← HF.out] at h1 h3 ⊢
  have HI : Hid (RTI w l f Af 0 A w1) := ⟨HL.out.below h4, h3, h4⟩
  clear h3 h4
  have hsl := run_head (P := Try.prog) 38 3 Try.underlying38 (by kernel_rfl) Af f cf n (by omega)
  unfold maxLen at h2
  go_wp2_with fail
  go_loopw [8, 9] (fun o i wr => RTR w l n f Af o i wr) (fun _ i _ => n - (intOf i).toNat)
  case atStart => exact ⟨0, A, cap, Nat.zero_le _, rfl, rfl, HI⟩
  case round =>
    clear HI
    obtain ⟨k, A1, c1, hk, rfl, rfl, HI⟩ := hrel
    by_cases hlt : k < n
    · have hkf : k < (fr l).length := by have := HF.out; omega
      obtain ⟨a, u, rfl, hab, hu, hcu⟩ := HI.out.fr.get (k := k) (by omega)
      rw [IN_get (fr l) k hkf] at hu
      cases hu
      have HX := Lib.hid (show takeL l (k + 1) = (takeL l k).set (fr l)[k] true by rw [takeL, List.getD_eq_getElem?_getD, List.getElem?_eq_getElem hkf]; rfl)
      have hx := fr_lt l k hkf
      generalize (fr l)[k] = x at hcu HX hx
      have hlk := takeL_length l k
      have hc := refSet_in (takeL l k) x true A1 c1 (by omega) (by omega) wr (by rw [hlk]; exact HI.out.out)
      rw [hlk] at hc
      have HC := Lib.hid hc
      clear hc hlk
      go_wp2_with fail
      refine HC.out.mono ?_
      rintro e w2 ⟨g, c, rfl, hg, hb⟩
      have HI2 : Hid (RTI w l f (some a) (k + 1) (some ⟨g, 0, none⟩) w2) := ⟨by rw [HX.out]; rw [takeL_length] at hg; exact hg, HI.out.fr.below hb, chain HI.out.old hb (Nat.le_refl _)⟩
      clear hg hb HI
      rw [takeL_length]
      go_wp2_with fail
      go_roundw
      case rel => exact ⟨k + 1, _, _, by omega, rfl, by go_num, HI2⟩
      case measure => simp [intOf]; omega
    · obtain rfl : k = n := by omega
      go_wp2_with fail
      go_quiet (fail)
      go_wp2_with fail
      refine bodyPost_ret (v := .tuple #[.slice A1 l.length c1, .slice Af k cf, .int .i64 0]) (by simp [results, Try.results11, go_sem]) rfl ?_
      refine ⟨A1, c1, Af, cf, rfl, HI.out.out.below (below_n _ _ _), ?_, HAf.out, HI.out.old.trans (below_n _ _ _)⟩
      rw [IN_take]
      exact (HI.out.fr.head h).below (below_n _ _ _)

def IntR (w : World) (n : Nat) (i : Value) (W : World) : Prop := ∃ k : Nat, k ≤ n ∧ i = .int .i64 ((k : Nat) : Int) ∧ Hid (Below w.heap.size w W)
set_option maxHeartbeats 800000 in
theorem ints_same (L : List Nat) (A A2 : Option Addr) (c c2 : Nat) (hm : L.length ≤ 200) (w : World) (h1 : Lies w w.heap.size 1 A L.length (IN L)) (h2 : Lies w w.heap.size 1 A2 L.length (IN L)) :
    Calls Try.prog 12 #[.slice A L.length c, .slice A2 L.length c2] w fun e w' => e = .returned (.bool true) ∧ Below w.heap.size w w' := by
  have H1 := Lib.hid h1
  have H2 := Lib.hid h2
  clear h1 h2
  go_enter Try.func12, Try.ntmps12
  go_wp2_with fail
  go_loopw [5] (fun i wr => IntR w L.length i wr) (fun i _ => L.length - (intOf i).toNat)
  case atStart => exact ⟨0, Nat.zero_le _, rfl, Lib.hid (Below.refl _ _)⟩
  case round =>
    obtain ⟨k, hk, rfl, HB⟩ := hrel
    by_cases hlt : k < L.length
    · obtain ⟨a, u, rfl, hab, hu, hcu⟩ := (H1.out.under HB.out).get hlt
      obtain ⟨a2, u2, rfl, hab2, hu2, hcu2⟩ := (H2.out.under HB.out).get hlt
      rw [IN_get L k hlt] at hu hu2
      cases hu
      cases hu2
      generalize L[k] = x at hcu hcu2
      go_wp2_with fail
      go_quiet (fail)
      go_wp2_with fail
      go_roundw
      case rel => exact ⟨k + 1, by omega, by go_num, Lib.hid (HB.out.trans (below_n _ _ _))⟩
      case measure => simp [intOf]; omega
    · go_wp2_with fail
      go_ret
      exact ⟨rfl, HB.out⟩
end Go.Proofs.Ytfmjnjhocpoafaa
