/-
  The law PlatterDoes: what its loop keeps.
  Conditions: none beyond those that each theorem names.
-/
import Derived.Test.YtggcfbglfmcdmaaE2
namespace Go.Proofs.Ytggcfbglfmcdmaa
open Go.RowKit

theorem info40 : (Try.prog.info? 40).map (·.size) = some 5 := by kernel_rfl
theorem exec_op {op : Oper} {a : Act} {w : World} (x : Operand) (ho : op.op = .load 40 x) (b off k : Nat) (hx : a.eval x = .pointer (some ⟨b, off + k * 5, none⟩)) (f : OpV) (h : OpAt w b off k f) :
    (execOp a.eval op).run Try.prog w = .ok (.value (.agg #[.int .i64 f.kd, .int .i64 f.p, .int .i64 f.N, .slice f.B f.l.length f.cB, .slice f.E f.el.length f.e2])) w := by
  refine exec_load 40 x ho b (off + k * 5) hx [.int .i64 f.kd, .int .i64 f.p, .int .i64 f.N, .slice f.B f.l.length f.cB, .slice f.E f.el.length f.e2] _ ?_ Try.underlying40 rfl info40
  intro j v hv
  match j, hv with
  | 0, hv => injection hv with hv; subst hv; exact h.c0
  | 1, hv => injection hv with hv; subst hv; exact h.c1
  | 2, hv => injection hv with hv; subst hv; exact h.c2
  | 3, hv => injection hv with hv; subst hv; exact h.c3
  | 4, hv => injection hv with hv; subst hv; exact h.c4
section
variable {w : World} {ts : Array Value} {ds : List Deferred} {op : Oper} {K : Act → World → Prop} {Q : Exit → Act → World → Prop}
theorem wp_load_box (d : Nat) (x : Operand) (hop : op.dst = some d) (ho : op.op = .load 32 x) (b : Nat) (hx : Act.eval ⟨ts, ds⟩ x = .pointer (some ⟨b, 0, none⟩)) (C : Array Value) (hb : w.heap[b]? = some (.cells C 32 (0, 0))) (hs : C.size = 5)
    (h : K ⟨ts.setIfInBounds d (.agg C), ds⟩ w) : Oper.wp Try.prog op ⟨ts, ds⟩ w K Q := by
  unfold Oper.wp
  rw [exec_box x ho b hx C hb hs]
  simp only [Oper.upon]
  rw [hop]
  exact h
end
/-- A box is read, guarded or not. -/
theorem wpList_load_boxG {ops : Array Oper} {rest : List Oper} {op : Oper} {a : Act} {w : World} {Q : Exit → Act → World → Prop} (d : Nat) (x : Operand) (hop : op.dst = some d) (ho : op.op = .load 32 x) (hw : Region.wanted op (yielded ops a.tmps) = true) (b : Nat) (hx : a.eval x = .pointer (some ⟨b, 0, none⟩)) (C : Array Value) (hb : w.heap[b]? = some (.cells C 32 (0, 0))) (hs : C.size = 5)
    (h : wpList Try.prog ops Q rest (a.put (some d) (.agg C)) w) : wpList Try.prog ops Q (op :: rest) a w :=
  wpList_step fun K hK => by
    rw [if_pos hw]
    unfold Oper.wp
    rw [exec_box x ho b hx C hb hs]
    simp only [Oper.upon]
    rw [hop]
    exact hK _ _ h

theorem Plat.nil_any {X Y : Nat → Prop} {w : World} {g gs : Nat} {S : List Int} {nw fu : Int} {dn : Bool} (h : Plat X w g gs S nw fu [] dn) : Plat Y w g gs S nw fu [] dn := by
  obtain ⟨cap, sp, A, c, h⟩ := h
  exact ⟨cap, sp, A, c, h.box, h.row, h.ne, h.cap1, h.cap2, Lz.empty, h.c1, h.c2⟩

theorem twin_both {X : Nat → Prop} {w : World} {g gs s : Nat} {m : Int} {R : Array Value} (h : Both X w g gs s m R) (hs0 : 0 < s) (hs : s ≤ 100000) (hX : ∀ k, X k → k < w.heap.size) :
    Calls Try.prog 9 #[.pointer (some ⟨g, 0, none⟩)] w fun e w' => ∃ g2 gs2, e = .returned (.pointer (some ⟨g2, 0, none⟩)) ∧ w.heap.size ≤ g2 ∧ w.heap.size ≤ gs2 ∧ Both X w' g2 gs2 s m R ∧ Below w.heap.size w w' := by
  obtain ⟨S, nw, fu, kp, dn, A, c, fu2, K, kl, kc, rfl, h⟩ := h
  have hl := h.len
  have hk := h.k1
  refine (twin_any X g gs S nw fu kp dn w h.plat (by omega) (by omega) (by omega) hX).mono ?_
  rintro e w' ⟨g2, gs2, rfl, h1, h2, hp, hb⟩
  exact ⟨g2, gs2, rfl, h1, h2, ⟨S, nw, fu, kp, dn, A, c, fu2, K, kl, kc, rfl, ⟨hp, h.ref.below hb, h.link, h.len, h.nw0, h.nw1, h.f1, h.f2, h.k1, h.k2⟩⟩, hb⟩
theorem agree_both {X : Nat → Prop} {w : World} {g gs s : Nat} {m : Int} {R : Array Value} (h : Both X w g gs s m R) (hs : s ≤ 100000) :
    Calls Try.prog 11 #[.pointer (some ⟨g, 0, none⟩), .agg R] w fun e w' => e = .returned (.bool true) ∧ Below w.heap.size w w' := by
  obtain ⟨S, nw, fu, kp, dn, A, c, fu2, K, kl, kc, rfl, h⟩ := h
  have hl := h.len
  exact agree_any X g gs S nw fu kp dn w A c fu2 K kl.length kc h.plat h.ref.sect (by omega)

def XX (g gs b9 b12 : Nat) : Nat → Prop := fun b => b = g ∨ b = gs ∨ b = b9 ∨ b = b12
theorem own_xx (g gs b9 b12 : Nat) : ∀ k, own g gs k → XX g gs b9 b12 k := fun k hk => by
  rcases hk with rfl | rfl
  · exact .inl rfl
  · exact .inr (.inl rfl)

/-- What the loop keeps: the disk and the reference's disk in its box agree; so do the twin and the reference's twin. -/
structure DL (w z : World) (g gs b9 b12 n : Nat) (m : Int) (R : Array Value) (g2 gs2 : Nat) (R2 : Array Value) : Prop where
  below : Below w.heap.size w z
  low : ∀ k, XX g gs b9 b12 k → w.heap.size ≤ k
  lt : ∀ k, XX g gs b9 b12 k → k < z.heap.size
  n9 : ¬ own g gs b9
  n12 : ¬ own g gs b12
  ne : b9 ≠ b12
  both : Both (XX g gs b9 b12) z g gs n m R
  box9 : z.heap[b9]? = some (.cells R 32 (0, 0))
  twin : Both (XX g gs b9 b12) z g2 gs2 n m R2
  t1 : ¬ XX g gs b9 b12 g2
  t2 : ¬ XX g gs b9 b12 gs2
  box12 : z.heap[b12]? = some (.cells R2 32 (0, 0))
section
variable {w z z' z'' : World} {g gs b9 b12 n : Nat} {m : Int} {R R2 R3 : Array Value} {g2 gs2 : Nat}
theorem DL.l9 (h : DL w z g gs b9 b12 n m R g2 gs2 R2) : b9 < z.heap.size := h.lt b9 (.inr (.inr (.inl rfl)))
theorem DL.l12 (h : DL w z g gs b9 b12 n m R g2 gs2 R2) : b12 < z.heap.size := h.lt b12 (.inr (.inr (.inr rfl)))
theorem DL.under (h : DL w z g gs b9 b12 n m R g2 gs2 R2) (hb : Below z.heap.size z z') : DL w z' g gs b9 b12 n m R g2 gs2 R2 :=
  ⟨h.below.trans (hb.mono h.below.size), h.low, fun k hk => Nat.lt_of_lt_of_le (h.lt k hk) hb.size, h.n9, h.n12, h.ne, h.both.below hb, by rw [hb.block _ h.l9]; exact h.box9, h.twin.below hb, h.t1, h.t2, by rw [hb.block _ h.l12]; exact h.box12⟩
theorem DL.drew (h : DL w z g gs b9 b12 n m R g2 gs2 R2) : DL w z.drew g gs b9 b12 n m R g2 gs2 R2 := h.under (Below.refl _ _).drew
theorem DL.low_mod (h : DL w z g gs b9 b12 n m R g2 gs2 R2) (hm : Mod (own g gs) z.drew z') : Below w.heap.size w z' :=
  hm.below h.below.drew (fun k hk => h.low k (own_xx g gs b9 b12 k hk)) h.below.size
theorem DL.row9 (h : DL w z g gs b9 b12 n m R g2 gs2 R2) (hm : Mod (own g gs) z.drew z') : z'.heap[b9]? = some (.cells R 32 (0, 0)) := by
  rw [hm.block b9 h.l9 h.n9]
  exact h.box9
/-- Behind an act. -/
theorem DL.did (h : DL w z g gs b9 b12 n m R g2 gs2 R2) (hb : Both (XX g gs b9 b12) z' g gs n (m + 1) R3) (hm : Mod (own g gs) z.drew z') (h9 : z''.heap[b9]? = some (.cells R3 32 (0, 0))) (hm9 : Mod (fun k => k = b9) z' z'') :
    DL w z'' g gs b9 b12 n (m + 1) R3 g2 gs2 R2 := by
  have hg : g ≠ b9 := fun e => h.n9 (.inl e.symm)
  have hgs : gs ≠ b9 := fun e => h.n9 (.inr e.symm)
  have hx9 : ∀ k, k = b9 → XX g gs b9 b12 k := fun k e => .inr (.inr (.inl e))
  have n1 : ¬ g2 = b9 := fun e => h.t1 (hx9 _ e)
  have n2 : ¬ gs2 = b9 := fun e => h.t2 (hx9 _ e)
  have tw := (h.drew.twin.kept hm (fun e => h.t1 (own_xx g gs b9 b12 _ e)) (fun e => h.t2 (own_xx g gs b9 b12 _ e)) (fun k _ e => own_xx g gs b9 b12 k e)).kept hm9 n1 n2 (fun k _ e => hx9 k e)
  refine ⟨hm9.below (h.low_mod hm) (fun k e => h.low k (hx9 k e)) (Nat.le_trans h.below.size hm.size), h.low, fun k hk => Nat.lt_of_lt_of_le (h.lt k hk) (Nat.le_trans hm.size hm9.size), h.n9, h.n12, h.ne, hb.kept hm9 hg hgs (fun k _ e => hx9 k e), h9, tw.grow (by omega), h.t1, h.t2, ?_⟩
  rw [hm9.block b12 (Nat.lt_of_lt_of_le h.l12 hm.size) (fun e => h.ne e.symm), hm.block b12 h.l12 h.n12]
  exact h.box12
/-- Behind a new twin. -/
theorem DL.twinned (h : DL w z g gs b9 b12 n m R g2 gs2 R2) {g3 gs3 : Nat} (h1 : z.heap.size ≤ g3) (h2 : z.heap.size ≤ gs3) (hb : Both (XX g gs b9 b12) z' g3 gs3 n m R) (hz : Below z.heap.size z z') (h12 : z''.heap[b12]? = some (.cells R 32 (0, 0))) (hm : Mod (fun k => k = b12) z' z'') :
    DL w z'' g gs b9 b12 n m R g3 gs3 R := by
  have hg : g ≠ b12 := fun e => h.n12 (.inl e.symm)
  have hgs : gs ≠ b12 := fun e => h.n12 (.inr e.symm)
  have hx : ∀ k, k = b12 → XX g gs b9 b12 k := fun k e => .inr (.inr (.inr e))
  have hu := h.under hz
  have t1 : ¬ XX g gs b9 b12 g3 := fun e => by have := h.lt _ e; omega
  have t2 : ¬ XX g gs b9 b12 gs3 := fun e => by have := h.lt _ e; omega
  refine ⟨hm.below hu.below (fun k e => h.low k (hx k e)) hu.below.size, h.low, fun k hk => Nat.lt_of_lt_of_le (hu.lt k hk) hm.size, h.n9, h.n12, h.ne, hu.both.kept hm hg hgs (fun k _ e => hx k e), ?_, hb.kept hm (fun e => t1 (hx _ e)) (fun e => t2 (hx _ e)) (fun k _ e => hx k e), t1, t2, h12⟩
  rw [hm.block b9 hu.l9 h.ne]
  exact hu.box9
end

def DoesR (w : World) (g gs b9 b12 n : Nat) (L : Nat) (t i : Value) (wx : World) : Prop :=
  ∃ (k : Nat) (R : Array Value) (g2 gs2 : Nat) (R2 : Array Value), i = .int .i64 k ∧ k ≤ L ∧ t = .pointer (some ⟨g2, 0, none⟩) ∧ Hid (DL w wx g gs b9 b12 n k R g2 gs2 R2)

theorem DL.start {w w1 w2 w3 : World} {n g gs gsr g2 gs2 : Nat} (h1 : w.heap.size ≤ g) (h2 : w.heap.size ≤ gs) (hp : Plat (fun _ => False) w1 g gs (List.replicate n 0) 0 (-1) [] false) (b1 : Below w.heap.size w w1)
    (hl : Lz (fun b => b < w1.heap.size) w2 64 (some ⟨gsr, 0, none⟩) n (flat (List.replicate n 0))) (b2 : Below w1.heap.size w1 w2) (hmax : n ≤ maxLen) {o : Obj} {R0 : Array Value}
    (hR0 : R0 = #[.slice (some ⟨gsr, 0, none⟩) n n, .int .i64 0, .int .i64 (-1), .slice none 0 0, .bool false]) (ho : o = .cells R0 32)
    (h3 : (w2.alloc o).heap.size ≤ g2) (h4 : (w2.alloc o).heap.size ≤ gs2) (ht : Plat (fun _ => False) w3 g2 gs2 (List.replicate n 0) 0 (-1) [] false) (b3 : Below (w2.alloc o).heap.size (w2.alloc o) w3) :
    DL w (w3.alloc o) g gs w2.heap.size w3.heap.size n 0 R0 g2 gs2 R0 := by
  have z : (w2.alloc o).heap.size = w2.heap.size + 1 := by simp
  have zz : (w3.alloc o).heap.size = w3.heap.size + 1 := by simp
  have s1 := b1.size
  have s2 := b2.size
  have s3 := b3.size
  have hlt := hp.lt
  have hltt := ht.lt
  have B3 : Below w.heap.size w w3 := ((b1.trans (b2.mono s1)).alloc (by omega) o).trans (b3.mono (by omega))
  have B2' : Below w2.heap.size w2 w3 := ((Below.refl _ _).alloc (Nat.le_refl _) o).trans (b3.mono (by omega))
  have B3' : Below w3.heap.size w3 (w3.alloc o) := (Below.refl _ _).alloc (Nat.le_refl _) o
  have hlen : (List.replicate n (0 : Int)).length = n := List.length_replicate
  have ref : ∀ W, Below w2.heap.size w2 W → RefAt (XX g gs w2.heap.size w3.heap.size) W (some ⟨gsr, 0, none⟩) n none 0 (List.replicate n 0) [] := fun W hW => by
    refine ⟨?_, Lz.empty, by rw [hlen]; exact Nat.le_refl _, hmax, Nat.le_refl _, by simp [maxLen]⟩
    rw [hlen]
    refine (hl.mono fun k hk hx => ?_).below hW
    rcases hx with rfl | rfl | rfl | rfl
    · exact hlt.1
    · exact hlt.2.1
    · omega
    · omega
  have box9 : (w3.alloc o).heap[w2.heap.size]? = some (.cells R0 32 (0, 0)) := by
    rw [Below.heap_alloc _ _ _ (by omega), b3.block _ (by omega), ← ho]
    exact heap_alloc_new w2 o
  have b12 : (w3.alloc o).heap[w3.heap.size]? = some (.cells R0 32 (0, 0)) := by
    rw [heap_alloc_new w3 o, ho]
  have mk : ∀ (a b : Nat), Plat (fun _ => False) w3 a b (List.replicate n 0) 0 (-1) [] false → Both (XX g gs w2.heap.size w3.heap.size) (w3.alloc o) a b n 0 R0 := fun a b h =>
    ⟨List.replicate n 0, 0, -1, [], false, some ⟨gsr, 0, none⟩, n, -1, none, [], 0, by rw [hR0, hlen]; rfl, ⟨(h.below B3').nil_any, ref _ (B2'.trans (B3'.mono (by omega))), .inr ⟨.inr ⟨by omega, by omega⟩, fun h => absurd h (by omega)⟩, hlen, by omega, by omega, by unfold I64; omega, by unfold I64; omega, by simp, by simp⟩⟩
  refine ⟨B3.alloc (by omega) o, ?_, ?_, ?_, ?_, by omega, mk g gs ?_, box9, mk g2 gs2 ht, ?_, ?_, b12⟩
  · intro k hk
    rcases hk with rfl | rfl | rfl | rfl <;> omega
  · intro k hk
    rcases hk with rfl | rfl | rfl | rfl <;> omega
  · rintro (h | h) <;> omega
  · rintro (h | h) <;> omega
  · exact ((hp.below b2).below ((Below.refl _ _).alloc (Nat.le_refl _) o)).below b3
  · rintro (h | h | h | h) <;> omega
  · rintro (h | h | h | h) <;> omega

set_option maxHeartbeats 8000000 in
set_option maxRecDepth 100000 in
theorem does_main (n : Nat) (A : Option Addr) (fs : List OpV) (c : Nat) (at_ : Int) (w : World) (h : Ops w A fs) (hlb : lightB fs = true) (hn1 : 1 ≤ n) (hn2 : n ≤ 40) (hfl : fs.length ≤ 80) :
    Calls Try.prog 3 #[.int .i64 n, .slice A fs.length c, .int .i64 at_] w fun e w' => e = .returned (.bool true) ∧ Below w.heap.size w w' := by
  have HF := Lib.hid h
  have HLB := Lib.hid hlb
  have LI := Lib.hid (light_any c A fs w h (by omega))
  rw [hlb] at LI
  have d40 : decide ((40 : Int) < (n : Int)) = false := by simp; omega
  have hd40 : ¬ (40 : Int) < (n : Int) := by omega
  have NW := Lib.hid (new_ok (fun _ => False) n w hn1 (by omega))
  have RN := Lib.hid (fun W => refNew_ok n W hn1 (by omega))
  clear h hlb
  go_enter Try.func3, Try.ntmps3
  go_wp2_with (go_at_call 5; refine LI.out.mono ?_; rintro e w0 ⟨rfl, rfl⟩)
  refine NW.out.mono ?_
  rintro e w1 ⟨g, gs, rfl, hg1, hg2, hp, hb1⟩
  have P1 := Lib.hid hp
  have B1 := Lib.hid hb1
  clear hp hb1 NW
  go_wp2_with fail
  refine (RN.out _).mono ?_
  rintro e w2 ⟨gsr, rfl, hg3, hlz, hb2⟩
  have L2 := Lib.hid hlz
  have B2 := Lib.hid hb2
  clear hlz hb2 RN
  go_wp2_with fail
  refine (twin_any (fun _ => False) g gs (List.replicate n 0) 0 (-1) [] false _ ((P1.out.below B2.out).below ((Below.refl _ _).alloc (Nat.le_refl _) _)) (by rw [List.length_replicate]; omega) (by rw [List.length_replicate]; omega) (by simp) (fun _ h => h.elim)).mono ?_
  rintro e w3 ⟨g2, gs2, rfl, hg4, hg5, hpt, hb3⟩
  have ST := Lib.hid (DL.start hg1 hg2 P1.out B1.out L2.out B2.out (by simp only [maxLen]; omega) rfl rfl hg4 hg5 hpt hb3)
  have B9 := Lib.hid (row_one (heap_alloc_new w2 _) hb3 (by simp))
  clear hg4 hg5 hpt hb3 P1 B1 L2 B2 hg3
  go_wp2_with (refine wpList_load_box 48 (.tmp 9) rfl rfl rfl _ rfl _ B9.out rfl ?_)
  generalize w2.heap.size = b9 at *
  generalize w3.heap.size = b12 at *
  clear B9
  go_loopw [11, 13] (fun t i wx => DoesR w g gs b9 b12 n fs.length t i wx) (fun _ i _ => fs.length - (intOf i).toNat)
  case atStart => exact ⟨0, _, g2, gs2, _, rfl, Nat.zero_le _, rfl, ST⟩
  case round =>
    clear ST
    obtain ⟨k, R, g4, gs4, R2, rfl, hk, rfl, WD⟩ := hrel
    obtain ⟨m, hm⟩ : ∃ m : Int, m = (k : Int) := ⟨_, rfl⟩
    rw [← hm] at WD
    have HMK := Lib.hid hm
    have hmb : m ≤ 80 := by omega
    clear hm
    by_cases hlt : k < fs.length
    · obtain ⟨b, off, rfl, hbB, fa, fo⟩ := HF.out.at_ k hlt
      obtain ⟨hl40, hl60⟩ := (lightB_iff.1 HLB.out).2 fs[k] (List.getElem_mem hlt)
      have FA := Lib.hid fa
      have FO := Lib.hid fo
      clear fa fo
      generalize fs[k] = f at *
      by_cases hat : (k : Int) = at_
      · have heq : ((k : Int) == at_) = true := by simpa using hat
        have HAT := Lib.hid hat
        clear hat
        have TW := Lib.hid (twin_both WD.out.both (by omega) (by omega) WD.out.lt)
        go_wp2_with (first
          | (go_at_call 9; refine TW.out.mono ?_; rintro e w1 ⟨g3, gs3, rfl, h3, h4, hbt, hb1⟩; have WU := Lib.hid (WD.out.under hb1); have HBT := Lib.hid hbt; have HB1 := Lib.hid hb1; clear hbt hb1)
          | refine wpList_load_box 60 (.tmp 9) rfl rfl rfl b9 rfl R WU.out.box9 WU.out.both.size ?_
          | (refine wpList_store_box (.tmp 12) (.tmp 60) rfl rfl rfl b12 rfl R rfl R2 WU.out.box12 WU.out.twin.size WU.out.both.size WU.out.both.one ?_; intro w4 h12 hm12; have WT := Lib.hid (WD.out.twinned h3 h4 HBT.out HB1.out h12 hm12); clear h12 hm12 h3 h4 TW WU HBT HB1 WD; have WD := WT; clear WT))
        clear heq
        refine wp_region_held_drew (S := fun z => Below w.heap.size w z) (by kernel_rfl) WD.out.below.drew (fun hS => ?_)
        refine takeH (i := 0) (d := 62) (v := ?vraa0) rfl (by kernel_rfl) (by kernel_rfl) (by kernel_rfl) (fun _ _ _ h => h) rfl (by rfl) ?yraa0 hS ?rraa0
        case yraa0 => (intro wz hz; go_simp <;> with_reducible rfl)
        simp only [List.setIfInBounds_toArray, List.set_cons_zero, List.set_cons_succ]
        refine takeH (i := 2) (d := 64) (v := ?vraa2) rfl (by kernel_rfl) (by kernel_rfl) (by kernel_rfl) (fun _ _ _ h => h) rfl (by rfl) ?yraa2 hS ?rraa2
        case yraa2 => (intro wz hz; go_simp <;> with_reducible rfl)
        simp only [List.setIfInBounds_toArray, List.set_cons_zero, List.set_cons_succ]
        refine takeH (i := 3) (d := 65) (v := ?vraa3) rfl (by kernel_rfl) (by kernel_rfl) (by kernel_rfl) (fun _ _ _ h => h) rfl (by rfl) ?yraa3 hS ?rraa3
        case yraa3 => (intro wz hz; go_simp <;> with_reducible rfl)
        simp only [List.setIfInBounds_toArray, List.set_cons_zero, List.set_cons_succ]
        refine takeH (i := 4) (d := 66) (v := ?vraa4) rfl (by kernel_rfl) (by kernel_rfl) (by kernel_rfl) (fun _ _ _ h => h) rfl (by rfl) ?yraa4 hS ?rraa4
        case yraa4 => (intro wz hz; go_simp <;> with_reducible rfl)
        simp only [List.setIfInBounds_toArray, List.set_cons_zero, List.set_cons_succ]
        refine takeH (i := 5) (d := 67) (v := .agg #[.int .i64 f.kd, .int .i64 f.p, .int .i64 f.N, .slice f.B f.l.length f.cB, .slice f.E f.el.length f.e2]) rfl (by kernel_rfl) (by kernel_rfl) (by kernel_rfl) (fun _ _ _ h => h) rfl (by rfl) ?yraa5 hS ?rraa5
        case yraa5 => (intro wz hz; exact exec_op (.tmp 66) rfl b off k rfl f (FA.out.under hz hbB))
        simp only [List.setIfInBounds_toArray, List.set_cons_zero, List.set_cons_succ]
        refine wpAnyH_ready (rs := [1]) (by kernel_rfl) (by simp) ?_
        refine AllReadyH.cons rfl (fun K0 hK => ?_) AllReadyH.nil
        rw [if_pos (by rfl)]
        refine wp_load_box 63 (.tmp 9) rfl rfl b9 rfl R WD.out.box9 WD.out.both.size ?_
        simp only [List.setIfInBounds_toArray, List.set_cons_zero, List.set_cons_succ]
        refine hK.out _ _ (hS) (fun hT => ?_)
        clear hK hS
        have hS := hT
        clear hT
        refine wpAnyH_ready (rs := [6]) (by kernel_rfl) (by simp) ?_
        refine AllReadyH.cons rfl (fun K0 hK => ?_) AllReadyH.nil
        go_simp
        refine (do_sync (XX g gs b9 b12) g gs n m _ R f.kd f.p f.N f.B f.l f.cB f.E f.el f.e2 (WD.out.both.kept (Y := fun _ => False) (Mod.refl _ _).drew (fun h => h) (fun h => h) (fun _ _ h => h.elim)) (FO.out.act hS WD.out.low (by omega) (by omega)) (by omega) (by omega) (own_xx g gs b9 b12) WD.out.lt).mono ?_
        rintro e w2 ⟨R3, rfl, hbo, hmo⟩
        have BO := Lib.hid hbo
        have MO := Lib.hid hmo
        clear hbo hmo
        refine hK.out _ _ (WD.out.low_mod MO.out) (fun hT => ?_)
        clear hK hS
        have hS := hT
        clear hT
        refine takeH (i := 7) (d := 61) (v := ?vrab7) rfl (by kernel_rfl) (by kernel_rfl) (by kernel_rfl) (fun _ _ _ h => h) rfl (by rfl) ?yrab7 hS ?rrab7
        case yrab7 => (intro wz hz; go_simp <;> with_reducible rfl)
        simp only [List.setIfInBounds_toArray, List.set_cons_zero, List.set_cons_succ]
        refine takeH (i := 8) (d := 69) (v := ?vrab8) rfl (by kernel_rfl) (by kernel_rfl) (by kernel_rfl) (fun _ _ _ h => h) rfl (by rfl) ?yrab8 hS ?rrab8
        case yrab8 => (intro wz hz; go_simp <;> with_reducible rfl)
        simp only [List.setIfInBounds_toArray, List.set_cons_zero, List.set_cons_succ]
        refine takeH (i := 9) (d := 70) (v := ?vrab9) rfl (by kernel_rfl) (by kernel_rfl) (by kernel_rfl) (fun _ _ _ h => h) rfl (by rfl) ?yrab9 hS ?rrab9
        case yrab9 => (intro wz hz; go_simp <;> with_reducible rfl)
        simp only [List.setIfInBounds_toArray, List.set_cons_zero, List.set_cons_succ]
        refine wpAnyH_ready (rs := [10]) (by kernel_rfl) (by simp) ?_
        refine AllReadyH.cons rfl (fun K0 hK => ?_) AllReadyH.nil
        rw [if_pos (by rfl)]
        refine wp_store_box (.tmp 9) (.tmp 69) rfl rfl b9 rfl R3 rfl R (WD.out.row9 MO.out) WD.out.both.size BO.out.size BO.out.one ?_
        intro w3 h9 hm9
        have WE := Lib.hid (WD.out.did BO.out MO.out h9 hm9)
        clear h9 hm9
        refine hK.out _ _ (WE.out.below) (fun hT => ?_)
        clear hK hS
        have hS := hT
        clear hT
        refine takeH (i := 11) (d := 14) (v := ?vrac11) rfl (by kernel_rfl) (by kernel_rfl) (by kernel_rfl) (fun _ _ _ h => h) rfl (by rfl) ?yrac11 hS ?rrac11
        case yrac11 => (intro wz hz; go_simp <;> with_reducible rfl)
        simp only [List.setIfInBounds_toArray, List.set_cons_zero, List.set_cons_succ]
        refine wpAnyH_done (by kernel_rfl) ?_ _
        clear hS
        have HMK1 : Hid (m + 1 = ((k + 1 : Nat) : Int)) := (by have := HMK.out; omega : m + 1 = ((k + 1 : Nat) : Int))
        rw [HMK1.out] at WE
        go_wp2_with (first
          | refine wpList_load_boxG 75 (.tmp 9) rfl rfl (by rfl) b9 rfl R3 WE.out.box9 WE.out.both.size ?_
          | (go_at_call 11; refine (agree_both WE.out.both (by omega)).mono ?_; rintro e w5 ⟨rfl, hb5⟩; have WF := Lib.hid (WE.out.under hb5); clear hb5))
        exact ⟨⟨k + 1, R3, _, _, _, by go_num, by omega, rfl, WF⟩, by simp [intOf]; omega⟩
      · have heq : ((k : Int) == at_) = false := by simpa using hat
        go_wp2_with fail
        clear heq
        refine wp_region_held_drew (S := fun z => Below w.heap.size w z) (by kernel_rfl) WD.out.below.drew (fun hS => ?_)
        refine takeH (i := 0) (d := 62) (v := ?vrba0) rfl (by kernel_rfl) (by kernel_rfl) (by kernel_rfl) (fun _ _ _ h => h) rfl (by rfl) ?yrba0 hS ?rrba0
        case yrba0 => (intro wz hz; go_simp <;> with_reducible rfl)
        simp only [List.setIfInBounds_toArray, List.set_cons_zero, List.set_cons_succ]
        refine takeH (i := 2) (d := 64) (v := ?vrba2) rfl (by kernel_rfl) (by kernel_rfl) (by kernel_rfl) (fun _ _ _ h => h) rfl (by rfl) ?yrba2 hS ?rrba2
        case yrba2 => (intro wz hz; go_simp <;> with_reducible rfl)
        simp only [List.setIfInBounds_toArray, List.set_cons_zero, List.set_cons_succ]
        refine takeH (i := 3) (d := 65) (v := ?vrba3) rfl (by kernel_rfl) (by kernel_rfl) (by kernel_rfl) (fun _ _ _ h => h) rfl (by rfl) ?yrba3 hS ?rrba3
        case yrba3 => (intro wz hz; go_simp <;> with_reducible rfl)
        simp only [List.setIfInBounds_toArray, List.set_cons_zero, List.set_cons_succ]
        refine takeH (i := 4) (d := 66) (v := ?vrba4) rfl (by kernel_rfl) (by kernel_rfl) (by kernel_rfl) (fun _ _ _ h => h) rfl (by rfl) ?yrba4 hS ?rrba4
        case yrba4 => (intro wz hz; go_simp <;> with_reducible rfl)
        simp only [List.setIfInBounds_toArray, List.set_cons_zero, List.set_cons_succ]
        refine takeH (i := 5) (d := 67) (v := .agg #[.int .i64 f.kd, .int .i64 f.p, .int .i64 f.N, .slice f.B f.l.length f.cB, .slice f.E f.el.length f.e2]) rfl (by kernel_rfl) (by kernel_rfl) (by kernel_rfl) (fun _ _ _ h => h) rfl (by rfl) ?yrba5 hS ?rrba5
        case yrba5 => (intro wz hz; exact exec_op (.tmp 66) rfl b off k rfl f (FA.out.under hz hbB))
        simp only [List.setIfInBounds_toArray, List.set_cons_zero, List.set_cons_succ]
        refine wpAnyH_ready (rs := [1]) (by kernel_rfl) (by simp) ?_
        refine AllReadyH.cons rfl (fun K0 hK => ?_) AllReadyH.nil
        rw [if_pos (by rfl)]
        refine wp_load_box 63 (.tmp 9) rfl rfl b9 rfl R WD.out.box9 WD.out.both.size ?_
        simp only [List.setIfInBounds_toArray, List.set_cons_zero, List.set_cons_succ]
        refine hK.out _ _ (hS) (fun hT => ?_)
        clear hK hS
        have hS := hT
        clear hT
        refine wpAnyH_ready (rs := [6]) (by kernel_rfl) (by simp) ?_
        refine AllReadyH.cons rfl (fun K0 hK => ?_) AllReadyH.nil
        go_simp
        refine (do_sync (XX g gs b9 b12) g gs n m _ R f.kd f.p f.N f.B f.l f.cB f.E f.el f.e2 (WD.out.both.kept (Y := fun _ => False) (Mod.refl _ _).drew (fun h => h) (fun h => h) (fun _ _ h => h.elim)) (FO.out.act hS WD.out.low (by omega) (by omega)) (by omega) (by omega) (own_xx g gs b9 b12) WD.out.lt).mono ?_
        rintro e w2 ⟨R3, rfl, hbo, hmo⟩
        have BO := Lib.hid hbo
        have MO := Lib.hid hmo
        clear hbo hmo
        refine hK.out _ _ (WD.out.low_mod MO.out) (fun hT => ?_)
        clear hK hS
        have hS := hT
        clear hT
        refine takeH (i := 7) (d := 61) (v := ?vrbb7) rfl (by kernel_rfl) (by kernel_rfl) (by kernel_rfl) (fun _ _ _ h => h) rfl (by rfl) ?yrbb7 hS ?rrbb7
        case yrbb7 => (intro wz hz; go_simp <;> with_reducible rfl)
        simp only [List.setIfInBounds_toArray, List.set_cons_zero, List.set_cons_succ]
        refine takeH (i := 8) (d := 69) (v := ?vrbb8) rfl (by kernel_rfl) (by kernel_rfl) (by kernel_rfl) (fun _ _ _ h => h) rfl (by rfl) ?yrbb8 hS ?rrbb8
        case yrbb8 => (intro wz hz; go_simp <;> with_reducible rfl)
        simp only [List.setIfInBounds_toArray, List.set_cons_zero, List.set_cons_succ]
        refine takeH (i := 9) (d := 70) (v := ?vrbb9) rfl (by kernel_rfl) (by kernel_rfl) (by kernel_rfl) (fun _ _ _ h => h) rfl (by rfl) ?yrbb9 hS ?rrbb9
        case yrbb9 => (intro wz hz; go_simp <;> with_reducible rfl)
        simp only [List.setIfInBounds_toArray, List.set_cons_zero, List.set_cons_succ]
        refine wpAnyH_ready (rs := [10]) (by kernel_rfl) (by simp) ?_
        refine AllReadyH.cons rfl (fun K0 hK => ?_) AllReadyH.nil
        rw [if_pos (by rfl)]
        refine wp_store_box (.tmp 9) (.tmp 69) rfl rfl b9 rfl R3 rfl R (WD.out.row9 MO.out) WD.out.both.size BO.out.size BO.out.one ?_
        intro w3 h9 hm9
        have WE := Lib.hid (WD.out.did BO.out MO.out h9 hm9)
        clear h9 hm9
        refine hK.out _ _ (WE.out.below) (fun hT => ?_)
        clear hK hS
        have hS := hT
        clear hT
        refine takeH (i := 11) (d := 14) (v := ?vrbc11) rfl (by kernel_rfl) (by kernel_rfl) (by kernel_rfl) (fun _ _ _ h => h) rfl (by rfl) ?yrbc11 hS ?rrbc11
        case yrbc11 => (intro wz hz; go_simp <;> with_reducible rfl)
        simp only [List.setIfInBounds_toArray, List.set_cons_zero, List.set_cons_succ]
        refine wpAnyH_done (by kernel_rfl) ?_ _
        clear hS
        have HMK1 : Hid (m + 1 = ((k + 1 : Nat) : Int)) := (by have := HMK.out; omega : m + 1 = ((k + 1 : Nat) : Int))
        rw [HMK1.out] at WE
        go_wp2_with (first
          | refine wpList_load_boxG 75 (.tmp 9) rfl rfl (by rfl) b9 rfl R3 WE.out.box9 WE.out.both.size ?_
          | (go_at_call 11; refine (agree_both WE.out.both (by omega)).mono ?_; rintro e w5 ⟨rfl, hb5⟩; have WF := Lib.hid (WE.out.under hb5); clear hb5))
        exact ⟨⟨k + 1, R3, _, _, _, by go_num, by omega, rfl, WF⟩, by simp [intOf]; omega⟩
    · go_wp2_with (first
        | refine wpList_load_boxG 83 (.tmp 12) rfl rfl (by rfl) b12 rfl R2 WD.out.box12 WD.out.twin.size ?_
        | (go_at_call 11; refine (agree_both WD.out.twin (by omega)).mono ?_; rintro e w5 ⟨rfl, hb5⟩; have HB5 := Lib.hid (WD.out.below.trans (hb5.mono WD.out.below.size)); clear hb5)
        | (go_at_call 6; refine (works_any _).mono ?_; rintro e w6 ⟨rfl, hb6⟩; have HB6 := Lib.hid (HB5.out.trans (hb6.mono HB5.out.size)); clear hb6))
      go_ret
      exact ⟨rfl, HB6.out⟩
end Go.Proofs.Ytggcfbglfmcdmaa
