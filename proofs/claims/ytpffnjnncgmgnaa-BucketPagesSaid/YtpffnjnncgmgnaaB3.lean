/-
  slices.IndexFunc over records, Find, Live; the document's Find and Live.
  Conditions: at most 100000 records.
-/
import Derived.Test.YtpffnjnncgmgnaaB2
import Derived.Shelf.Abstract
namespace Go.Proofs.Ytpffnjnncgmgnaa
open Go.RowKit
attribute [local go_sem] Oper.semAt_some
set_option maxRecDepth 20000

/-- Where the first one stands that p takes; -1: there is none. -/
def idxP (p : Rc → Bool) (l : List Rc) : Int := match l.findIdx? p with | some k => (k : Int) | none => -1
theorem idxP_at {p : Rc → Bool} {l : List Rc} {k : Nat} (hk : k < l.length) (h : ∀ (j : Nat) (hj : j < l.length), j < k → p l[j] = false) (hp : p l[k] = true) : idxP p l = (k : Int) := by
  unfold idxP
  rw [(List.findIdx?_eq_some_iff_getElem).2 ⟨hk, hp, fun j hj => by rw [h j (by omega) hj]; decide⟩]
theorem idxP_none {p : Rc → Bool} {l : List Rc} (h : ∀ (j : Nat) (hj : j < l.length), j < l.length → p l[j] = false) : idxP p l = -1 := by
  unfold idxP
  rw [(List.findIdx?_eq_none_iff).2 fun x hx => by obtain ⟨j, hj, rfl⟩ := List.getElem_of_mem hx; exact h j hj hj]
/-- A function that answers p of each record. -/
def PredF (f : Nat) (lb : Array Value) (p : Rc → Bool) (w : World) : Prop := ∀ (W : World) (r : Rc), Below w.heap.size w W → Calls Try.prog f (#[.agg (rcA r)] ++ lb) W (fun e z => e = .returned (.bool (p r)) ∧ Below W.heap.size W z)
/-- A value comes back; nothing that was there has turned. -/
def RetV (w : World) (v : Value) (e : Ending) (z : World) : Prop := e = .returned v ∧ Below w.heap.size w z
theorem wpList_load_rc {ops : Array Oper} {rest : List Oper} {op : Oper} {a : Act} {w : World} {Q : Exit → Act → World → Prop} (d : Nat) (x : Operand) (hop : op.dst = some d) (hgd : op.guard = none) (ho : op.op = .load 52 x) (g o : Nat) (hx : a.eval x = .pointer (some ⟨g, o, none⟩)) (r : Rc)
    (hc : w.rangeAt g o (rcL r)) (h : wpList Try.prog ops Q rest (a.put (some d) (.agg (rcA r))) w) : wpList Try.prog ops Q (op :: rest) a w := by
  obtain ⟨ds, h1, h2, h3⟩ := str25
  refine wpList_load_mid hgd 52 x ho g o hx (rcL r) ds hc h1 h2 h3 ?_
  rw [hop]
  exact h
set_option maxHeartbeats 1600000 in
theorem idxR_any (f : Nat) (lb : Array Value) (p : Rc → Bool) (eg : ∀ args w, (callFunc f args).run Try.prog w = .ok (.enter f args) w) (A : Option Addr) (n c : Nat) (l : List Rc) (w : World) (hp : PredF f lb p w) (h : Lz NoX w 6 A n (rcsL l)) (hn : n ≤ 100000) :
    Calls Try.prog 30 #[.slice A n c, .func (.func f) #[] lb] w (RetV w (.int .i64 (idxP p l))) := by
  have HLN := Lib.hid h.rclen
  have HL := Lib.hid h
  have HP := Lib.hid hp
  clear h hp
  go_enter Try.func30, Try.ntmps30
  go_wp2_with fail
  go_loopw [8] (fun vi wr => ∃ k : Nat, k ≤ n ∧ vi = .int .i64 (k : Int) ∧ Hid (Below w.heap.size w wr) ∧ Hid (∀ (j : Nat) (hj : j < l.length), j < k → p l[j] = false)) (fun i _ => n - (intOf i).toNat)
  case atStart => exact ⟨0, Nat.zero_le _, by go_num, Lib.hid (Below.refl _ w), Lib.hid (fun _ _ h => absurd h (Nat.not_lt_zero _))⟩
  case round =>
    obtain ⟨k, hk, rfl, HB, HN⟩ := hrel
    by_cases hlt : k < n
    · obtain ⟨g, o, hl, rfl, hb, hc⟩ := HL.out.rc hlt
      obtain ⟨r, hr⟩ : ∃ r, l[k] = r := ⟨_, rfl⟩
      rw [hr] at hc
      have R1 : Hid (wr.rangeAt g (o + k * 6) (rcL r)) := pl_rangeAt_block hc (HB.out.block g hb)
      obtain ⟨b, hbv⟩ : ∃ b, p r = b := ⟨_, rfl⟩
      have HC := Lib.hid (HP.out wr r HB.out)
      rw [hbv] at HC
      have HBV : Hid (p l[k] = b) := by show _ = _; rw [hr]; exact hbv
      clear hc hr hbv
      cases b
      · go_wp2_with (first
          | refine wpList_load_rc 15 (.tmp 14) rfl rfl rfl g (o + k * 6) rfl r R1.out ?_
          | (go_at_fn f; refine HC.out.mono ?_; rintro e z ⟨rfl, hb2⟩; have HB2 := Lib.hid (HB.out.trans (hb2.mono HB.out.size)); clear hb2))
        exact ⟨⟨k + 1, by omega, by go_num, HB2, Lib.hid fun j hj hjk => by
          by_cases e : j = k
          · subst e
            exact HBV.out
          · exact HN.out j hj (by omega)⟩, by simp [intOf]; omega⟩
      · have HI := Lib.hid (idxP_at hl HN.out HBV.out)
        go_wp2_with (first
          | refine wpList_load_rc 15 (.tmp 14) rfl rfl rfl g (o + k * 6) rfl r R1.out ?_
          | (go_at_fn f; refine HC.out.mono ?_; rintro e z ⟨rfl, hb2⟩; have HB2 := Lib.hid (HB.out.trans (hb2.mono HB.out.size)); clear hb2))
        go_ret
        exact ⟨by rw [HI.out]; rfl, HB2.out⟩
    · obtain rfl : k = n := by omega
      have HI : Hid (idxP p l = -1) := idxP_none fun j hj _ => HN.out j hj (by have := HLN.out; omega)
      go_wp2_with fail
      go_ret
      exact ⟨by rw [HI.out]; first | rfl | skip, HB.out⟩
theorem rc_cells {W : World} {g : Nat} {r : Rc} (h : At W g 52 (rcA r)) : W.cell? ⟨g, 0, none⟩ = some (.int .u64 (r.id : Int)) ∧ W.cell? ⟨g, 1, none⟩ = some (.int .u64 (r.key : Int)) ∧ W.cell? ⟨g, 4, none⟩ = some (.string (strOf r.val)) ∧ W.cell? ⟨g, 5, none⟩ = some (.bool r.ghost) := ⟨h.cell 0, h.cell 1, h.cell 4, h.cell 5⟩
theorem nat_beqN (a b : Nat) : ((a : Int) == (b : Int)) = (a == b) := nat_beq a b
set_option maxHeartbeats 400000 in
theorem find1_any (r : Rc) (id g : Nat) (w : World) (h : w.cell? ⟨g, 0, none⟩ = some (.int .u64 (id : Int))) : Calls Try.prog 31 #[.agg (rcA r), .pointer (some ⟨g, 0, none⟩)] w (RetV w (.bool (r.id == id))) := by
  obtain ⟨c0, _, _, _⟩ := rc_cells (At.new w 52 (rcA r))
  have c9 : (w.alloc (.cells (rcA r) 52)).cell? ⟨g, 0, none⟩ = some (.int .u64 (id : Int)) := by rw [World.cell?_alloc_lt _ _ _ (World.block_lt_of_cell? w _ h)]; exact h
  have HB : Hid (Below w.heap.size w (w.alloc (.cells (rcA r) 52))) := (Below.refl _ w).alloc (Nat.le_refl _) _
  have e := nat_beqN r.id id
  clear h
  go_enter Try.func31, Try.ntmps31
  go_wp2_with fail
  go_ret
  exact ⟨by first | rfl | rw [e], HB.out⟩
/-- What Live looks for. -/
def isLive (key : Nat) (r : Rc) : Bool := r.key == key && !r.ghost
set_option maxHeartbeats 800000 in
theorem live1_any (r : Rc) (key g : Nat) (w : World) (h : w.cell? ⟨g, 0, none⟩ = some (.int .u64 (key : Int))) : Calls Try.prog 32 #[.agg (rcA r), .pointer (some ⟨g, 0, none⟩)] w (RetV w (.bool (isLive key r))) := by
  obtain ⟨_, c1, _, c5⟩ := rc_cells (At.new w 52 (rcA r))
  have c9 : (w.alloc (.cells (rcA r) 52)).cell? ⟨g, 0, none⟩ = some (.int .u64 (key : Int)) := by rw [World.cell?_alloc_lt _ _ _ (World.block_lt_of_cell? w _ h)]; exact h
  have HB : Hid (Below w.heap.size w (w.alloc (.cells (rcA r) 52))) := (Below.refl _ w).alloc (Nat.le_refl _) _
  have e := nat_beqN r.key key
  obtain ⟨q, hq⟩ : ∃ q, (r.key == key) = q := ⟨_, rfl⟩
  rw [hq] at e
  have HV : Hid (isLive key r = (q && !r.ghost)) := by show _ = _; unfold isLive; rw [hq]
  clear h hq
  cases q
  · go_enter Try.func32, Try.ntmps32
    go_wp2_with fail
    go_ret
    exact ⟨by rw [HV.out]; rfl, HB.out⟩
  · go_enter Try.func32, Try.ntmps32
    go_wp2_with fail
    go_ret
    exact ⟨by rw [HV.out]; first | rfl | simp, HB.out⟩
theorem ent_find1 : ∀ args w, (callFunc 31 args).run Try.prog w = .ok (.enter 31 args) w := enters_of Try.func31 (by kernel_rfl) rfl
theorem ent_live1 : ∀ args w, (callFunc 32 args).run Try.prog w = .ok (.enter 32 args) w := enters_of Try.func32 (by kernel_rfl) rfl
set_option maxHeartbeats 800000 in
theorem Find_any (d : Int) (PA : Option Addr) (pn pc : Nat) (RA : Option Addr) (rn rc : Nat) (rs : List Rc) (id : Nat) (w : World) (h : Lz NoX w 6 RA rn (rcsL rs)) (hrn : rn ≤ 100000) :
    Calls Try.prog 12 #[.agg (bkA d (.slice PA pn pc) (.slice RA rn rc)), .int .u64 (id : Int)] w (RetV w (.int .i64 (idxP (fun r => r.id == id) rs))) := by
  have hA := (At.new w 29 (bkA d (.slice PA pn pc) (.slice RA rn rc))).alloc (.cells #[.int .u64 (id : Int)] 23)
  have hI := At.new (w.alloc (.cells (bkA d (.slice PA pn pc) (.slice RA rn rc)) 29)) 23 #[.int .u64 (id : Int)]
  rw [World.size_alloc] at hI
  have HB : Hid (Below w.heap.size w ((w.alloc (.cells (bkA d (.slice PA pn pc) (.slice RA rn rc)) 29)).alloc (.cells #[.int .u64 (id : Int)] 23))) := ((Below.refl _ w).alloc (Nat.le_refl _) _).alloc (by simp) _
  have HL := Lib.hid h
  have HI := Lib.hid hI
  have HA := Lib.hid hA
  have hmf : ∀ (fn : Fn) (first cap : Array Value) (w : World), (Instr.makeFunc fn first cap).run Try.prog w = .ok (.func fn first cap) w := fun _ _ _ _ => rfl
  clear h hA hI
  go_enter Try.func12, Try.ntmps12
  go_upto_region 1 with fail
  generalize ((w.alloc (.cells (bkA d (.slice PA pn pc) (.slice RA rn rc)) 29)).alloc (.cells #[.int .u64 (id : Int)] 23)) = w2 at HB HI HA ⊢
  have q2 : w2.cell? ⟨w.heap.size, 2, none⟩ = some (.slice RA rn rc) := HA.out.cell 2
  have HP : Hid (PredF 31 #[.pointer (some ⟨w.heap.size + 1, 0, none⟩)] (fun r => r.id == id) w2) := fun W r hW => find1_any r id (w.heap.size + 1) W ((HI.out.under hW HI.out.lt).cell 0)
  go_wp2_with (go_at_call 30; refine (idxR_any 31 _ (fun r => r.id == id) ent_find1 RA rn rc rs w2 HP.out (HL.out.below HB.out) hrn).mono ?_; rintro e z ⟨rfl, hz⟩; have HZ := Lib.hid (HB.out.trans (hz.mono HB.out.size)); clear hz)
  go_ret
  exact ⟨rfl, HZ.out⟩

set_option maxHeartbeats 800000 in
theorem Live_any (d : Int) (PA : Option Addr) (pn pc : Nat) (RA : Option Addr) (rn rc : Nat) (rs : List Rc) (key : Nat) (w : World) (h : Lz NoX w 6 RA rn (rcsL rs)) (hrn : rn ≤ 100000) :
    Calls Try.prog 14 #[.agg (bkA d (.slice PA pn pc) (.slice RA rn rc)), .int .u64 (key : Int)] w (RetV w (.int .i64 (idxP (isLive key) rs))) := by
  have hA := (At.new w 29 (bkA d (.slice PA pn pc) (.slice RA rn rc))).alloc (.cells #[.int .u64 (key : Int)] 23)
  have hI := At.new (w.alloc (.cells (bkA d (.slice PA pn pc) (.slice RA rn rc)) 29)) 23 #[.int .u64 (key : Int)]
  rw [World.size_alloc] at hI
  have HB : Hid (Below w.heap.size w ((w.alloc (.cells (bkA d (.slice PA pn pc) (.slice RA rn rc)) 29)).alloc (.cells #[.int .u64 (key : Int)] 23))) := ((Below.refl _ w).alloc (Nat.le_refl _) _).alloc (by simp) _
  have HL := Lib.hid h
  have HI := Lib.hid hI
  have HA := Lib.hid hA
  have hmf : ∀ (fn : Fn) (first cap : Array Value) (w : World), (Instr.makeFunc fn first cap).run Try.prog w = .ok (.func fn first cap) w := fun _ _ _ _ => rfl
  clear h hA hI
  go_enter Try.func14, Try.ntmps14
  go_upto_region 1 with fail
  generalize ((w.alloc (.cells (bkA d (.slice PA pn pc) (.slice RA rn rc)) 29)).alloc (.cells #[.int .u64 (key : Int)] 23)) = w2 at HB HI HA ⊢
  have q2 : w2.cell? ⟨w.heap.size, 2, none⟩ = some (.slice RA rn rc) := HA.out.cell 2
  have HP : Hid (PredF 32 #[.pointer (some ⟨w.heap.size + 1, 0, none⟩)] (isLive key) w2) := fun W r hW => live1_any r key (w.heap.size + 1) W ((HI.out.under hW HI.out.lt).cell 0)
  go_wp2_with (go_at_call 30; refine (idxR_any 32 _ (isLive key) ent_live1 RA rn rc rs w2 HP.out (HL.out.below HB.out) hrn).mono ?_; rintro e z ⟨rfl, hz⟩; have HZ := Lib.hid (HB.out.trans (hz.mono HB.out.size)); clear hz)
  go_ret
  exact ⟨rfl, HZ.out⟩

end Go.Proofs.Ytpffnjnncgmgnaa
