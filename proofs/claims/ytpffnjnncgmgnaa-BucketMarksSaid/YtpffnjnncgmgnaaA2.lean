/-
  Walks: putNumbers, entry.Rec and the reference's Rec.
  Conditions: a value of at most 15 bytes; at most 1000 numbers behind at most 10000 bytes.
-/
import Derived.Test.YtpffnjnncgmgnaaE1
import Derived.OwnWalk
namespace Go.Proofs.Ytpffnjnncgmgnaa
open Go.RowKit
set_option maxRecDepth 8000

/-- Numbers as the cells of a []uint64. -/
def UC (l : List Nat) : List Value := l.map fun n : Nat => Value.int .u64 (n : Int)
theorem UC_length (l : List Nat) : (UC l).length = l.length := by simp [UC]
theorem UC_append (l m : List Nat) : UC (l ++ m) = UC l ++ UC m := by simp [UC]
theorem UC_get (l : List Nat) (k : Nat) (h : k < l.length) : (UC l)[k]? = some (.int .u64 (l[k] : Nat)) := by simp [UC, h]
theorem UC_one (l : List Nat) : ∀ u ∈ UC l, u.oneCell' = true := by
  intro u hu
  obtain ⟨b, _, rfl⟩ := List.mem_map.1 hu
  rfl
theorem take_snocN (l : List Nat) (k : Nat) (h : k < l.length) : l.take (k + 1) = l.take k ++ [l[k]] := by
  rw [List.take_succ_eq_append_getElem h]
theorem lies_new' (w : World) (cs : List Value) (t : TypeId) (n : Nat) (hn : cs.length = n) : Lies (w.alloc (.cells cs.toArray t)) (w.heap.size + 1) 1 (some ⟨w.heap.size, 0, none⟩) n cs := by
  subst hn
  refine ⟨by simp, fun _ => ⟨_, rfl, Nat.lt_succ_self _, fun j u hu => ?_⟩⟩
  have hadd : (⟨w.heap.size, 0, none⟩ : Addr).add j = ⟨w.heap.size, j, none⟩ := by unfold Addr.add; split <;> simp_all
  rw [hadd, cell_of_row _ w.heap.size j cs.toArray t (0, 0) (heap_alloc_new w _)]
  simpa using hu

section
variable {P : Program} (w : World)
/-- append(v, x...), and where the row lies behind it. -/
theorem run_append_lies2 (base : Nat) (t ty e : TypeId) (i : TypeInfo) (z : Value) (size bytes : Nat) (ht : P.underlying t = some (.slice e)) (hi : P.info? e = some i) (hz : i.zero = some z)
    (hsize : i.size = size) (hby : i.bytes = bytes) (hzs : z.cells.size = size) (hsz : 0 < size)
    (v : Value) (n : Nat) (xs : List Value) (hown : w.ownsRow base e size v n xs)
    (B : Nat) (A : Option Addr) (m c : Nat) (news : List Value) (hr : Lies w B size A m news) (h1 : ∀ u ∈ news, u.oneCell' = true) (hm : 0 < m)
    (h63 : n + m ≤ maxLen) (hbytes : (n + m) * bytes ≤ 140737488355328) (hbase : base ≤ w.heap.size) :
    ∃ v' w', (Builtin.append_ #[t, t] ty #[v, .slice A m c]).run P w = .ok v' w' ∧ w'.ownsRow base e size v' (n + m) (xs ++ news) ∧ w.grownBy w' v.ownBlock ∧ (v'.ownBlock = v.ownBlock ∨ v'.ownBlock = some w.heap.size) := by
  obtain ⟨a, rfl, _, hx⟩ := hr.spot hm
  obtain ⟨v', w', h2, h3, h4, _, h5⟩ := run_append_own_at (P := P) w base t ty e i z size bytes ht hi hz hsize hby hzs hsz v n xs hown a m c news hr.len hx h1 h63 hbytes hbase
  exact ⟨v', w', h2, h3, h4, h5⟩
theorem wpList_app2 {ops : Array Oper} {rest : List Oper} {o : Oper} {a : Act} {Q : Exit → Act → World → Prop} (hgd : o.guard = none) (s x : Operand) (t : TypeId)
    (ho : o.op = .call { callee := .builtin .append, args := #[s, x], argTypes := #[t, t] })
    (base : Nat) (e : TypeId) (i : TypeInfo) (z : Value) (size bytes : Nat) (ht : P.underlying t = some (.slice e)) (hi : P.info? e = some i) (hz : i.zero = some z)
    (hsize : i.size = size) (hby : i.bytes = bytes) (hzs : z.cells.size = size) (hsz : 0 < size)
    (v : Value) (n : Nat) (xs : List Value) (hs : a.eval s = v) (hown : w.ownsRow base e size v n xs)
    (B : Nat) (A : Option Addr) (m c : Nat) (news : List Value) (hx : a.eval x = .slice A m c) (hr : Lies w B size A m news) (h1 : ∀ u ∈ news, u.oneCell' = true) (hm : 0 < m)
    (h63 : n + m ≤ maxLen) (hbytes : (n + m) * bytes ≤ 140737488355328) (hbase : base ≤ w.heap.size)
    (h : ∀ v' w', w'.ownsRow base e size v' (n + m) (xs ++ news) → w.grownBy w' v.ownBlock → (v'.ownBlock = v.ownBlock ∨ v'.ownBlock = some w.heap.size) → wpList P ops Q rest (a.put o.dst v') w') : wpList P ops Q (o :: rest) a w := by
  obtain ⟨v', w', hrun, h2, h3, h4⟩ := run_append_lies2 (P := P) w base t o.type e i z size bytes ht hi hz hsize hby hzs hsz v n xs hown B A m c news hr h1 hm h63 hbytes hbase
  exact Lib.wpList_append_run w hgd s x t t ho v _ hs hx v' w' hrun (h v' w' h2 h3 h4)
end

theorem u64_info : (Try.prog.info? 23).map (fun i => (i.zero, i.size, i.bytes)) = some (some (.int .u64 0), 1, 8) := by kernel_rfl

/-- A slice in a block that is not v's own. -/
def Off (n : Nat) (v : Value) (A : Option Addr) : Prop := 0 < n → ∀ k a, v.ownBlock = some k → A = some a → a.block ≠ k
theorem Lies.grown {w w' : World} {B size n : Nat} {A : Option Addr} {xs : List Value} {v : Value} (h : Lies w B size A n xs) (hg : w.grownBy w' v.ownBlock) (ho : Off n v A) : Lies w' B size A n xs := by
  refine ⟨h.len, fun hn => ?_⟩
  obtain ⟨a, ha, hb, hx⟩ := h.spot hn
  refine ⟨a, ha, hb, fun j u hu => ?_⟩
  exact hg.cell (hx j u hu) (by rw [add_block]; intro e; exact ho hn _ a e.symm ha rfl)

/-- What holds at the head of each round of putNumbers. -/
def PNR (w : World) (base B : Nat) (l : List UInt8) (ns : List Nat) (A2 : Option Addr) (m : Nat) (b i : Value) (wr : World) : Prop :=
  ∃ k : Nat, k ≤ m ∧ i = .int .i64 k ∧ Hid (wr.ownsRow base 5 1 b (l.length + 8 * k) (BC (l ++ numsL (ns.take k)))) ∧ Hid (Lies wr B 1 A2 m (UC ns)) ∧ Hid (Off m b A2) ∧ Below base w wr ∧ base ≤ wr.heap.size ∧ B ≤ wr.heap.size

/-- A row of the caller's own comes back, longer. -/
def RetO (w : World) (base : Nat) (l : List UInt8) (e : Ending) (w' : World) : Prop :=
  ∃ A n c, e = .returned (.slice A n c) ∧ w'.ownsRow base 5 1 (.slice A n c) n (BC l) ∧ Below base w w' ∧ w.heap.size ≤ w'.heap.size
theorem RetB.n {w w' : World} {l : List UInt8} {e : Ending} (h : RetB w l e w') : ∃ A n c, e = .returned (.slice A n c) ∧ w'.ownsRow w.heap.size 5 1 (.slice A n c) n (BC l) ∧ Below w.heap.size w w' := by
  obtain ⟨A, c, he, ho, hb⟩ := h
  exact ⟨A, _, c, he, ho, hb⟩
theorem own_n {w : World} {base n : Nat} {v : Value} {l : List UInt8} (h : w.ownsRow base 5 1 v n (BC l)) : l.length = n := by have := h.1; rw [BC_length] at this; omega
theorem RetO.mk {w w' : World} {base : Nat} {l : List UInt8} {v : Value} {n : Nat} (h : w'.ownsRow base 5 1 v n (BC l)) (hb : Below base w w') : RetO w base l (.returned v) w' := by
  obtain ⟨A, c, rfl, _⟩ := own_slice h
  exact ⟨A, n, c, rfl, h, hb, hb.size⟩

set_option maxHeartbeats 400000 in
theorem putNumbers_any (base B n c m c2 : Nat) (A A2 : Option Addr) (l : List UInt8) (ns : List Nat) (w : World) (ho : w.ownsRow base 5 1 (.slice A n c) n (BC l)) (hns : Lies w B 1 A2 m (UC ns)) (hoff : Off m (.slice A n c) A2)
    (hB : B ≤ w.heap.size) (hbase : base ≤ w.heap.size) (hn : n ≤ 10000) (hm : m ≤ 1000) (hok : ∀ x ∈ ns, x < 18446744073709551616) :
    Calls Try.prog 57 #[.slice A n c, .slice A2 m c2] w (RetO w base (l ++ numsL ns)) := by
  obtain ⟨i0, hi0, hz0, hz1, hz2⟩ := info_parts u8_info
  have hl : l.length = n := by have := ho.1; rw [BC_length] at this; omega
  have hlm : ns.length = m := by have := hns.len; rw [UC_length] at this; omega
  have HL := Lib.hid hl
  have HM := Lib.hid hlm
  have HO := Lib.hid ho
  have HN := Lib.hid hns
  have HF := Lib.hid hoff
  have HK := Lib.hid hok
  clear hl hlm ho hns hoff hok
  go_enter Try.func57, Try.ntmps57
  go_wp2_with fail
  go_loopw [0, 9] (fun b i wr => PNR w base B l ns A2 m b i wr) (fun _ i _ => m - (intOf i).toNat)
  case atStart =>
    exact ⟨0, Nat.zero_le _, rfl, Lib.hid (by have := HL.out; rw [this]; simpa [numsL] using HO.out), HN, HF, Below.refl _ _, hbase, hB⟩
  case round =>
    obtain ⟨k, hk, rfl, hown, hli, hof, hbw, hbs, hBs⟩ := hrel
    by_cases hlt : k < m
    · obtain ⟨a, u, rfl, hb, hx, hc⟩ := hli.out.get hlt
      have hkl : k < ns.length := by rw [HM.out]; exact hlt
      rw [UC_get ns k hkl] at hx
      injection hx with hx
      subst hx
      have hx64 := HK.out ns[k] (List.getElem_mem hkl)
      go_wp2_with fail
      refine (wput_any 0 0 0 ns[k] none [] 8 wr Lies.empty (Nat.zero_le _) (by omega) hx64 (by omega) (by omega)).mono ?_
      rintro e w1 ⟨A1, c1, rfl, ho1, hb1⟩
      rw [List.nil_append, show (8 : Int).toNat = 8 from rfl] at ho1 ⊢
      rw [putL_length] at ho1 ⊢
      have s1 := hb1.size
      have L1 := Lib.hid (Lies.of_own ho1)
      have O1 := Lib.hid (own_under hown.out hb1 (Nat.le_refl _))
      have N1 := Lib.hid (hli.out.under (hb1.mono hBs))
      have B1 := hbw.trans (hb1.mono hbs)
      have hnb := HL.out
      clear hb1 ho1
      go_wp2_with (at_builtin; refine wpList_app2 _ rfl (.tmp 13) (.tmp 15) _ rfl base 5 i0 _ 1 1 Try.underlying67 hi0 hz0 hz1 hz2 rfl (by omega) _ _ _ rfl O1.out w1.heap.size _ _ _ _ rfl L1.out (BC_one _) (by omega) (by simp only [maxLen]; omega) (by omega) (by omega) ?_; intro v2 w2 ho2 hg2 hv2)
      have hof2 : Off m v2 (some a) := by
        intro hm0 q a' hq ha'
        rcases hv2 with hv2 | hv2
        · exact hof.out hm0 q a' (hv2.symm.trans hq) ha'
        · rw [hv2] at hq
          injection hq with hq
          injection ha' with ha'
          subst ha' hq
          have := hb
          omega
      refine ⟨⟨k + 1, by omega, by go_num, Lib.hid ?_, Lib.hid (N1.out.grown hg2 hof.out), Lib.hid hof2, below_own B1 O1.out hg2 (Nat.le_refl _) (by omega), by have := hg2.size; omega, by have := hg2.size; omega⟩, by simp [intOf]; omega⟩
      rw [show l.length + 8 * (k + 1) = l.length + 8 * k + 8 from by omega]
      refine own_len ho2 ?_
      rw [take_snocN ns k hkl, numsL_snoc]
      simp [BC_append]
    · go_wp2_with fail
      go_ret
      obtain rfl : k = m := by omega
      have e : ns.take k = ns := List.take_of_length_le (by rw [HM.out]; exact Nat.le_refl _)
      rw [e] at hown
      exact RetO.mk hown.out hbw
end Go.Proofs.Ytpffnjnncgmgnaa
