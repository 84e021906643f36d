/-
  The law's Same: a table beside the document's is as it should be.
  Conditions: at most 200 claims, at most 1000 transactions.
-/
import Derived.Test.YthbifccankfngaaGreatDoorL5Q
namespace Go.Proofs.YthbifccankfngaaGreatDoor
open Go.RowKit Go.Shelf
attribute [local go_sem] Oper.semAt_some
set_option maxRecDepth 20000

theorem wIdx_wait (q : List Cl) (t : Nat) : (waitR q t = none ∧ wIdx q t = -1) ∨ ∃ i, ∃ h : i < q.length, wIdx q t = (i : Int) ∧ waitR q t = some q[i] := by
  unfold wIdx waitR
  cases hf : q.findIdx? fun c => c.2.1 == t with
  | none =>
    left
    rw [List.findIdx?_eq_none_iff] at hf
    exact ⟨List.find?_eq_none.2 fun x hx => by rw [hf x hx]; decide, rfl⟩
  | some i =>
    right
    obtain ⟨h, h1, h2⟩ := List.findIdx?_eq_some_iff_getElem.1 hf
    refine ⟨i, h, rfl, List.find?_eq_some_iff_getElem.2 ⟨h1, i, h, rfl, fun j hj => ?_⟩⟩
    have := h2 j hj
    simpa using this
theorem exec_neR {o : Oper} {a : Act} {w : World} (x y : Operand) (ho : o.op = .binOp .neq 33 x y 33) (r : Rs) (hx : a.eval x = .agg (rsA r)) (hy : a.eval y = .agg (rsA r)) : (execOp a.eval o).run Tryz.prog w = .ok (.value (.bool false)) w := by
  obtain ⟨r1, r2⟩ := r
  unfold rsA at hx hy
  unfold execOp
  rw [ho]
  simp only [hx, hy]
  go_simp
/-- What Same reads, in a world in which nothing of it has turned. -/
structure SaB (w : World) (g : Nat) (X : Nat → Prop) (s : TS) (b4 : Nat) (A1 : Option Addr) (n1 c1 : Nat) (A2 : Option Addr) (n2 c2 : Nat) (u : TR) (AX : Option Addr) (nX : Nat) (ts : List Nat) (z : World) : Prop where
  low : Below w.heap.size w z
  tt : Tt z g s X
  r1 : Lz (fun _ => False) z 4 A1 n1 (rcL u.held)
  r2 : Lz (fun _ => False) z 4 A2 n2 (rcL u.queue)
  a4 : At z b4 28 (rtA A1 A2 n1 c1 n2 c2)
  lx : Lz (fun _ => False) z 1 AX nX (UC ts)
  rel : Rel s u
  ok : OkU u
  sz : tot u ≤ 200
section
variable {w z z' : World} {g b4 : Nat} {X : Nat → Prop} {s : TS} {A1 A2 AX : Option Addr} {n1 c1 n2 c2 nX : Nat} {u : TR} {ts : List Nat}
theorem SaB.below (h : SaB w g X s b4 A1 n1 c1 A2 n2 c2 u AX nX ts z) (hb : Below z.heap.size z z') : SaB w g X s b4 A1 n1 c1 A2 n2 c2 u AX nX ts z' :=
  ⟨h.low.trans (hb.mono h.low.size), h.tt.below hb, h.r1.below hb, h.r2.below hb, h.a4.under hb h.a4.lt, h.lx.below hb, h.rel, h.ok, h.sz⟩
theorem SaB.n1le (h : SaB w g X s b4 A1 n1 c1 A2 n2 c2 u AX nX ts z) : n1 ≤ 200 ∧ n2 ≤ 200 := by
  have h1 := h.r1.rclen
  have h2 := h.r2.rclen
  have h3 := h.sz
  unfold tot at h3
  omega
theorem SaB.sm (h : SaB w g X s b4 A1 n1 c1 A2 n2 c2 u AX nX ts z) : SmS s 100000 := (h.rel.sm h.sz).mono (by omega)
theorem SaB.at1 (h : SaB w g X s b4 A1 n1 c1 A2 n2 c2 u AX nX ts z) (r : Rs) : (s.at r).1 = cms (ofR u.held r) ∧ (s.at r).2 = cms (ofR u.queue r) := by
  have := h.rel.at_ r
  unfold AtR at this
  rw [this]
  exact ⟨rfl, rfl⟩
theorem holders_s (h : SaB w g X s b4 A1 n1 c1 A2 n2 c2 u AX nX ts z) (r : Rs) (hr : RsOk r) (n : Nat) (hn : (ofR u.held r).length = n) :
    Calls Tryz.prog 13 #[.pointer (some ⟨g, 0, none⟩), .agg (rsA r)] z (fun e z' => ∃ A c, e = .returned (.slice A n c) ∧ Lz (fun _ => False) z' 2 A n (cmL (cms (ofR u.held r))) ∧ Below z.heap.size z z') := by
  refine (Holders_any X g s r z h.tt hr h.sm).mono ?_
  rw [(h.at1 r).1]
  rintro e z' ⟨A, c, rfl, ho, hb⟩
  have hl : (cms (ofR u.held r)).length = n := by rw [← hn]; simp [cms]
  rw [hl] at ho ⊢
  exact ⟨A, c, rfl, Lz.of_own ho (fun _ h => h.elim), hb⟩
theorem queue_s (h : SaB w g X s b4 A1 n1 c1 A2 n2 c2 u AX nX ts z) (r : Rs) (hr : RsOk r) (n : Nat) (hn : (ofR u.queue r).length = n) :
    Calls Tryz.prog 14 #[.pointer (some ⟨g, 0, none⟩), .agg (rsA r)] z (fun e z' => ∃ A c, e = .returned (.slice A n c) ∧ Lz (fun _ => False) z' 2 A n (cmL (cms (ofR u.queue r))) ∧ Below z.heap.size z z') := by
  refine (Queue_any X g s r z h.tt hr h.sm).mono ?_
  rw [(h.at1 r).2]
  rintro e z' ⟨A, c, rfl, ho, hb⟩
  have hl : (cms (ofR u.queue r)).length = n := by rw [← hn]; simp [cms]
  rw [hl] at ho ⊢
  exact ⟨A, c, rfl, Lz.of_own ho (fun _ h => h.elim), hb⟩
theorem rof1_s (h : SaB w g X s b4 A1 n1 c1 A2 n2 c2 u AX nX ts z) (r : Rs) (n : Nat) (hn : (ofR u.held r).length = n) :
    Calls Tryz.prog 30 #[.slice A1 n1 c1, .agg (rsA r)] z (fun e z' => ∃ A c, e = .returned (.slice A n c) ∧ Lz (fun _ => False) z' 4 A n (rcL (ofR u.held r)) ∧ Below z.heap.size z z') := by
  refine (rOf_any A1 n1 c1 u.held r z h.r1 (by have := h.n1le; omega)).mono ?_
  rintro e z' ⟨A, c, rfl, ho, hb⟩
  rw [hn] at ho ⊢
  exact ⟨A, c, rfl, Lz.of_own ho (fun _ h => h.elim), hb⟩
theorem rof2_s (h : SaB w g X s b4 A1 n1 c1 A2 n2 c2 u AX nX ts z) (r : Rs) (n : Nat) (hn : (ofR u.queue r).length = n) :
    Calls Tryz.prog 30 #[.slice A2 n2 c2, .agg (rsA r)] z (fun e z' => ∃ A c, e = .returned (.slice A n c) ∧ Lz (fun _ => False) z' 4 A n (rcL (ofR u.queue r)) ∧ Below z.heap.size z z') := by
  refine (rOf_any A2 n2 c2 u.queue r z h.r2 (by have := h.n1le; omega)).mono ?_
  rintro e z' ⟨A, c, rfl, ho, hb⟩
  rw [hn] at ho ⊢
  exact ⟨A, c, rfl, Lz.of_own ho (fun _ h => h.elim), hb⟩
theorem held_s (h : SaB w g X s b4 A1 n1 c1 A2 n2 c2 u AX nX ts z) (t : Nat) (r : Rs) (hr : RsOk r) (m : Int) (hm : modeR u.held t r = m) :
    Calls Tryz.prog 21 #[.pointer (some ⟨g, 0, none⟩), .int .u64 (t : Int), .agg (rsA r)] z (RetB z (.int .i64 m)) := by
  have hc := Held_any X g s t r z h.tt hr h.sm
  rw [(h.at1 r).1, held_mode, hm] at hc
  exact hc
theorem mode_s (h : SaB w g X s b4 A1 n1 c1 A2 n2 c2 u AX nX ts z) (t : Nat) (r : Rs) (m : Int) (hm : modeR u.held t r = m) :
    Calls Tryz.prog 31 #[.slice A1 n1 c1, .int .u64 (t : Int), .agg (rsA r)] z (RetB z (.int .i64 m)) := by
  have hc := rMode_any A1 n1 c1 u.held t r z h.r1 (by have := h.n1le; omega)
  rw [hm] at hc
  exact hc
theorem things_s (h : SaB w g X s b4 A1 n1 c1 A2 n2 c2 u AX nX ts z) (lt : List Rs) (n : Nat) (hl : thingsR u = lt) (hn : lt.length = n) :
    Calls Tryz.prog 11 #[.pointer (some ⟨g, 0, none⟩)] z (fun e z' => (∀ r ∈ lt, RsOk r) ∧ ∃ A c, e = .returned (.slice A n c) ∧ Lz (fun _ => False) z' 2 A n (rsL lt) ∧ Below z.heap.size z z') := by
  refine (Things_any X g s z h.tt 200 (fun ks hk ha => h.rel.count h.sz ks hk ha) (by omega)).mono ?_
  rintro e z' ⟨v, l, rfl, ⟨h1, h2⟩, ho, hb⟩
  have he := things_rel h.rel h1 h2
  rw [hl] at he
  subst he
  rw [hn] at ho
  obtain ⟨A, c, rfl, _⟩ := own_slice ho
  exact ⟨fun r hr => h.rel.ok_of h.ok ((h2 r).1 hr), A, c, rfl, Lz.of_own ho (fun _ h => h.elim), hb⟩
theorem rthings_s (h : SaB w g X s b4 A1 n1 c1 A2 n2 c2 u AX nX ts z) (lt : List Rs) (n : Nat) (hl : thingsR u = lt) (hn : lt.length = n) :
    Calls Tryz.prog 28 #[.agg (rtA A1 A2 n1 c1 n2 c2)] z (fun e z' => ∃ A c, e = .returned (.slice A n c) ∧ Lz (fun _ => False) z' 2 A n (rsL lt) ∧ Below z.heap.size z z') := by
  refine (rThings_any A1 A2 n1 c1 n2 c2 u z h.r1 h.r2 (by have := h.n1le; omega) (by have := h.n1le; omega)).mono ?_
  rintro e z' ⟨A, c, rfl, ho, hb⟩
  rw [hl, hn] at ho ⊢
  exact ⟨A, c, rfl, Lz.of_own ho (fun _ h => h.elim), hb⟩
theorem rwaits_s (h : SaB w g X s b4 A1 n1 c1 A2 n2 c2 u AX nX ts z) (t : Nat) (i : Int) (hi : wIdx u.queue t = i) :
    Calls Tryz.prog 16 #[.agg (rtA A1 A2 n1 c1 n2 c2), .int .u64 (t : Int)] z (RetB z (.int .i64 i)) := by
  have hc := rWaits_any A1 A2 n1 c1 n2 c2 u.queue t z h.r2 (by have := h.n1le; omega)
  rw [hi] at hc
  exact hc
theorem waits_s (h : SaB w g X s b4 A1 n1 c1 A2 n2 c2 u AX nX ts z) (t : Nat) (ht : U64 t) (o : Option Rs) (ho : (waitR u.queue t).map (·.1) = o) (r : Rs) (b : Bool) (hr : o.getD (0, 0) = r) (hb : o.isSome = b) :
    Calls Tryz.prog 20 #[.pointer (some ⟨g, 0, none⟩), .int .u64 (t : Int)] z (RetB z (.tuple #[.agg (rsA r), .bool b])) := by
  have hc := Waits_any X g s t z h.tt ht
  rw [h.rel.r0.wt, ho] at hc
  unfold wtV at hc
  rw [hr, hb] at hc
  exact hc
end
set_option maxHeartbeats 12800000 in
theorem same_any (g : Nat) (X : Nat → Prop) (s : TS) (A1 A2 AX : Option Addr) (n1 c1 n2 c2 nX cX : Nat) (u : TR) (ts : List Nat) (w : World) (h : Two w g X s A1 n1 A2 n2 u 200) (hx : Lz (fun _ => False) w 1 AX nX (UC ts)) (hnx : nX ≤ 1000) (hts : ∀ t ∈ ts, U64 t) :
    Calls Tryz.prog 9 #[.pointer (some ⟨g, 0, none⟩), .agg (rtA A1 A2 n1 c1 n2 c2), .slice AX nX cX] w (RetB w (.int .i64 1)) := by
  obtain ⟨z, hz⟩ : ∃ z, w.alloc (.cells (rtA A1 A2 n1 c1 n2 c2) 28) = z := ⟨_, rfl⟩
  obtain ⟨b4, hb4⟩ : ∃ b4, w.heap.size = b4 := ⟨_, rfl⟩
  have hbel : Below w.heap.size w z := hz ▸ (Below.refl _ w).alloc (Nat.le_refl _) _
  have HS0 : Hid (SaB w g X s b4 A1 n1 c1 A2 n2 c2 u AX nX ts z) := by
    refine ⟨hbel, h.tt.below hbel, ⟨(h.rt.h.below hbel).len, fun hn => ?_⟩, ⟨(h.rt.q.below hbel).len, fun hn => ?_⟩, ?_, hx.below hbel, h.rel, h.ok, h.sz⟩
    · obtain ⟨b, o, e1, _, e2, e3⟩ := (h.rt.h.below hbel).spot hn
      exact ⟨b, o, e1, id, e2, e3⟩
    · obtain ⟨b, o, e1, _, e2, e3⟩ := (h.rt.q.below hbel).spot hn
      exact ⟨b, o, e1, id, e2, e3⟩
    · have := At.new w 28 (rtA A1 A2 n1 c1 n2 c2)
      rw [hz, hb4] at this
      exact this
  obtain ⟨lt, hlt⟩ : ∃ lt, thingsR u = lt := ⟨_, rfl⟩
  obtain ⟨nT, hnT⟩ : ∃ nT, lt.length = nT := ⟨_, rfl⟩
  have HLT := Lib.hid hlt
  have HNT := Lib.hid hnT
  have HTS := Lib.hid hts
  have HZ := Lib.hid hz
  have hnT2 : nT ≤ 400 := by
    have h4 := fold_len (u.held ++ u.queue) []
    simp only [List.length_nil, List.length_append] at h4
    have h5 : (thingsR u).length ≤ u.held.length + u.queue.length := by
      show (List.foldl _ [] (u.held ++ u.queue)).length ≤ _
      omega
    have h6 := h.sz
    unfold tot at h6
    rw [hlt] at h5
    omega
  clear h hx hts hbel hlt hnT
  go_enter Tryz.func9, Tryz.ntmps9
  go_upto_region 1 with fail
  have hzz : w.alloc (.cells #[.slice A1 n1 c1, .slice A2 n2 c2] 28) = z := HZ.out
  try rw [hzz]
  try rw [hb4]
  clear hz hzz
  refine wp_region_held_drew (S := Below z.heap.size z) (by kernel_rfl) ((Below.refl _ z).drew) (fun hS => ?_)
  refine takeH (i := 0) (d := 15) (v := ?vsb0) rfl (by kernel_rfl) (by kernel_rfl) (by kernel_rfl) (fun _ _ _ h => h) rfl (by rfl) ?ysb0 hS ?rsb0
  case ysb0 => (intro wz hz; go_simp <;> with_reducible rfl)
  simp only [List.setIfInBounds_toArray, List.set_cons_zero, List.set_cons_succ]
  refine takeH (i := 2) (d := 17) (v := .agg (rtA A1 A2 n1 c1 n2 c2)) rfl (by kernel_rfl) (by kernel_rfl) (by kernel_rfl) (fun _ _ _ h => h) rfl (by rfl) ?ysb2 hS ?rsb2
  case ysb2 => (intro wz hz; exact exec_load_at 28 (.tmp 4) rfl b4 rfl (rtA A1 A2 n1 c1 n2 c2) 2 strT rfl (HS0.out.below hz).a4)
  simp only [List.setIfInBounds_toArray, List.set_cons_zero, List.set_cons_succ]
  refine wpAnyH_ready (rs := [1]) (by kernel_rfl) (by simp) ?_
  refine AllReadyH.cons rfl (fun K hK => ?_) AllReadyH.nil
  go_simp
  refine (things_s (HS0.out.below hS) lt nT HLT.out HNT.out).mono ?_
  rintro e ya ⟨hok, A7, c7, rfl, hl7, hb⟩
  have HOKS := Lib.hid hok
  have L7 := Lib.hid hl7
  have Y1 := Lib.hid (hS.trans (hb.mono hS.size))
  clear hl7 hok
  refine hK.out _ _ (Y1.out) (fun hT => ?_)
  clear hK hb hS
  have hS := hT
  clear hT
  refine wpAnyH_ready (rs := [3]) (by kernel_rfl) (by simp) ?_
  refine AllReadyH.cons rfl (fun K hK => ?_) AllReadyH.nil
  go_simp
  refine (rthings_s (HS0.out.below hS) lt nT HLT.out HNT.out).mono ?_
  rintro e yb ⟨A8, c8, rfl, hl8, hb⟩
  have L8 := Lib.hid hl8
  have L7b := Lib.hid (L7.out.below hb)
  have Y2 := Lib.hid (hS.trans (hb.mono hS.size))
  clear hl8
  refine hK.out _ _ (Y2.out) (fun hT => ?_)
  clear hK hb hS
  have hS := hT
  clear hT
  refine takeH (i := 4) (d := 7) (v := ?vsb4) rfl (by kernel_rfl) (by kernel_rfl) (by kernel_rfl) (fun _ _ _ h => h) rfl (by rfl) ?ysb4 hS ?rsb4
  case ysb4 => (intro wz hz; go_simp <;> with_reducible rfl)
  simp only [List.setIfInBounds_toArray, List.set_cons_zero, List.set_cons_succ]
  refine takeH (i := 5) (d := 8) (v := ?vsb5) rfl (by kernel_rfl) (by kernel_rfl) (by kernel_rfl) (fun _ _ _ h => h) rfl (by rfl) ?ysb5 hS ?rsb5
  case ysb5 => (intro wz hz; go_simp <;> with_reducible rfl)
  simp only [List.setIfInBounds_toArray, List.set_cons_zero, List.set_cons_succ]
  refine wpAnyH_done (by kernel_rfl) ?_ _
  have HSB := Lib.hid (HS0.out.below Y2.out)
  clear hS Y1 Y2 L7 HS0
  have e1 : ((nT : Int) != (nT : Int)) = false := by simp
  go_wp2_with fail
  go_loopw [9] (fun i wr => ∃ k : Nat, k ≤ nT ∧ i = .int .i64 (k : Int) ∧ Hid (Below yb.heap.size yb wr)) (fun i _ => nT - (intOf i).toNat)
  case atStart => exact ⟨0, Nat.zero_le _, rfl, Lib.hid (Below.refl _ _)⟩
  case round =>
    obtain ⟨k, hk, rfl, HR⟩ := hrel
    have HSR := Lib.hid (HSB.out.below HR.out)
    by_cases hlt : k < nT
    · obtain ⟨b7, o7, hl7, rfl, hb70, r7⟩ := L7b.out.rs hlt
      obtain ⟨b8, o8, hl8, rfl, hb80, r8⟩ := L8.out.rs hlt
      obtain ⟨x, hxe⟩ : ∃ x, lt[k] = x := ⟨_, rfl⟩
      rw [hxe] at r7 r8
      have HOK : Hid (RsOk x) := hxe ▸ HOKS.out _ (List.getElem_mem hl7)
      have R7 : Hid (wr.rangeAt b7 (o7 + k * 2) (encR x)) := pl_rangeAt_block r7 (HR.out.block b7 hb70)
      have R8 : Hid (wr.rangeAt b8 (o8 + k * 2) (encR x)) := pl_rangeAt_block r8 (HR.out.block b8 hb80)
      have hb7 : b7 < wr.heap.size := Nat.lt_of_lt_of_le hb70 HR.out.size
      have hb8 : b8 < wr.heap.size := Nat.lt_of_lt_of_le hb80 HR.out.size
      obtain ⟨nh, hnh⟩ : ∃ n, (ofR u.held x).length = n := ⟨_, rfl⟩
      obtain ⟨nq, hnq⟩ : ∃ n, (ofR u.queue x).length = n := ⟨_, rfl⟩
      have hnh2 : nh ≤ 100000 := by
        have h1 : (ofR u.held x).length ≤ u.held.length := List.length_filter_le _ _
        have h2 := HSB.out.sz
        unfold tot at h2
        omega
      have hnq2 : nq ≤ 100000 := by
        have h1 : (ofR u.queue x).length ≤ u.queue.length := List.length_filter_le _ _
        have h2 := HSB.out.sz
        unfold tot at h2
        omega
      have HNH := Lib.hid hnh
      have HNQ := Lib.hid hnq
      have R8B := Lib.hid r8
      clear hnh hnq r7 r8 hxe
      go_upto_region 7 with fail
      refine wp_region_held_drew (S := Below wr.heap.size wr) (by kernel_rfl) ((Below.refl _ wr).drew) (fun hS => ?_)
      refine takeH (i := 0) (d := 30) (v := ?vsc0) rfl (by kernel_rfl) (by kernel_rfl) (by kernel_rfl) (fun _ _ _ h => h) rfl (by rfl) ?ysc0 hS ?rsc0
      case ysc0 => (intro wz hz; have p0 : wz.cell? ⟨b4, 0, none⟩ = some (.slice A1 n1 c1) := (HSR.out.below hz).a4.cell 0; have p1 : wz.cell? ⟨b4, 1, none⟩ = some (.slice A2 n2 c2) := (HSR.out.below hz).a4.cell 1; go_simp <;> with_reducible rfl)
      simp only [List.setIfInBounds_toArray, List.set_cons_zero, List.set_cons_succ]
      refine takeH (i := 1) (d := 31) (v := ?vsc1) rfl (by kernel_rfl) (by kernel_rfl) (by kernel_rfl) (fun _ _ _ h => h) rfl (by rfl) ?ysc1 hS ?rsc1
      case ysc1 => (intro wz hz; have p0 : wz.cell? ⟨b4, 0, none⟩ = some (.slice A1 n1 c1) := (HSR.out.below hz).a4.cell 0; have p1 : wz.cell? ⟨b4, 1, none⟩ = some (.slice A2 n2 c2) := (HSR.out.below hz).a4.cell 1; go_simp <;> with_reducible rfl)
      simp only [List.setIfInBounds_toArray, List.set_cons_zero, List.set_cons_succ]
      refine takeH (i := 2) (d := 32) (v := ?vsc2) rfl (by kernel_rfl) (by kernel_rfl) (by kernel_rfl) (fun _ _ _ h => h) rfl (by rfl) ?ysc2 hS ?rsc2
      case ysc2 => (intro wz hz; have p0 : wz.cell? ⟨b4, 0, none⟩ = some (.slice A1 n1 c1) := (HSR.out.below hz).a4.cell 0; have p1 : wz.cell? ⟨b4, 1, none⟩ = some (.slice A2 n2 c2) := (HSR.out.below hz).a4.cell 1; go_simp <;> with_reducible rfl)
      simp only [List.setIfInBounds_toArray, List.set_cons_zero, List.set_cons_succ]
      refine takeH (i := 3) (d := 33) (v := .agg (rsA x)) rfl (by kernel_rfl) (by kernel_rfl) (by kernel_rfl) (fun _ _ _ h => h) rfl (by rfl) ?ysc3 hS ?rsc3
      case ysc3 => (intro wz hz; have p0 : wz.cell? ⟨b4, 0, none⟩ = some (.slice A1 n1 c1) := (HSR.out.below hz).a4.cell 0; have p1 : wz.cell? ⟨b4, 1, none⟩ = some (.slice A2 n2 c2) := (HSR.out.below hz).a4.cell 1; exact exec_load_in 33 (.tmp 32) rfl b7 (o7 + k * 2) rfl (encR x) 2 strR rfl (pl_rangeAt_block R7.out (hz.block b7 hb7)))
      simp only [List.setIfInBounds_toArray, List.set_cons_zero, List.set_cons_succ]
      refine takeH (i := 4) (d := 34) (v := ?vsc4) rfl (by kernel_rfl) (by kernel_rfl) (by kernel_rfl) (fun _ _ _ h => h) rfl (by rfl) ?ysc4 hS ?rsc4
      case ysc4 => (intro wz hz; have p0 : wz.cell? ⟨b4, 0, none⟩ = some (.slice A1 n1 c1) := (HSR.out.below hz).a4.cell 0; have p1 : wz.cell? ⟨b4, 1, none⟩ = some (.slice A2 n2 c2) := (HSR.out.below hz).a4.cell 1; go_simp <;> with_reducible rfl)
      simp only [List.setIfInBounds_toArray, List.set_cons_zero, List.set_cons_succ]
      refine takeH (i := 5) (d := 35) (v := ?vsc5) rfl (by kernel_rfl) (by kernel_rfl) (by kernel_rfl) (fun _ _ _ h => h) rfl (by rfl) ?ysc5 hS ?rsc5
      case ysc5 => (intro wz hz; have p0 : wz.cell? ⟨b4, 0, none⟩ = some (.slice A1 n1 c1) := (HSR.out.below hz).a4.cell 0; have p1 : wz.cell? ⟨b4, 1, none⟩ = some (.slice A2 n2 c2) := (HSR.out.below hz).a4.cell 1; go_simp <;> with_reducible rfl)
      simp only [List.setIfInBounds_toArray, List.set_cons_zero, List.set_cons_succ]
      refine takeH (i := 6) (d := 36) (v := ?vsc6) rfl (by kernel_rfl) (by kernel_rfl) (by kernel_rfl) (fun _ _ _ h => h) rfl (by rfl) ?ysc6 hS ?rsc6
      case ysc6 => (intro wz hz; have p0 : wz.cell? ⟨b4, 0, none⟩ = some (.slice A1 n1 c1) := (HSR.out.below hz).a4.cell 0; have p1 : wz.cell? ⟨b4, 1, none⟩ = some (.slice A2 n2 c2) := (HSR.out.below hz).a4.cell 1; go_simp <;> with_reducible rfl)
      simp only [List.setIfInBounds_toArray, List.set_cons_zero, List.set_cons_succ]
      refine takeH (i := 7) (d := 37) (v := .agg (rsA x)) rfl (by kernel_rfl) (by kernel_rfl) (by kernel_rfl) (fun _ _ _ h => h) rfl (by rfl) ?ysc7 hS ?rsc7
      case ysc7 => (intro wz hz; have p0 : wz.cell? ⟨b4, 0, none⟩ = some (.slice A1 n1 c1) := (HSR.out.below hz).a4.cell 0; have p1 : wz.cell? ⟨b4, 1, none⟩ = some (.slice A2 n2 c2) := (HSR.out.below hz).a4.cell 1; exact exec_load_in 33 (.tmp 36) rfl b8 (o8 + k * 2) rfl (encR x) 2 strR rfl (pl_rangeAt_block R8.out (hz.block b8 hb8)))
      simp only [List.setIfInBounds_toArray, List.set_cons_zero, List.set_cons_succ]
      refine takeH (i := 8) (d := 38) (v := .bool false) rfl (by kernel_rfl) (by kernel_rfl) (by kernel_rfl) (fun _ _ _ h => h) rfl (by rfl) ?ysc8 hS ?rsc8
      case ysc8 => (intro wz hz; have p0 : wz.cell? ⟨b4, 0, none⟩ = some (.slice A1 n1 c1) := (HSR.out.below hz).a4.cell 0; have p1 : wz.cell? ⟨b4, 1, none⟩ = some (.slice A2 n2 c2) := (HSR.out.below hz).a4.cell 1; exact exec_neR (.tmp 33) (.tmp 37) rfl x rfl rfl)
      simp only [List.setIfInBounds_toArray, List.set_cons_zero, List.set_cons_succ]
      refine takeH (i := 9) (d := 39) (v := ?vsc9) rfl (by kernel_rfl) (by kernel_rfl) (by kernel_rfl) (fun _ _ _ h => h) rfl (by rfl) ?ysc9 hS ?rsc9
      case ysc9 => (intro wz hz; have p0 : wz.cell? ⟨b4, 0, none⟩ = some (.slice A1 n1 c1) := (HSR.out.below hz).a4.cell 0; have p1 : wz.cell? ⟨b4, 1, none⟩ = some (.slice A2 n2 c2) := (HSR.out.below hz).a4.cell 1; go_simp <;> with_reducible rfl)
      simp only [List.setIfInBounds_toArray, List.set_cons_zero, List.set_cons_succ]
      refine takeH (i := 10) (d := 40) (v := ?vsc10) rfl (by kernel_rfl) (by kernel_rfl) (by kernel_rfl) (fun _ _ _ h => h) rfl (by rfl) ?ysc10 hS ?rsc10
      case ysc10 => (intro wz hz; have p0 : wz.cell? ⟨b4, 0, none⟩ = some (.slice A1 n1 c1) := (HSR.out.below hz).a4.cell 0; have p1 : wz.cell? ⟨b4, 1, none⟩ = some (.slice A2 n2 c2) := (HSR.out.below hz).a4.cell 1; go_simp <;> with_reducible rfl)
      simp only [List.setIfInBounds_toArray, List.set_cons_zero, List.set_cons_succ]
      refine takeH (i := 11) (d := 41) (v := ?vsc11) rfl (by kernel_rfl) (by kernel_rfl) (by kernel_rfl) (fun _ _ _ h => h) rfl (by rfl) ?ysc11 hS ?rsc11
      case ysc11 => (intro wz hz; have p0 : wz.cell? ⟨b4, 0, none⟩ = some (.slice A1 n1 c1) := (HSR.out.below hz).a4.cell 0; have p1 : wz.cell? ⟨b4, 1, none⟩ = some (.slice A2 n2 c2) := (HSR.out.below hz).a4.cell 1; go_simp <;> with_reducible rfl)
      simp only [List.setIfInBounds_toArray, List.set_cons_zero, List.set_cons_succ]
      refine takeH (i := 12) (d := 42) (v := ?vsc12) rfl (by kernel_rfl) (by kernel_rfl) (by kernel_rfl) (fun _ _ _ h => h) rfl (by rfl) ?ysc12 hS ?rsc12
      case ysc12 => (intro wz hz; have p0 : wz.cell? ⟨b4, 0, none⟩ = some (.slice A1 n1 c1) := (HSR.out.below hz).a4.cell 0; have p1 : wz.cell? ⟨b4, 1, none⟩ = some (.slice A2 n2 c2) := (HSR.out.below hz).a4.cell 1; go_simp <;> with_reducible rfl)
      simp only [List.setIfInBounds_toArray, List.set_cons_zero, List.set_cons_succ]
      refine takeH (i := 13) (d := 43) (v := ?vsc13) rfl (by kernel_rfl) (by kernel_rfl) (by kernel_rfl) (fun _ _ _ h => h) rfl (by rfl) ?ysc13 hS ?rsc13
      case ysc13 => (intro wz hz; have p0 : wz.cell? ⟨b4, 0, none⟩ = some (.slice A1 n1 c1) := (HSR.out.below hz).a4.cell 0; have p1 : wz.cell? ⟨b4, 1, none⟩ = some (.slice A2 n2 c2) := (HSR.out.below hz).a4.cell 1; go_simp <;> with_reducible rfl)
      simp only [List.setIfInBounds_toArray, List.set_cons_zero, List.set_cons_succ]
      refine takeH (i := 14) (d := 44) (v := .agg (rsA x)) rfl (by kernel_rfl) (by kernel_rfl) (by kernel_rfl) (fun _ _ _ h => h) rfl (by rfl) ?ysc14 hS ?rsc14
      case ysc14 => (intro wz hz; have p0 : wz.cell? ⟨b4, 0, none⟩ = some (.slice A1 n1 c1) := (HSR.out.below hz).a4.cell 0; have p1 : wz.cell? ⟨b4, 1, none⟩ = some (.slice A2 n2 c2) := (HSR.out.below hz).a4.cell 1; exact exec_load_in 33 (.tmp 43) rfl b8 (o8 + k * 2) rfl (encR x) 2 strR rfl (pl_rangeAt_block R8.out (hz.block b8 hb8)))
      simp only [List.setIfInBounds_toArray, List.set_cons_zero, List.set_cons_succ]
      refine takeH (i := 16) (d := 46) (v := ?vsc16) rfl (by kernel_rfl) (by kernel_rfl) (by kernel_rfl) (fun _ _ _ h => h) rfl (by rfl) ?ysc16 hS ?rsc16
      case ysc16 => (intro wz hz; have p0 : wz.cell? ⟨b4, 0, none⟩ = some (.slice A1 n1 c1) := (HSR.out.below hz).a4.cell 0; have p1 : wz.cell? ⟨b4, 1, none⟩ = some (.slice A2 n2 c2) := (HSR.out.below hz).a4.cell 1; go_simp <;> with_reducible rfl)
      simp only [List.setIfInBounds_toArray, List.set_cons_zero, List.set_cons_succ]
      refine takeH (i := 17) (d := 47) (v := ?vsc17) rfl (by kernel_rfl) (by kernel_rfl) (by kernel_rfl) (fun _ _ _ h => h) rfl (by rfl) ?ysc17 hS ?rsc17
      case ysc17 => (intro wz hz; have p0 : wz.cell? ⟨b4, 0, none⟩ = some (.slice A1 n1 c1) := (HSR.out.below hz).a4.cell 0; have p1 : wz.cell? ⟨b4, 1, none⟩ = some (.slice A2 n2 c2) := (HSR.out.below hz).a4.cell 1; go_simp <;> with_reducible rfl)
      simp only [List.setIfInBounds_toArray, List.set_cons_zero, List.set_cons_succ]
      refine takeH (i := 18) (d := 48) (v := ?vsc18) rfl (by kernel_rfl) (by kernel_rfl) (by kernel_rfl) (fun _ _ _ h => h) rfl (by rfl) ?ysc18 hS ?rsc18
      case ysc18 => (intro wz hz; have p0 : wz.cell? ⟨b4, 0, none⟩ = some (.slice A1 n1 c1) := (HSR.out.below hz).a4.cell 0; have p1 : wz.cell? ⟨b4, 1, none⟩ = some (.slice A2 n2 c2) := (HSR.out.below hz).a4.cell 1; go_simp <;> with_reducible rfl)
      simp only [List.setIfInBounds_toArray, List.set_cons_zero, List.set_cons_succ]
      refine takeH (i := 19) (d := 49) (v := ?vsc19) rfl (by kernel_rfl) (by kernel_rfl) (by kernel_rfl) (fun _ _ _ h => h) rfl (by rfl) ?ysc19 hS ?rsc19
      case ysc19 => (intro wz hz; have p0 : wz.cell? ⟨b4, 0, none⟩ = some (.slice A1 n1 c1) := (HSR.out.below hz).a4.cell 0; have p1 : wz.cell? ⟨b4, 1, none⟩ = some (.slice A2 n2 c2) := (HSR.out.below hz).a4.cell 1; go_simp <;> with_reducible rfl)
      simp only [List.setIfInBounds_toArray, List.set_cons_zero, List.set_cons_succ]
      refine takeH (i := 20) (d := 50) (v := ?vsc20) rfl (by kernel_rfl) (by kernel_rfl) (by kernel_rfl) (fun _ _ _ h => h) rfl (by rfl) ?ysc20 hS ?rsc20
      case ysc20 => (intro wz hz; have p0 : wz.cell? ⟨b4, 0, none⟩ = some (.slice A1 n1 c1) := (HSR.out.below hz).a4.cell 0; have p1 : wz.cell? ⟨b4, 1, none⟩ = some (.slice A2 n2 c2) := (HSR.out.below hz).a4.cell 1; go_simp <;> with_reducible rfl)
      simp only [List.setIfInBounds_toArray, List.set_cons_zero, List.set_cons_succ]
      refine takeH (i := 21) (d := 51) (v := .agg (rsA x)) rfl (by kernel_rfl) (by kernel_rfl) (by kernel_rfl) (fun _ _ _ h => h) rfl (by rfl) ?ysc21 hS ?rsc21
      case ysc21 => (intro wz hz; have p0 : wz.cell? ⟨b4, 0, none⟩ = some (.slice A1 n1 c1) := (HSR.out.below hz).a4.cell 0; have p1 : wz.cell? ⟨b4, 1, none⟩ = some (.slice A2 n2 c2) := (HSR.out.below hz).a4.cell 1; exact exec_load_in 33 (.tmp 50) rfl b8 (o8 + k * 2) rfl (encR x) 2 strR rfl (pl_rangeAt_block R8.out (hz.block b8 hb8)))
      simp only [List.setIfInBounds_toArray, List.set_cons_zero, List.set_cons_succ]
      refine wpAnyH_ready (rs := [15]) (by kernel_rfl) (by simp) ?_
      refine AllReadyH.cons rfl (fun K hK => ?_) AllReadyH.nil
      go_simp
      refine (holders_s (HSR.out.below hS) x HOK.out nh HNH.out).mono ?_
      rintro e y1 ⟨B1, d1, rfl, hl1, hb⟩
      have L1 := Lib.hid hl1
      have Y1 := Lib.hid (hS.trans (hb.mono hS.size))
      clear hl1
      refine hK.out _ _ (Y1.out) (fun hT => ?_)
      clear hK hb hS
      have hS := hT
      clear hT
      refine wpAnyH_ready (rs := [22]) (by kernel_rfl) (by simp) ?_
      refine AllReadyH.cons rfl (fun K hK => ?_) AllReadyH.nil
      go_simp
      refine (rof1_s (HSR.out.below hS) x nh HNH.out).mono ?_
      rintro e y2 ⟨B2, d2, rfl, hl2, hb⟩
      have L2 := Lib.hid hl2
      have L1b := Lib.hid (L1.out.below hb)
      have Y2 := Lib.hid (hS.trans (hb.mono hS.size))
      clear hl2 L1 Y1
      refine hK.out _ _ (Y2.out) (fun hT => ?_)
      clear hK hb hS
      have hS := hT
      clear hT
      refine wpAnyH_ready (rs := [23]) (by kernel_rfl) (by simp) ?_
      refine AllReadyH.cons rfl (fun K hK => ?_) AllReadyH.nil
      go_simp
      refine (claims_any B1 B2 nh d1 nh d2 _ _ _ L1b.out L2.out (by omega)).mono ?_
      rintro e y3 ⟨rfl, hb⟩
      rw [beq_self_eq_true]
      have Y3 := Lib.hid (hS.trans (hb.mono hS.size))
      clear L1b L2 Y2
      refine hK.out _ _ (Y3.out) (fun hT => ?_)
      clear hK hb hS
      have hS := hT
      clear hT
      refine takeH (i := 24) (d := 54) (v := ?vsc24) rfl (by kernel_rfl) (by kernel_rfl) (by kernel_rfl) (fun _ _ _ h => h) rfl (by rfl) ?ysc24 hS ?rsc24
      case ysc24 => (intro wz hz; have p0 : wz.cell? ⟨b4, 0, none⟩ = some (.slice A1 n1 c1) := (HSR.out.below hz).a4.cell 0; have p1 : wz.cell? ⟨b4, 1, none⟩ = some (.slice A2 n2 c2) := (HSR.out.below hz).a4.cell 1; go_simp <;> with_reducible rfl)
      simp only [List.setIfInBounds_toArray, List.set_cons_zero, List.set_cons_succ]
      refine takeH (i := 25) (d := 55) (v := ?vsc25) rfl (by kernel_rfl) (by kernel_rfl) (by kernel_rfl) (fun _ _ _ h => h) rfl (by rfl) ?ysc25 hS ?rsc25
      case ysc25 => (intro wz hz; have p0 : wz.cell? ⟨b4, 0, none⟩ = some (.slice A1 n1 c1) := (HSR.out.below hz).a4.cell 0; have p1 : wz.cell? ⟨b4, 1, none⟩ = some (.slice A2 n2 c2) := (HSR.out.below hz).a4.cell 1; go_simp <;> with_reducible rfl)
      simp only [List.setIfInBounds_toArray, List.set_cons_zero, List.set_cons_succ]
      refine takeH (i := 26) (d := 56) (v := ?vsc26) rfl (by kernel_rfl) (by kernel_rfl) (by kernel_rfl) (fun _ _ _ h => h) rfl (by rfl) ?ysc26 hS ?rsc26
      case ysc26 => (intro wz hz; have p0 : wz.cell? ⟨b4, 0, none⟩ = some (.slice A1 n1 c1) := (HSR.out.below hz).a4.cell 0; have p1 : wz.cell? ⟨b4, 1, none⟩ = some (.slice A2 n2 c2) := (HSR.out.below hz).a4.cell 1; go_simp <;> with_reducible rfl)
      simp only [List.setIfInBounds_toArray, List.set_cons_zero, List.set_cons_succ]
      refine takeH (i := 27) (d := 57) (v := ?vsc27) rfl (by kernel_rfl) (by kernel_rfl) (by kernel_rfl) (fun _ _ _ h => h) rfl (by rfl) ?ysc27 hS ?rsc27
      case ysc27 => (intro wz hz; have p0 : wz.cell? ⟨b4, 0, none⟩ = some (.slice A1 n1 c1) := (HSR.out.below hz).a4.cell 0; have p1 : wz.cell? ⟨b4, 1, none⟩ = some (.slice A2 n2 c2) := (HSR.out.below hz).a4.cell 1; go_simp <;> with_reducible rfl)
      simp only [List.setIfInBounds_toArray, List.set_cons_zero, List.set_cons_succ]
      refine takeH (i := 28) (d := 58) (v := ?vsc28) rfl (by kernel_rfl) (by kernel_rfl) (by kernel_rfl) (fun _ _ _ h => h) rfl (by rfl) ?ysc28 hS ?rsc28
      case ysc28 => (intro wz hz; have p0 : wz.cell? ⟨b4, 0, none⟩ = some (.slice A1 n1 c1) := (HSR.out.below hz).a4.cell 0; have p1 : wz.cell? ⟨b4, 1, none⟩ = some (.slice A2 n2 c2) := (HSR.out.below hz).a4.cell 1; go_simp <;> with_reducible rfl)
      simp only [List.setIfInBounds_toArray, List.set_cons_zero, List.set_cons_succ]
      refine takeH (i := 29) (d := 59) (v := ?vsc29) rfl (by kernel_rfl) (by kernel_rfl) (by kernel_rfl) (fun _ _ _ h => h) rfl (by rfl) ?ysc29 hS ?rsc29
      case ysc29 => (intro wz hz; have p0 : wz.cell? ⟨b4, 0, none⟩ = some (.slice A1 n1 c1) := (HSR.out.below hz).a4.cell 0; have p1 : wz.cell? ⟨b4, 1, none⟩ = some (.slice A2 n2 c2) := (HSR.out.below hz).a4.cell 1; go_simp <;> with_reducible rfl)
      simp only [List.setIfInBounds_toArray, List.set_cons_zero, List.set_cons_succ]
      refine takeH (i := 30) (d := 60) (v := ?vsc30) rfl (by kernel_rfl) (by kernel_rfl) (by kernel_rfl) (fun _ _ _ h => h) rfl (by rfl) ?ysc30 hS ?rsc30
      case ysc30 => (intro wz hz; have p0 : wz.cell? ⟨b4, 0, none⟩ = some (.slice A1 n1 c1) := (HSR.out.below hz).a4.cell 0; have p1 : wz.cell? ⟨b4, 1, none⟩ = some (.slice A2 n2 c2) := (HSR.out.below hz).a4.cell 1; go_simp <;> with_reducible rfl)
      simp only [List.setIfInBounds_toArray, List.set_cons_zero, List.set_cons_succ]
      refine takeH (i := 31) (d := 61) (v := .agg (rsA x)) rfl (by kernel_rfl) (by kernel_rfl) (by kernel_rfl) (fun _ _ _ h => h) rfl (by rfl) ?ysc31 hS ?rsc31
      case ysc31 => (intro wz hz; have p0 : wz.cell? ⟨b4, 0, none⟩ = some (.slice A1 n1 c1) := (HSR.out.below hz).a4.cell 0; have p1 : wz.cell? ⟨b4, 1, none⟩ = some (.slice A2 n2 c2) := (HSR.out.below hz).a4.cell 1; exact exec_load_in 33 (.tmp 60) rfl b8 (o8 + k * 2) rfl (encR x) 2 strR rfl (pl_rangeAt_block R8.out (hz.block b8 hb8)))
      simp only [List.setIfInBounds_toArray, List.set_cons_zero, List.set_cons_succ]
      refine takeH (i := 33) (d := 63) (v := ?vsc33) rfl (by kernel_rfl) (by kernel_rfl) (by kernel_rfl) (fun _ _ _ h => h) rfl (by rfl) ?ysc33 hS ?rsc33
      case ysc33 => (intro wz hz; have p0 : wz.cell? ⟨b4, 0, none⟩ = some (.slice A1 n1 c1) := (HSR.out.below hz).a4.cell 0; have p1 : wz.cell? ⟨b4, 1, none⟩ = some (.slice A2 n2 c2) := (HSR.out.below hz).a4.cell 1; go_simp <;> with_reducible rfl)
      simp only [List.setIfInBounds_toArray, List.set_cons_zero, List.set_cons_succ]
      refine takeH (i := 34) (d := 64) (v := ?vsc34) rfl (by kernel_rfl) (by kernel_rfl) (by kernel_rfl) (fun _ _ _ h => h) rfl (by rfl) ?ysc34 hS ?rsc34
      case ysc34 => (intro wz hz; have p0 : wz.cell? ⟨b4, 0, none⟩ = some (.slice A1 n1 c1) := (HSR.out.below hz).a4.cell 0; have p1 : wz.cell? ⟨b4, 1, none⟩ = some (.slice A2 n2 c2) := (HSR.out.below hz).a4.cell 1; go_simp <;> with_reducible rfl)
      simp only [List.setIfInBounds_toArray, List.set_cons_zero, List.set_cons_succ]
      refine takeH (i := 35) (d := 65) (v := ?vsc35) rfl (by kernel_rfl) (by kernel_rfl) (by kernel_rfl) (fun _ _ _ h => h) rfl (by rfl) ?ysc35 hS ?rsc35
      case ysc35 => (intro wz hz; have p0 : wz.cell? ⟨b4, 0, none⟩ = some (.slice A1 n1 c1) := (HSR.out.below hz).a4.cell 0; have p1 : wz.cell? ⟨b4, 1, none⟩ = some (.slice A2 n2 c2) := (HSR.out.below hz).a4.cell 1; go_simp <;> with_reducible rfl)
      simp only [List.setIfInBounds_toArray, List.set_cons_zero, List.set_cons_succ]
      refine takeH (i := 36) (d := 66) (v := ?vsc36) rfl (by kernel_rfl) (by kernel_rfl) (by kernel_rfl) (fun _ _ _ h => h) rfl (by rfl) ?ysc36 hS ?rsc36
      case ysc36 => (intro wz hz; have p0 : wz.cell? ⟨b4, 0, none⟩ = some (.slice A1 n1 c1) := (HSR.out.below hz).a4.cell 0; have p1 : wz.cell? ⟨b4, 1, none⟩ = some (.slice A2 n2 c2) := (HSR.out.below hz).a4.cell 1; go_simp <;> with_reducible rfl)
      simp only [List.setIfInBounds_toArray, List.set_cons_zero, List.set_cons_succ]
      refine takeH (i := 37) (d := 67) (v := ?vsc37) rfl (by kernel_rfl) (by kernel_rfl) (by kernel_rfl) (fun _ _ _ h => h) rfl (by rfl) ?ysc37 hS ?rsc37
      case ysc37 => (intro wz hz; have p0 : wz.cell? ⟨b4, 0, none⟩ = some (.slice A1 n1 c1) := (HSR.out.below hz).a4.cell 0; have p1 : wz.cell? ⟨b4, 1, none⟩ = some (.slice A2 n2 c2) := (HSR.out.below hz).a4.cell 1; go_simp <;> with_reducible rfl)
      simp only [List.setIfInBounds_toArray, List.set_cons_zero, List.set_cons_succ]
      refine takeH (i := 38) (d := 68) (v := .agg (rsA x)) rfl (by kernel_rfl) (by kernel_rfl) (by kernel_rfl) (fun _ _ _ h => h) rfl (by rfl) ?ysc38 hS ?rsc38
      case ysc38 => (intro wz hz; have p0 : wz.cell? ⟨b4, 0, none⟩ = some (.slice A1 n1 c1) := (HSR.out.below hz).a4.cell 0; have p1 : wz.cell? ⟨b4, 1, none⟩ = some (.slice A2 n2 c2) := (HSR.out.below hz).a4.cell 1; exact exec_load_in 33 (.tmp 67) rfl b8 (o8 + k * 2) rfl (encR x) 2 strR rfl (pl_rangeAt_block R8.out (hz.block b8 hb8)))
      simp only [List.setIfInBounds_toArray, List.set_cons_zero, List.set_cons_succ]
      refine wpAnyH_ready (rs := [32]) (by kernel_rfl) (by simp) ?_
      refine AllReadyH.cons rfl (fun K hK => ?_) AllReadyH.nil
      go_simp
      refine (queue_s (HSR.out.below hS) x HOK.out nq HNQ.out).mono ?_
      rintro e y1 ⟨B1, d1, rfl, hl1, hb⟩
      have L1 := Lib.hid hl1
      have Y1 := Lib.hid (hS.trans (hb.mono hS.size))
      clear hl1
      refine hK.out _ _ (Y1.out) (fun hT => ?_)
      clear hK hb hS
      have hS := hT
      clear hT
      refine wpAnyH_ready (rs := [39]) (by kernel_rfl) (by simp) ?_
      refine AllReadyH.cons rfl (fun K hK => ?_) AllReadyH.nil
      go_simp
      refine (rof2_s (HSR.out.below hS) x nq HNQ.out).mono ?_
      rintro e y2 ⟨B2, d2, rfl, hl2, hb⟩
      have L2 := Lib.hid hl2
      have L1b := Lib.hid (L1.out.below hb)
      have Y2 := Lib.hid (hS.trans (hb.mono hS.size))
      clear hl2 L1 Y1
      refine hK.out _ _ (Y2.out) (fun hT => ?_)
      clear hK hb hS
      have hS := hT
      clear hT
      refine wpAnyH_ready (rs := [40]) (by kernel_rfl) (by simp) ?_
      refine AllReadyH.cons rfl (fun K hK => ?_) AllReadyH.nil
      go_simp
      refine (claims_any B1 B2 nq d1 nq d2 _ _ _ L1b.out L2.out (by omega)).mono ?_
      rintro e y3 ⟨rfl, hb⟩
      rw [beq_self_eq_true]
      have Y3 := Lib.hid (hS.trans (hb.mono hS.size))
      clear L1b L2 Y2
      refine hK.out _ _ (Y3.out) (fun hT => ?_)
      clear hK hb hS
      have hS := hT
      clear hT
      refine takeH (i := 41) (d := 71) (v := ?vsc41) rfl (by kernel_rfl) (by kernel_rfl) (by kernel_rfl) (fun _ _ _ h => h) rfl (by rfl) ?ysc41 hS ?rsc41
      case ysc41 => (intro wz hz; have p0 : wz.cell? ⟨b4, 0, none⟩ = some (.slice A1 n1 c1) := (HSR.out.below hz).a4.cell 0; have p1 : wz.cell? ⟨b4, 1, none⟩ = some (.slice A2 n2 c2) := (HSR.out.below hz).a4.cell 1; go_simp <;> with_reducible rfl)
      simp only [List.setIfInBounds_toArray, List.set_cons_zero, List.set_cons_succ]
      refine takeH (i := 42) (d := 72) (v := ?vsc42) rfl (by kernel_rfl) (by kernel_rfl) (by kernel_rfl) (fun _ _ _ h => h) rfl (by rfl) ?ysc42 hS ?rsc42
      case ysc42 => (intro wz hz; have p0 : wz.cell? ⟨b4, 0, none⟩ = some (.slice A1 n1 c1) := (HSR.out.below hz).a4.cell 0; have p1 : wz.cell? ⟨b4, 1, none⟩ = some (.slice A2 n2 c2) := (HSR.out.below hz).a4.cell 1; go_simp <;> with_reducible rfl)
      simp only [List.setIfInBounds_toArray, List.set_cons_zero, List.set_cons_succ]
      refine wpAnyH_done (by kernel_rfl) ?_ _
      have HS3 := Lib.hid (HR.out.trans (hS.mono HR.out.size))
      clear hS Y3 R7 R8 HSR hb7 hb8
      go_wp2_with fail
      go_loopw [10] (fun i wr => ∃ j : Nat, j ≤ nX ∧ i = .int .i64 (j : Int) ∧ Hid (Below yb.heap.size yb wr)) (fun i _ => nX - (intOf i).toNat)
      case atStart => exact ⟨0, Nat.zero_le _, rfl, HS3⟩
      case round =>
        obtain ⟨j, hj, rfl, HR2⟩ := hrel
        have HSR := Lib.hid (HSB.out.below HR2.out)
        by_cases hlj : j < nX
        · obtain ⟨bx, ox, hlx, rfl, hbx, px⟩ := HSR.out.lx.uc hlj
          obtain ⟨t, ht⟩ : ∃ t, ts[j] = t := ⟨_, rfl⟩
          rw [ht] at px
          have PX := Lib.hid px
          have R8 : Hid (wr.rangeAt b8 (o8 + k * 2) (encR x)) := pl_rangeAt_block R8B.out (HR2.out.block b8 hb80)
          have hb8 : b8 < wr.heap.size := Nat.lt_of_lt_of_le hb80 HR2.out.size
          obtain ⟨md, hmd⟩ : ∃ md, modeR u.held t x = md := ⟨_, rfl⟩
          have HMD := Lib.hid hmd
          have emd : (md != md) = false := by simp
          clear hmd ht px
          go_upto_region 12 with fail
          refine wp_region_held_drew (S := Below wr.heap.size wr) (by kernel_rfl) ((Below.refl _ wr).drew) (fun hS => ?_)
          refine takeH (i := 0) (d := 79) (v := ?vsd0) rfl (by kernel_rfl) (by kernel_rfl) (by kernel_rfl) (fun _ _ _ h => h) rfl (by rfl) ?ysd0 hS ?rsd0
          case ysd0 => (intro wz hz; have p0 : wz.cell? ⟨b4, 0, none⟩ = some (.slice A1 n1 c1) := (HSR.out.below hz).a4.cell 0; have px : wz.cell? ⟨bx, ox + j, none⟩ = some (.int .u64 (t : Int)) := (hz.cell (p := ⟨bx, ox + j, none⟩) hbx).trans PX.out; go_simp <;> with_reducible rfl)
          simp only [List.setIfInBounds_toArray, List.set_cons_zero, List.set_cons_succ]
          refine takeH (i := 1) (d := 80) (v := ?vsd1) rfl (by kernel_rfl) (by kernel_rfl) (by kernel_rfl) (fun _ _ _ h => h) rfl (by rfl) ?ysd1 hS ?rsd1
          case ysd1 => (intro wz hz; have p0 : wz.cell? ⟨b4, 0, none⟩ = some (.slice A1 n1 c1) := (HSR.out.below hz).a4.cell 0; have px : wz.cell? ⟨bx, ox + j, none⟩ = some (.int .u64 (t : Int)) := (hz.cell (p := ⟨bx, ox + j, none⟩) hbx).trans PX.out; go_simp <;> with_reducible rfl)
          simp only [List.setIfInBounds_toArray, List.set_cons_zero, List.set_cons_succ]
          refine takeH (i := 2) (d := 81) (v := ?vsd2) rfl (by kernel_rfl) (by kernel_rfl) (by kernel_rfl) (fun _ _ _ h => h) rfl (by rfl) ?ysd2 hS ?rsd2
          case ysd2 => (intro wz hz; have p0 : wz.cell? ⟨b4, 0, none⟩ = some (.slice A1 n1 c1) := (HSR.out.below hz).a4.cell 0; have px : wz.cell? ⟨bx, ox + j, none⟩ = some (.int .u64 (t : Int)) := (hz.cell (p := ⟨bx, ox + j, none⟩) hbx).trans PX.out; go_simp <;> with_reducible rfl)
          simp only [List.setIfInBounds_toArray, List.set_cons_zero, List.set_cons_succ]
          refine takeH (i := 3) (d := 82) (v := ?vsd3) rfl (by kernel_rfl) (by kernel_rfl) (by kernel_rfl) (fun _ _ _ h => h) rfl (by rfl) ?ysd3 hS ?rsd3
          case ysd3 => (intro wz hz; have p0 : wz.cell? ⟨b4, 0, none⟩ = some (.slice A1 n1 c1) := (HSR.out.below hz).a4.cell 0; have px : wz.cell? ⟨bx, ox + j, none⟩ = some (.int .u64 (t : Int)) := (hz.cell (p := ⟨bx, ox + j, none⟩) hbx).trans PX.out; go_simp <;> with_reducible rfl)
          simp only [List.setIfInBounds_toArray, List.set_cons_zero, List.set_cons_succ]
          refine takeH (i := 4) (d := 83) (v := ?vsd4) rfl (by kernel_rfl) (by kernel_rfl) (by kernel_rfl) (fun _ _ _ h => h) rfl (by rfl) ?ysd4 hS ?rsd4
          case ysd4 => (intro wz hz; have p0 : wz.cell? ⟨b4, 0, none⟩ = some (.slice A1 n1 c1) := (HSR.out.below hz).a4.cell 0; have px : wz.cell? ⟨bx, ox + j, none⟩ = some (.int .u64 (t : Int)) := (hz.cell (p := ⟨bx, ox + j, none⟩) hbx).trans PX.out; go_simp <;> with_reducible rfl)
          simp only [List.setIfInBounds_toArray, List.set_cons_zero, List.set_cons_succ]
          refine takeH (i := 5) (d := 84) (v := ?vsd5) rfl (by kernel_rfl) (by kernel_rfl) (by kernel_rfl) (fun _ _ _ h => h) rfl (by rfl) ?ysd5 hS ?rsd5
          case ysd5 => (intro wz hz; have p0 : wz.cell? ⟨b4, 0, none⟩ = some (.slice A1 n1 c1) := (HSR.out.below hz).a4.cell 0; have px : wz.cell? ⟨bx, ox + j, none⟩ = some (.int .u64 (t : Int)) := (hz.cell (p := ⟨bx, ox + j, none⟩) hbx).trans PX.out; go_simp <;> with_reducible rfl)
          simp only [List.setIfInBounds_toArray, List.set_cons_zero, List.set_cons_succ]
          refine takeH (i := 6) (d := 85) (v := ?vsd6) rfl (by kernel_rfl) (by kernel_rfl) (by kernel_rfl) (fun _ _ _ h => h) rfl (by rfl) ?ysd6 hS ?rsd6
          case ysd6 => (intro wz hz; have p0 : wz.cell? ⟨b4, 0, none⟩ = some (.slice A1 n1 c1) := (HSR.out.below hz).a4.cell 0; have px : wz.cell? ⟨bx, ox + j, none⟩ = some (.int .u64 (t : Int)) := (hz.cell (p := ⟨bx, ox + j, none⟩) hbx).trans PX.out; go_simp <;> with_reducible rfl)
          simp only [List.setIfInBounds_toArray, List.set_cons_zero, List.set_cons_succ]
          refine takeH (i := 7) (d := 86) (v := ?vsd7) rfl (by kernel_rfl) (by kernel_rfl) (by kernel_rfl) (fun _ _ _ h => h) rfl (by rfl) ?ysd7 hS ?rsd7
          case ysd7 => (intro wz hz; have p0 : wz.cell? ⟨b4, 0, none⟩ = some (.slice A1 n1 c1) := (HSR.out.below hz).a4.cell 0; have px : wz.cell? ⟨bx, ox + j, none⟩ = some (.int .u64 (t : Int)) := (hz.cell (p := ⟨bx, ox + j, none⟩) hbx).trans PX.out; go_simp <;> with_reducible rfl)
          simp only [List.setIfInBounds_toArray, List.set_cons_zero, List.set_cons_succ]
          refine takeH (i := 8) (d := 87) (v := .agg (rsA x)) rfl (by kernel_rfl) (by kernel_rfl) (by kernel_rfl) (fun _ _ _ h => h) rfl (by rfl) ?ysd8 hS ?rsd8
          case ysd8 => (intro wz hz; have p0 : wz.cell? ⟨b4, 0, none⟩ = some (.slice A1 n1 c1) := (HSR.out.below hz).a4.cell 0; have px : wz.cell? ⟨bx, ox + j, none⟩ = some (.int .u64 (t : Int)) := (hz.cell (p := ⟨bx, ox + j, none⟩) hbx).trans PX.out; exact exec_load_in 33 (.tmp 86) rfl b8 (o8 + k * 2) rfl (encR x) 2 strR rfl (pl_rangeAt_block R8.out (hz.block b8 hb8)))
          simp only [List.setIfInBounds_toArray, List.set_cons_zero, List.set_cons_succ]
          refine takeH (i := 10) (d := 89) (v := ?vsd10) rfl (by kernel_rfl) (by kernel_rfl) (by kernel_rfl) (fun _ _ _ h => h) rfl (by rfl) ?ysd10 hS ?rsd10
          case ysd10 => (intro wz hz; have p0 : wz.cell? ⟨b4, 0, none⟩ = some (.slice A1 n1 c1) := (HSR.out.below hz).a4.cell 0; have px : wz.cell? ⟨bx, ox + j, none⟩ = some (.int .u64 (t : Int)) := (hz.cell (p := ⟨bx, ox + j, none⟩) hbx).trans PX.out; go_simp <;> with_reducible rfl)
          simp only [List.setIfInBounds_toArray, List.set_cons_zero, List.set_cons_succ]
          refine takeH (i := 11) (d := 90) (v := ?vsd11) rfl (by kernel_rfl) (by kernel_rfl) (by kernel_rfl) (fun _ _ _ h => h) rfl (by rfl) ?ysd11 hS ?rsd11
          case ysd11 => (intro wz hz; have p0 : wz.cell? ⟨b4, 0, none⟩ = some (.slice A1 n1 c1) := (HSR.out.below hz).a4.cell 0; have px : wz.cell? ⟨bx, ox + j, none⟩ = some (.int .u64 (t : Int)) := (hz.cell (p := ⟨bx, ox + j, none⟩) hbx).trans PX.out; go_simp <;> with_reducible rfl)
          simp only [List.setIfInBounds_toArray, List.set_cons_zero, List.set_cons_succ]
          refine takeH (i := 12) (d := 91) (v := ?vsd12) rfl (by kernel_rfl) (by kernel_rfl) (by kernel_rfl) (fun _ _ _ h => h) rfl (by rfl) ?ysd12 hS ?rsd12
          case ysd12 => (intro wz hz; have p0 : wz.cell? ⟨b4, 0, none⟩ = some (.slice A1 n1 c1) := (HSR.out.below hz).a4.cell 0; have px : wz.cell? ⟨bx, ox + j, none⟩ = some (.int .u64 (t : Int)) := (hz.cell (p := ⟨bx, ox + j, none⟩) hbx).trans PX.out; go_simp <;> with_reducible rfl)
          simp only [List.setIfInBounds_toArray, List.set_cons_zero, List.set_cons_succ]
          refine takeH (i := 13) (d := 92) (v := ?vsd13) rfl (by kernel_rfl) (by kernel_rfl) (by kernel_rfl) (fun _ _ _ h => h) rfl (by rfl) ?ysd13 hS ?rsd13
          case ysd13 => (intro wz hz; have p0 : wz.cell? ⟨b4, 0, none⟩ = some (.slice A1 n1 c1) := (HSR.out.below hz).a4.cell 0; have px : wz.cell? ⟨bx, ox + j, none⟩ = some (.int .u64 (t : Int)) := (hz.cell (p := ⟨bx, ox + j, none⟩) hbx).trans PX.out; go_simp <;> with_reducible rfl)
          simp only [List.setIfInBounds_toArray, List.set_cons_zero, List.set_cons_succ]
          refine takeH (i := 14) (d := 93) (v := ?vsd14) rfl (by kernel_rfl) (by kernel_rfl) (by kernel_rfl) (fun _ _ _ h => h) rfl (by rfl) ?ysd14 hS ?rsd14
          case ysd14 => (intro wz hz; have p0 : wz.cell? ⟨b4, 0, none⟩ = some (.slice A1 n1 c1) := (HSR.out.below hz).a4.cell 0; have px : wz.cell? ⟨bx, ox + j, none⟩ = some (.int .u64 (t : Int)) := (hz.cell (p := ⟨bx, ox + j, none⟩) hbx).trans PX.out; go_simp <;> with_reducible rfl)
          simp only [List.setIfInBounds_toArray, List.set_cons_zero, List.set_cons_succ]
          refine takeH (i := 15) (d := 94) (v := ?vsd15) rfl (by kernel_rfl) (by kernel_rfl) (by kernel_rfl) (fun _ _ _ h => h) rfl (by rfl) ?ysd15 hS ?rsd15
          case ysd15 => (intro wz hz; have p0 : wz.cell? ⟨b4, 0, none⟩ = some (.slice A1 n1 c1) := (HSR.out.below hz).a4.cell 0; have px : wz.cell? ⟨bx, ox + j, none⟩ = some (.int .u64 (t : Int)) := (hz.cell (p := ⟨bx, ox + j, none⟩) hbx).trans PX.out; go_simp <;> with_reducible rfl)
          simp only [List.setIfInBounds_toArray, List.set_cons_zero, List.set_cons_succ]
          refine takeH (i := 16) (d := 95) (v := ?vsd16) rfl (by kernel_rfl) (by kernel_rfl) (by kernel_rfl) (fun _ _ _ h => h) rfl (by rfl) ?ysd16 hS ?rsd16
          case ysd16 => (intro wz hz; have p0 : wz.cell? ⟨b4, 0, none⟩ = some (.slice A1 n1 c1) := (HSR.out.below hz).a4.cell 0; have px : wz.cell? ⟨bx, ox + j, none⟩ = some (.int .u64 (t : Int)) := (hz.cell (p := ⟨bx, ox + j, none⟩) hbx).trans PX.out; go_simp <;> with_reducible rfl)
          simp only [List.setIfInBounds_toArray, List.set_cons_zero, List.set_cons_succ]
          refine takeH (i := 17) (d := 96) (v := ?vsd17) rfl (by kernel_rfl) (by kernel_rfl) (by kernel_rfl) (fun _ _ _ h => h) rfl (by rfl) ?ysd17 hS ?rsd17
          case ysd17 => (intro wz hz; have p0 : wz.cell? ⟨b4, 0, none⟩ = some (.slice A1 n1 c1) := (HSR.out.below hz).a4.cell 0; have px : wz.cell? ⟨bx, ox + j, none⟩ = some (.int .u64 (t : Int)) := (hz.cell (p := ⟨bx, ox + j, none⟩) hbx).trans PX.out; go_simp <;> with_reducible rfl)
          simp only [List.setIfInBounds_toArray, List.set_cons_zero, List.set_cons_succ]
          refine takeH (i := 18) (d := 97) (v := ?vsd18) rfl (by kernel_rfl) (by kernel_rfl) (by kernel_rfl) (fun _ _ _ h => h) rfl (by rfl) ?ysd18 hS ?rsd18
          case ysd18 => (intro wz hz; have p0 : wz.cell? ⟨b4, 0, none⟩ = some (.slice A1 n1 c1) := (HSR.out.below hz).a4.cell 0; have px : wz.cell? ⟨bx, ox + j, none⟩ = some (.int .u64 (t : Int)) := (hz.cell (p := ⟨bx, ox + j, none⟩) hbx).trans PX.out; go_simp <;> with_reducible rfl)
          simp only [List.setIfInBounds_toArray, List.set_cons_zero, List.set_cons_succ]
          refine takeH (i := 19) (d := 98) (v := .agg (rsA x)) rfl (by kernel_rfl) (by kernel_rfl) (by kernel_rfl) (fun _ _ _ h => h) rfl (by rfl) ?ysd19 hS ?rsd19
          case ysd19 => (intro wz hz; have p0 : wz.cell? ⟨b4, 0, none⟩ = some (.slice A1 n1 c1) := (HSR.out.below hz).a4.cell 0; have px : wz.cell? ⟨bx, ox + j, none⟩ = some (.int .u64 (t : Int)) := (hz.cell (p := ⟨bx, ox + j, none⟩) hbx).trans PX.out; exact exec_load_in 33 (.tmp 97) rfl b8 (o8 + k * 2) rfl (encR x) 2 strR rfl (pl_rangeAt_block R8.out (hz.block b8 hb8)))
          simp only [List.setIfInBounds_toArray, List.set_cons_zero, List.set_cons_succ]
          refine wpAnyH_ready (rs := [9]) (by kernel_rfl) (by simp) ?_
          refine AllReadyH.cons rfl (fun K hK => ?_) AllReadyH.nil
          go_simp
          refine (held_s (HSR.out.below hS) t x HOK.out md HMD.out).mono ?_
          rintro e y1 ⟨rfl, hb⟩
          have Y1 := Lib.hid (hS.trans (hb.mono hS.size))
          refine hK.out _ _ (Y1.out) (fun hT => ?_)
          clear hK hb hS
          have hS := hT
          clear hT
          refine wpAnyH_ready (rs := [20]) (by kernel_rfl) (by simp) ?_
          refine AllReadyH.cons rfl (fun K hK => ?_) AllReadyH.nil
          go_simp
          refine (mode_s (HSR.out.below hS) t x md HMD.out).mono ?_
          rintro e y2 ⟨rfl, hb⟩
          have Y2 := Lib.hid (hS.trans (hb.mono hS.size))
          refine hK.out _ _ (Y2.out) (fun hT => ?_)
          clear hK hb hS
          have hS := hT
          clear hT
          refine takeH (i := 21) (d := 100) (v := ?vsd21) rfl (by kernel_rfl) (by kernel_rfl) (by kernel_rfl) (fun _ _ _ h => h) rfl (by rfl) ?ysd21 hS ?rsd21
          case ysd21 => (intro wz hz; have p0 : wz.cell? ⟨b4, 0, none⟩ = some (.slice A1 n1 c1) := (HSR.out.below hz).a4.cell 0; have px : wz.cell? ⟨bx, ox + j, none⟩ = some (.int .u64 (t : Int)) := (hz.cell (p := ⟨bx, ox + j, none⟩) hbx).trans PX.out; go_simp <;> with_reducible rfl)
          simp only [List.setIfInBounds_toArray, List.set_cons_zero, List.set_cons_succ]
          refine wpAnyH_done (by kernel_rfl) ?_ _
          have HS4 := Lib.hid (HR2.out.trans (hS.mono HR2.out.size))
          clear hS Y1 Y2
          go_wp2_with fail
          exact ⟨⟨j + 1, by omega, by go_num, HS4⟩, by simp [intOf]; omega⟩
        · obtain rfl : j = nX := by omega
          go_wp2_with fail
          exact ⟨⟨k + 1, by omega, by go_num, HR2⟩, by simp [intOf]; omega⟩
    · obtain rfl : k = nT := by omega
      go_wp2_with fail
      go_loopw [11] (fun i wr => ∃ j : Nat, j ≤ nX ∧ i = .int .i64 (j : Int) ∧ Hid (Below yb.heap.size yb wr)) (fun i _ => nX - (intOf i).toNat)
      case atStart => exact ⟨0, Nat.zero_le _, rfl, HR⟩
      case round =>
        clear HSR HR
        obtain ⟨j, hj, rfl, HR2⟩ := hrel
        have HSR := Lib.hid (HSB.out.below HR2.out)
        by_cases hlj : j < nX
        · obtain ⟨bx, ox, hlx, rfl, hbx, px⟩ := HSR.out.lx.uc hlj
          obtain ⟨t, ht⟩ : ∃ t, ts[j] = t := ⟨_, rfl⟩
          rw [ht] at px
          have HT : Hid (U64 t) := ht ▸ HTS.out _ (List.getElem_mem hlx)
          have PX := Lib.hid px
          obtain ⟨ix, hix⟩ : ∃ ix, wIdx u.queue t = ix := ⟨_, rfl⟩
          have HIX := Lib.hid hix
          have hww := wIdx_wait u.queue t
          rw [hix] at hww
          clear hix ht px
          go_upto_region 17 with fail
          refine wp_region_held_drew (S := Below wr.heap.size wr) (by kernel_rfl) ((Below.refl _ wr).drew) (fun hS => ?_)
          refine takeH (i := 0) (d := 107) (v := .agg (rtA A1 A2 n1 c1 n2 c2)) rfl (by kernel_rfl) (by kernel_rfl) (by kernel_rfl) (fun _ _ _ h => h) rfl (by rfl) ?yse0 hS ?rse0
          case yse0 => (intro wz hz; have px : wz.cell? ⟨bx, ox + j, none⟩ = some (.int .u64 (t : Int)) := (hz.cell (p := ⟨bx, ox + j, none⟩) hbx).trans PX.out; exact exec_load_at 28 (.tmp 4) rfl b4 rfl (rtA A1 A2 n1 c1 n2 c2) 2 strT rfl (HSR.out.below hz).a4)
          simp only [List.setIfInBounds_toArray, List.set_cons_zero, List.set_cons_succ]
          refine takeH (i := 1) (d := 108) (v := ?vse1) rfl (by kernel_rfl) (by kernel_rfl) (by kernel_rfl) (fun _ _ _ h => h) rfl (by rfl) ?yse1 hS ?rse1
          case yse1 => (intro wz hz; have px : wz.cell? ⟨bx, ox + j, none⟩ = some (.int .u64 (t : Int)) := (hz.cell (p := ⟨bx, ox + j, none⟩) hbx).trans PX.out; go_simp <;> with_reducible rfl)
          simp only [List.setIfInBounds_toArray, List.set_cons_zero, List.set_cons_succ]
          refine takeH (i := 2) (d := 109) (v := ?vse2) rfl (by kernel_rfl) (by kernel_rfl) (by kernel_rfl) (fun _ _ _ h => h) rfl (by rfl) ?yse2 hS ?rse2
          case yse2 => (intro wz hz; have px : wz.cell? ⟨bx, ox + j, none⟩ = some (.int .u64 (t : Int)) := (hz.cell (p := ⟨bx, ox + j, none⟩) hbx).trans PX.out; go_simp <;> with_reducible rfl)
          simp only [List.setIfInBounds_toArray, List.set_cons_zero, List.set_cons_succ]
          refine takeH (i := 3) (d := 110) (v := ?vse3) rfl (by kernel_rfl) (by kernel_rfl) (by kernel_rfl) (fun _ _ _ h => h) rfl (by rfl) ?yse3 hS ?rse3
          case yse3 => (intro wz hz; have px : wz.cell? ⟨bx, ox + j, none⟩ = some (.int .u64 (t : Int)) := (hz.cell (p := ⟨bx, ox + j, none⟩) hbx).trans PX.out; go_simp <;> with_reducible rfl)
          simp only [List.setIfInBounds_toArray, List.set_cons_zero, List.set_cons_succ]
          refine takeH (i := 4) (d := 111) (v := ?vse4) rfl (by kernel_rfl) (by kernel_rfl) (by kernel_rfl) (fun _ _ _ h => h) rfl (by rfl) ?yse4 hS ?rse4
          case yse4 => (intro wz hz; have px : wz.cell? ⟨bx, ox + j, none⟩ = some (.int .u64 (t : Int)) := (hz.cell (p := ⟨bx, ox + j, none⟩) hbx).trans PX.out; go_simp <;> with_reducible rfl)
          simp only [List.setIfInBounds_toArray, List.set_cons_zero, List.set_cons_succ]
          refine wpAnyH_ready (rs := [5]) (by kernel_rfl) (by simp) ?_
          refine AllReadyH.cons rfl (fun K hK => ?_) AllReadyH.nil
          go_simp
          refine (rwaits_s (HSR.out.below hS) t ix HIX.out).mono ?_
          rintro e y1 ⟨rfl, hb⟩
          have Y1 := Lib.hid (hS.trans (hb.mono hS.size))
          refine hK.out _ _ (Y1.out) (fun hT => ?_)
          clear hK hb hS
          have hS := hT
          clear hT
          refine takeH (i := 6) (d := 12) (v := ?vse6) rfl (by kernel_rfl) (by kernel_rfl) (by kernel_rfl) (fun _ _ _ h => h) rfl (by rfl) ?yse6 hS ?rse6
          case yse6 => (intro wz hz; have px : wz.cell? ⟨bx, ox + j, none⟩ = some (.int .u64 (t : Int)) := (hz.cell (p := ⟨bx, ox + j, none⟩) hbx).trans PX.out; go_simp <;> with_reducible rfl)
          simp only [List.setIfInBounds_toArray, List.set_cons_zero, List.set_cons_succ]
          refine wpAnyH_done (by kernel_rfl) ?_ _
          have px2 : y1.cell? ⟨bx, ox + j, none⟩ = some (.int .u64 (t : Int)) := (hS.cell (p := ⟨bx, ox + j, none⟩) hbx).trans PX.out
          have HSY := Lib.hid (HSR.out.below hS)
          have HY := Lib.hid (HR2.out.trans (hS.mono HR2.out.size))
          clear hS Y1 PX HSR
          rcases hww with ⟨hw1, rfl⟩ | ⟨i, hiq, rfl, hw1⟩
          · have HWT := Lib.hid (waits_s HSY.out t HT.out none (by rw [hw1]; rfl) (0, 0) false rfl rfl)
            go_upto_region 18 with fail
            go_wp2_with fail
            refine HWT.out.mono ?_
            rintro e y5 ⟨rfl, hb5⟩
            have HW5 := Lib.hid (HY.out.trans (hb5.mono HY.out.size))
            clear hb5 HWT px2
            go_upto_region 19 with ((with_reducible show wpList _ _ _ (⟨none, _, _, _, _, _⟩ :: _) _ _); refine wpList_store_new 33 (.tmp 13) (.tmp 120) rfl rfl rfl y5.heap.size y5 rfl rfl (rsA (0, 0)) (rsA (0, 0)) 2 rfl strR rfl rfl (rsA_one _) rfl ?_)
            have HW9 := Lib.hid (HW5.out.alloc HW5.out.size (.cells (rsA (0, 0)) 33))
            generalize y5.alloc (.cells (rsA (0, 0)) 33) = w9 at HW9 ⊢
            refine wp_region_held_drew (S := Below w9.heap.size w9) (by kernel_rfl) ((Below.refl _ w9).drew) (fun hS => ?_)
            refine takeH (i := 0) (d := 122) (v := ?vsf00) rfl (by kernel_rfl) (by kernel_rfl) (by kernel_rfl) (fun _ _ _ h => h) rfl (by rfl) ?ysf00 hS ?rsf00
            case ysf00 => (intro wz hz; go_simp <;> with_reducible rfl)
            simp only [List.setIfInBounds_toArray, List.set_cons_zero, List.set_cons_succ]
            refine takeH (i := 1) (d := 123) (v := ?vsf01) rfl (by kernel_rfl) (by kernel_rfl) (by kernel_rfl) (fun _ _ _ h => h) rfl (by rfl) ?ysf01 hS ?rsf01
            case ysf01 => (intro wz hz; go_simp <;> with_reducible rfl)
            simp only [List.setIfInBounds_toArray, List.set_cons_zero, List.set_cons_succ]
            refine takeH (i := 2) (d := 124) (v := ?vsf02) rfl (by kernel_rfl) (by kernel_rfl) (by kernel_rfl) (fun _ _ _ h => h) rfl (by rfl) ?ysf02 hS ?rsf02
            case ysf02 => (intro wz hz; go_simp <;> with_reducible rfl)
            simp only [List.setIfInBounds_toArray, List.set_cons_zero, List.set_cons_succ]
            refine takeH (i := 3) (d := 125) (v := ?vsf03) rfl (by kernel_rfl) (by kernel_rfl) (by kernel_rfl) (fun _ _ _ h => h) rfl (by rfl) ?ysf03 hS ?rsf03
            case ysf03 => (intro wz hz; go_simp <;> with_reducible rfl)
            simp only [List.setIfInBounds_toArray, List.set_cons_zero, List.set_cons_succ]
            refine takeH (i := 4) (d := 126) (v := ?vsf04) rfl (by kernel_rfl) (by kernel_rfl) (by kernel_rfl) (fun _ _ _ h => h) rfl (by rfl) ?ysf04 hS ?rsf04
            case ysf04 => (intro wz hz; go_simp <;> with_reducible rfl)
            simp only [List.setIfInBounds_toArray, List.set_cons_zero, List.set_cons_succ]
            refine takeH (i := 5) (d := 127) (v := ?vsf05) rfl (by kernel_rfl) (by kernel_rfl) (by kernel_rfl) (fun _ _ _ h => h) rfl (by rfl) ?ysf05 hS ?rsf05
            case ysf05 => (intro wz hz; go_simp <;> with_reducible rfl)
            simp only [List.setIfInBounds_toArray, List.set_cons_zero, List.set_cons_succ]
            refine takeH (i := 6) (d := 128) (v := ?vsf06) rfl (by kernel_rfl) (by kernel_rfl) (by kernel_rfl) (fun _ _ _ h => h) rfl (by rfl) ?ysf06 hS ?rsf06
            case ysf06 => (intro wz hz; go_simp <;> with_reducible rfl)
            simp only [List.setIfInBounds_toArray, List.set_cons_zero, List.set_cons_succ]
            refine skipH (i := 7) (d := 129) rfl (by kernel_rfl) (by kernel_rfl) (by kernel_rfl) (fun _ _ _ h => h) rfl (by rfl) hS ?_
            simp only [List.setIfInBounds_toArray, List.set_cons_zero, List.set_cons_succ]
            refine skipH (i := 8) (d := 130) rfl (by kernel_rfl) (by kernel_rfl) (by kernel_rfl) (fun _ _ _ h => h) rfl (by rfl) hS ?_
            simp only [List.setIfInBounds_toArray, List.set_cons_zero, List.set_cons_succ]
            refine skipH (i := 9) (d := 131) rfl (by kernel_rfl) (by kernel_rfl) (by kernel_rfl) (fun _ _ _ h => h) rfl (by rfl) hS ?_
            simp only [List.setIfInBounds_toArray, List.set_cons_zero, List.set_cons_succ]
            refine skipH (i := 10) (d := 132) rfl (by kernel_rfl) (by kernel_rfl) (by kernel_rfl) (fun _ _ _ h => h) rfl (by rfl) hS ?_
            simp only [List.setIfInBounds_toArray, List.set_cons_zero, List.set_cons_succ]
            refine skipH (i := 11) (d := 133) rfl (by kernel_rfl) (by kernel_rfl) (by kernel_rfl) (fun _ _ _ h => h) rfl (by rfl) hS ?_
            simp only [List.setIfInBounds_toArray, List.set_cons_zero, List.set_cons_succ]
            refine skipH (i := 12) (d := 134) rfl (by kernel_rfl) (by kernel_rfl) (by kernel_rfl) (fun _ _ _ h => h) rfl (by rfl) hS ?_
            simp only [List.setIfInBounds_toArray, List.set_cons_zero, List.set_cons_succ]
            refine skipH (i := 13) (d := 135) rfl (by kernel_rfl) (by kernel_rfl) (by kernel_rfl) (fun _ _ _ h => h) rfl (by rfl) hS ?_
            simp only [List.setIfInBounds_toArray, List.set_cons_zero, List.set_cons_succ]
            refine skipH (i := 14) (d := 136) rfl (by kernel_rfl) (by kernel_rfl) (by kernel_rfl) (fun _ _ _ h => h) rfl (by rfl) hS ?_
            simp only [List.setIfInBounds_toArray, List.set_cons_zero, List.set_cons_succ]
            refine takeH (i := 15) (d := 137) (v := ?vsf015) rfl (by kernel_rfl) (by kernel_rfl) (by kernel_rfl) (fun _ _ _ h => h) rfl (by rfl) ?ysf015 hS ?rsf015
            case ysf015 => (intro wz hz; go_simp <;> with_reducible rfl)
            simp only [List.setIfInBounds_toArray, List.set_cons_zero, List.set_cons_succ]
            refine takeH (i := 16) (d := 138) (v := ?vsf016) rfl (by kernel_rfl) (by kernel_rfl) (by kernel_rfl) (fun _ _ _ h => h) rfl (by rfl) ?ysf016 hS ?rsf016
            case ysf016 => (intro wz hz; go_simp <;> with_reducible rfl)
            simp only [List.setIfInBounds_toArray, List.set_cons_zero, List.set_cons_succ]
            refine wpAnyH_done (by kernel_rfl) ?_ _
            have HW8 := Lib.hid (HW9.out.trans (hS.mono HW9.out.size))
            clear hS
            go_wp2_with fail
            exact ⟨⟨j + 1, by omega, by go_num, HW8⟩, by simp [intOf]; omega⟩
          · obtain ⟨cx, hcx⟩ : ∃ cx, u.queue[i] = cx := ⟨_, rfl⟩
            rw [hcx] at hw1
            obtain ⟨x, hxe⟩ : ∃ x, cx.1 = x := ⟨_, rfl⟩
            have HWT := Lib.hid (waits_s HSY.out t HT.out (some x) (by rw [hw1]; exact congrArg some hxe) x true rfl rfl)
            have hq2 := HSY.out.r2.rclen
            obtain ⟨bq, oq, hlq, rfl, hbq0, rq⟩ := HSY.out.r2.rc (k := i) (by omega)
            have RQ0 : Hid (y1.rangeAt bq (oq + i * 4) (encR x)) := fun j v hv => rq j v (by
              rw [hcx]
              subst hxe
              match j, hv with
              | 0, hv => exact hv
              | 1, hv => exact hv)
            have hi2 : i < n2 := by omega
            clear hxe hcx rq hw1 hq2
            go_upto_region 18 with fail
            go_wp2_with fail
            refine HWT.out.mono ?_
            rintro e y5 ⟨rfl, hb5⟩
            have HW5 := Lib.hid (HY.out.trans (hb5.mono HY.out.size))
            have HSV := Lib.hid (HSY.out.below hb5)
            have RQ1 : Hid (y5.rangeAt bq (oq + i * 4) (encR x)) := pl_rangeAt_block RQ0.out (hb5.block bq hbq0)
            have hbq1 : bq < y5.heap.size := Nat.lt_of_lt_of_le hbq0 hb5.size
            clear hb5 HWT px2
            go_upto_region 19 with ((with_reducible show wpList _ _ _ (⟨none, _, _, _, _, _⟩ :: _) _ _); refine wpList_store_new 33 (.tmp 13) (.tmp 120) rfl rfl rfl y5.heap.size y5 rfl rfl (rsA x) (rsA (0, 0)) 2 rfl strR rfl rfl (rsA_one _) rfl ?_)
            have hal : Below y5.heap.size y5 (y5.alloc (.cells (rsA x) 33)) := (Below.refl _ y5).alloc (Nat.le_refl _) _
            have HW9 := Lib.hid (HW5.out.alloc HW5.out.size (.cells (rsA x) 33))
            have HSW := Lib.hid (HSV.out.below hal)
            have A13 : Hid (At (y5.alloc (.cells (rsA x) 33)) y5.heap.size 33 (rsA x)) := At.new y5 _ _
            have RQ : Hid ((y5.alloc (.cells (rsA x) 33)).rangeAt bq (oq + i * 4) (encR x)) := pl_rangeAt_block RQ1.out (hal.block bq hbq1)
            have hbq : bq < (y5.alloc (.cells (rsA x) 33)).heap.size := Nat.lt_of_lt_of_le hbq1 hal.size
            obtain ⟨b13, hb13⟩ : ∃ b13, y5.heap.size = b13 := ⟨_, rfl⟩
            rw [hb13] at A13 ⊢
            generalize y5.alloc (.cells (rsA x) 33) = w9 at HW9 HSW A13 RQ hbq ⊢
            clear hal hb13 HSV RQ1 RQ0 HSY
            have ei : decide ((0 : Int) ≤ (i : Int)) = true := by simp
            refine wp_region_held_drew (S := Below w9.heap.size w9) (by kernel_rfl) ((Below.refl _ w9).drew) (fun hS => ?_)
            refine takeH (i := 0) (d := 122) (v := ?vsf10) rfl (by kernel_rfl) (by kernel_rfl) (by kernel_rfl) (fun _ _ _ h => h) rfl (by rfl) ?ysf10 hS ?rsf10
            case ysf10 => (intro wz hz; have p1 : wz.cell? ⟨b4, 1, none⟩ = some (.slice (some ⟨bq, oq, none⟩) n2 c2) := (HSW.out.below hz).a4.cell 1; go_simp <;> with_reducible rfl)
            simp only [List.setIfInBounds_toArray, List.set_cons_zero, List.set_cons_succ]
            refine takeH (i := 1) (d := 123) (v := ?vsf11) rfl (by kernel_rfl) (by kernel_rfl) (by kernel_rfl) (fun _ _ _ h => h) rfl (by rfl) ?ysf11 hS ?rsf11
            case ysf11 => (intro wz hz; have p1 : wz.cell? ⟨b4, 1, none⟩ = some (.slice (some ⟨bq, oq, none⟩) n2 c2) := (HSW.out.below hz).a4.cell 1; go_simp <;> with_reducible rfl)
            simp only [List.setIfInBounds_toArray, List.set_cons_zero, List.set_cons_succ]
            refine takeH (i := 2) (d := 124) (v := ?vsf12) rfl (by kernel_rfl) (by kernel_rfl) (by kernel_rfl) (fun _ _ _ h => h) rfl (by rfl) ?ysf12 hS ?rsf12
            case ysf12 => (intro wz hz; have p1 : wz.cell? ⟨b4, 1, none⟩ = some (.slice (some ⟨bq, oq, none⟩) n2 c2) := (HSW.out.below hz).a4.cell 1; go_simp <;> with_reducible rfl)
            simp only [List.setIfInBounds_toArray, List.set_cons_zero, List.set_cons_succ]
            refine takeH (i := 3) (d := 125) (v := ?vsf13) rfl (by kernel_rfl) (by kernel_rfl) (by kernel_rfl) (fun _ _ _ h => h) rfl (by rfl) ?ysf13 hS ?rsf13
            case ysf13 => (intro wz hz; have p1 : wz.cell? ⟨b4, 1, none⟩ = some (.slice (some ⟨bq, oq, none⟩) n2 c2) := (HSW.out.below hz).a4.cell 1; go_simp <;> with_reducible rfl)
            simp only [List.setIfInBounds_toArray, List.set_cons_zero, List.set_cons_succ]
            refine takeH (i := 4) (d := 126) (v := ?vsf14) rfl (by kernel_rfl) (by kernel_rfl) (by kernel_rfl) (fun _ _ _ h => h) rfl (by rfl) ?ysf14 hS ?rsf14
            case ysf14 => (intro wz hz; have p1 : wz.cell? ⟨b4, 1, none⟩ = some (.slice (some ⟨bq, oq, none⟩) n2 c2) := (HSW.out.below hz).a4.cell 1; go_simp <;> with_reducible rfl)
            simp only [List.setIfInBounds_toArray, List.set_cons_zero, List.set_cons_succ]
            refine takeH (i := 5) (d := 127) (v := ?vsf15) rfl (by kernel_rfl) (by kernel_rfl) (by kernel_rfl) (fun _ _ _ h => h) rfl (by rfl) ?ysf15 hS ?rsf15
            case ysf15 => (intro wz hz; have p1 : wz.cell? ⟨b4, 1, none⟩ = some (.slice (some ⟨bq, oq, none⟩) n2 c2) := (HSW.out.below hz).a4.cell 1; go_simp <;> with_reducible rfl)
            simp only [List.setIfInBounds_toArray, List.set_cons_zero, List.set_cons_succ]
            refine takeH (i := 6) (d := 128) (v := ?vsf16) rfl (by kernel_rfl) (by kernel_rfl) (by kernel_rfl) (fun _ _ _ h => h) rfl (by rfl) ?ysf16 hS ?rsf16
            case ysf16 => (intro wz hz; have p1 : wz.cell? ⟨b4, 1, none⟩ = some (.slice (some ⟨bq, oq, none⟩) n2 c2) := (HSW.out.below hz).a4.cell 1; go_simp <;> with_reducible rfl)
            simp only [List.setIfInBounds_toArray, List.set_cons_zero, List.set_cons_succ]
            refine takeH (i := 7) (d := 129) (v := .agg (rsA x)) rfl (by kernel_rfl) (by kernel_rfl) (by kernel_rfl) (fun _ _ _ h => h) rfl (by rfl) ?ysf17 hS ?rsf17
            case ysf17 => (intro wz hz; have p1 : wz.cell? ⟨b4, 1, none⟩ = some (.slice (some ⟨bq, oq, none⟩) n2 c2) := (HSW.out.below hz).a4.cell 1; exact exec_load_at 33 (.tmp 13) rfl b13 rfl (rsA x) 2 strR rfl (A13.out.under hz A13.out.lt))
            simp only [List.setIfInBounds_toArray, List.set_cons_zero, List.set_cons_succ]
            refine takeH (i := 8) (d := 130) (v := ?vsf18) rfl (by kernel_rfl) (by kernel_rfl) (by kernel_rfl) (fun _ _ _ h => h) rfl (by rfl) ?ysf18 hS ?rsf18
            case ysf18 => (intro wz hz; have p1 : wz.cell? ⟨b4, 1, none⟩ = some (.slice (some ⟨bq, oq, none⟩) n2 c2) := (HSW.out.below hz).a4.cell 1; go_simp <;> with_reducible rfl)
            simp only [List.setIfInBounds_toArray, List.set_cons_zero, List.set_cons_succ]
            refine takeH (i := 9) (d := 131) (v := ?vsf19) rfl (by kernel_rfl) (by kernel_rfl) (by kernel_rfl) (fun _ _ _ h => h) rfl (by rfl) ?ysf19 hS ?rsf19
            case ysf19 => (intro wz hz; have p1 : wz.cell? ⟨b4, 1, none⟩ = some (.slice (some ⟨bq, oq, none⟩) n2 c2) := (HSW.out.below hz).a4.cell 1; go_simp <;> with_reducible rfl)
            simp only [List.setIfInBounds_toArray, List.set_cons_zero, List.set_cons_succ]
            refine takeH (i := 10) (d := 132) (v := ?vsf110) rfl (by kernel_rfl) (by kernel_rfl) (by kernel_rfl) (fun _ _ _ h => h) rfl (by rfl) ?ysf110 hS ?rsf110
            case ysf110 => (intro wz hz; have p1 : wz.cell? ⟨b4, 1, none⟩ = some (.slice (some ⟨bq, oq, none⟩) n2 c2) := (HSW.out.below hz).a4.cell 1; go_simp <;> with_reducible rfl)
            simp only [List.setIfInBounds_toArray, List.set_cons_zero, List.set_cons_succ]
            refine takeH (i := 11) (d := 133) (v := ?vsf111) rfl (by kernel_rfl) (by kernel_rfl) (by kernel_rfl) (fun _ _ _ h => h) rfl (by rfl) ?ysf111 hS ?rsf111
            case ysf111 => (intro wz hz; have p1 : wz.cell? ⟨b4, 1, none⟩ = some (.slice (some ⟨bq, oq, none⟩) n2 c2) := (HSW.out.below hz).a4.cell 1; go_simp <;> with_reducible rfl)
            simp only [List.setIfInBounds_toArray, List.set_cons_zero, List.set_cons_succ]
            refine takeH (i := 12) (d := 134) (v := ?vsf112) rfl (by kernel_rfl) (by kernel_rfl) (by kernel_rfl) (fun _ _ _ h => h) rfl (by rfl) ?ysf112 hS ?rsf112
            case ysf112 => (intro wz hz; have p1 : wz.cell? ⟨b4, 1, none⟩ = some (.slice (some ⟨bq, oq, none⟩) n2 c2) := (HSW.out.below hz).a4.cell 1; go_simp <;> with_reducible rfl)
            simp only [List.setIfInBounds_toArray, List.set_cons_zero, List.set_cons_succ]
            refine takeH (i := 13) (d := 135) (v := .agg (rsA x)) rfl (by kernel_rfl) (by kernel_rfl) (by kernel_rfl) (fun _ _ _ h => h) rfl (by rfl) ?ysf113 hS ?rsf113
            case ysf113 => (intro wz hz; have p1 : wz.cell? ⟨b4, 1, none⟩ = some (.slice (some ⟨bq, oq, none⟩) n2 c2) := (HSW.out.below hz).a4.cell 1; exact exec_load_in 33 (.tmp 134) rfl bq (oq + i * 4) rfl (encR x) 2 strR rfl (pl_rangeAt_block RQ.out (hz.block bq hbq)))
            simp only [List.setIfInBounds_toArray, List.set_cons_zero, List.set_cons_succ]
            refine takeH (i := 14) (d := 136) (v := .bool false) rfl (by kernel_rfl) (by kernel_rfl) (by kernel_rfl) (fun _ _ _ h => h) rfl (by rfl) ?ysf114 hS ?rsf114
            case ysf114 => (intro wz hz; have p1 : wz.cell? ⟨b4, 1, none⟩ = some (.slice (some ⟨bq, oq, none⟩) n2 c2) := (HSW.out.below hz).a4.cell 1; exact exec_neR (.tmp 129) (.tmp 135) rfl x rfl rfl)
            simp only [List.setIfInBounds_toArray, List.set_cons_zero, List.set_cons_succ]
            refine takeH (i := 15) (d := 137) (v := ?vsf115) rfl (by kernel_rfl) (by kernel_rfl) (by kernel_rfl) (fun _ _ _ h => h) rfl (by rfl) ?ysf115 hS ?rsf115
            case ysf115 => (intro wz hz; have p1 : wz.cell? ⟨b4, 1, none⟩ = some (.slice (some ⟨bq, oq, none⟩) n2 c2) := (HSW.out.below hz).a4.cell 1; go_simp <;> with_reducible rfl)
            simp only [List.setIfInBounds_toArray, List.set_cons_zero, List.set_cons_succ]
            refine takeH (i := 16) (d := 138) (v := ?vsf116) rfl (by kernel_rfl) (by kernel_rfl) (by kernel_rfl) (fun _ _ _ h => h) rfl (by rfl) ?ysf116 hS ?rsf116
            case ysf116 => (intro wz hz; have p1 : wz.cell? ⟨b4, 1, none⟩ = some (.slice (some ⟨bq, oq, none⟩) n2 c2) := (HSW.out.below hz).a4.cell 1; go_simp <;> with_reducible rfl)
            simp only [List.setIfInBounds_toArray, List.set_cons_zero, List.set_cons_succ]
            refine wpAnyH_done (by kernel_rfl) ?_ _
            have HW8 := Lib.hid (HW9.out.trans (hS.mono HW9.out.size))
            clear hS
            go_wp2_with fail
            exact ⟨⟨j + 1, by omega, by go_num, HW8⟩, by simp [intOf]; omega⟩
        · obtain rfl : j = nX := by omega
          go_wp2_with fail
          go_ret
          exact ⟨rfl, HSB.out.low.trans (HR2.out.mono HSB.out.low.size)⟩
end Go.Proofs.YthbifccankfngaaGreatDoor
