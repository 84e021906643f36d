/-
  The walk of wal.Join over sectors that hold entries as far as they are kept, and zeros besides.
  Conditions: at most 2000 sectors; entries that bear their numbers and that entry.Put takes.
-/
import Derived.Test.YthicidpdgggbjaaDoorK7Q
import Derived.WalkMore
namespace Go.Proofs.YthicidpdgggbjaaDoor
open Go.RowKit
set_option maxRecDepth 8000

theorem isE_enc {e : Ent} (h : Gd e) : isE (entL e) = true ∧ reEnt (entL e, false) = e := by
  obtain ⟨h1, h2, h3⟩ := re_put e h.ok (chk_zero h.chk)
  refine ⟨?_, h2⟩
  rw [isE, h1, h2, h3, h.chk]
  rfl
/-- An entry comes back, its slices new. -/
def GtE (w : World) (e : Ent) (o : Ending) (w' : World) : Prop :=
  ∃ r : Er, r.e = e ∧ o = .returned (.tuple #[.agg (erA r), .int .i64 0]) ∧ ELz (fun k => k < w.heap.size) w' r ∧ Below w.heap.size w w'
theorem get_enc (n c : Nat) (A : Option Addr) (e : Ent) (w : World) (h : Lies w w.heap.size 1 A n (BC (enc e))) (hn : n ≤ 9000) (hc : n ≤ c) (hg : Gd e) : Calls Tryd.prog 49 #[.slice A n c] w (GtE w e) := by
  have hl : (enc e).length = n := by have := h.len; rw [BC_length] at this; omega
  have hl2 : n = (entL e).length + 4 := by rw [← hl, enc, sealL_length]
  have ht : (enc e).take (entL e).length = entL e := by rw [enc, sealL, List.take_left]
  have hd : (enc e).drop (entL e).length = Crc.le4 (Crc.sumN (entL e)) := by rw [enc, sealL, List.drop_left]
  refine (get_body n c A (enc e) w (entL e).length (entL e) h hn hc hl2 (by rw [ht, hd]; simp) ht.symm).mono ?_
  obtain ⟨h1, h2⟩ := isE_enc hg
  intro r w'
  rw [Gt, if_pos h1, h2]
  rintro ⟨PA, np, pc, QA, na, qc, rfl, hel, hfr, hb⟩
  exact ⟨⟨e, PA, np, pc, QA, na, qc⟩, rfl, rfl, ELz.of_el hel fun a ha => by have := hfr a ha; omega, hb⟩

/-- The bytes that have been read of the entry with number m. -/
def curB (es : List Ent) (m j : Nat) : List UInt8 := match es[m]? with
  | some e => (enc e).take (54 * j)
  | none => []
theorem curB_zero (es : List Ent) (m : Nat) : curB es m 0 = [] := by
  unfold curB
  cases es[m]? <;> simp
theorem curB_get {es : List Ent} {m : Nat} (hm : m < es.length) (j : Nat) : curB es m j = (enc es[m]).take (54 * j) := by
  unfold curB
  rw [List.getElem?_eq_getElem hm]
theorem curB_succ {es : List Ent} {m : Nat} (hm : m < es.length) (j : Nat) : curB es m j ++ share (enc es[m]) j = curB es m (j + 1) := by
  rw [curB_get hm, curB_get hm, take_share]
theorem curB_all {es : List Ent} {m : Nat} (hm : m < es.length) {j : Nat} (hj : wid es[m] ≤ j) : curB es m j = enc es[m] := by
  rw [curB_get hm, take_all _ hj]
def AvJ (w : World) (vE vb : Value) : Nat → Prop := fun k => k < w.heap.size ∨ vE.ownBlock = some k ∨ vb.ownBlock = some k
theorem ent_info2 : (Tryd.prog.info? 42).map (fun i => (i.zero, i.size)) = some (some (.agg zE), 13) := by kernel_rfl
theorem Mod.of_grown {z z' : World} {row : Option Nat} (hg : z.grownBy z' row) : Mod (fun k => row = some k) z z' := (Mod.refl _ z).grown hg (fun _ hk => .inl hk)
theorem ELz.step {X Y : Nat → Prop} {z z' : World} {r : Er} (h : ELz X z r) (hm : Mod X z z') (hY : ∀ k, k < z.heap.size → Y k → X k) : ELz Y z' r :=
  ((h.mono (Y := fun k => X k ∨ Y k) (fun k hk h => h.elim id (hY k hk))).kept (hm.mono fun _ _ h => .inl h)).mono fun _ _ h => .inr h
/-- What stands at the head of each round. -/
structure JS (w : World) (es : List Ent) (m j : Nat) (vE : Value) (rs : List Er) (vb : Value) (lb : Nat) (z : World) : Prop where
  le : m ≤ es.length
  ents : rs.map (·.e) = es.take m
  oe : z.ownsRow w.heap.size 42 13 vE m (flatE rs)
  ob : z.ownsRow w.heap.size 5 1 vb lb (BC (curB es m j))
  els : ∀ r ∈ rs, ELz (AvJ w vE vb) z r
  low : Below w.heap.size w z
section
variable {w z z' : World} {es : List Ent} {m j lb lb' : Nat} {vE vb vb' vE' : Value} {rs : List Er}
theorem JS.call (h : JS w es m j vE rs vb lb z) (hb : Below z.heap.size z z') : JS w es m j vE rs vb lb z' :=
  ⟨h.le, h.ents, own_under h.oe hb (Nat.le_refl _), own_under h.ob hb (Nat.le_refl _), fun r hr => (h.els r hr).below hb, h.low.trans (hb.mono h.low.size)⟩
theorem JS.ne (h : JS w es m j vE rs vb lb z) : ∀ g, vE.ownBlock = some g → g < z.heap.size ∧ vb.ownBlock ≠ some g := fun g hg => by
  obtain ⟨_, cur, hc⟩ := own_cells h.oe hg
  exact ⟨(Array.getElem?_eq_some_iff.1 hc).1, fun e => own_ne h.ob (show At z g 42 cur from hc) (by decide) e.symm⟩
theorem JS.nb (h : JS w es m j vE rs vb lb z) : ∀ g, vb.ownBlock = some g → g < z.heap.size ∧ vE.ownBlock ≠ some g := fun g hg => by
  obtain ⟨_, cur, hc⟩ := own_cells h.ob hg
  exact ⟨(Array.getElem?_eq_some_iff.1 hc).1, fun e => own_ne h.oe (show At z g 5 cur from hc) (by decide) e.symm⟩
theorem JS.lbd (h : JS w es m j vE rs vb lb z) (hn : Numd es 0) : lb ≤ 6016 := by
  have h1 := own_n h.ob
  rw [← h1]
  unfold curB
  cases he : es[m]? with
  | none => simp
  | some e =>
    obtain ⟨hm, rfl⟩ := List.getElem?_eq_some_iff.1 he
    have h2 := (enc_len (numd_get hn hm).2).2
    simp only [List.length_take]
    omega
/-- Bytes are appended to those of the entry. -/
theorem JS.more (h : JS w es m j vE rs vb lb z) {j' : Nat} (ho : z'.ownsRow w.heap.size 5 1 vb' lb' (BC (curB es m j'))) (hg : z.grownBy z' vb.ownBlock) (hv : vb'.ownBlock = vb.ownBlock ∨ vb'.ownBlock = some z.heap.size) : JS w es m j' vE rs vb' lb' z' :=
  ⟨h.le, h.ents, own_keep h.oe fun g hgE => hg.block g (h.ne g hgE).1 (fun e => (h.ne g hgE).2 e.symm), ho, fun r hr => (h.els r hr).step ((Mod.of_grown hg).mono fun k _ hk => .inr (.inr hk)) fun k hk hy => by
    rcases hy with hy | hy | hy
    · exact .inl hy
    · exact .inr (.inl hy)
    · rcases hv with hv | hv
      · exact .inr (.inr (hv ▸ hy))
      · rw [hv] at hy
        injection hy with hy
        omega, h.low.grown hg h.low.size fun g hg => (own_cells h.ob hg).1⟩
/-- The entry is whole: it is appended, and its bytes are let go. -/
theorem JS.push (h : JS w es m j vE rs vb lb z) {r : Er} (hm : m < es.length) (hr : r.e = es[m]) (hz : ELz (AvJ w vE vb) z r) (ho : z'.ownsRow w.heap.size 42 13 vE' (m + 1) (flatE rs ++ erL r)) (hg : z.grownBy z' vE.ownBlock)
    (hv : vE'.ownBlock = vE.ownBlock ∨ vE'.ownBlock = some z.heap.size) : JS w es (m + 1) 0 vE' (rs ++ [r]) (.slice none 0 0) 0 z' := by
  have key : ∀ r', ELz (AvJ w vE vb) z r' → ELz (AvJ w vE' (.slice none 0 0)) z' r' := fun r' h' => h'.step ((Mod.of_grown hg).mono fun k _ hk => .inr (.inl hk)) fun k hk hy => by
    rcases hy with hy | hy | hy
    · exact .inl hy
    · rcases hv with hv | hv
      · exact .inr (.inl (hv ▸ hy))
      · rw [hv] at hy
        injection hy with hy
        omega
    · cases hy
  refine ⟨hm, ?_, ?_, by rw [curB_zero]; exact World.ownsRow_nil _ _ _ _, ?_, h.low.grown hg h.low.size fun g hg => (own_cells h.oe hg).1⟩
  · rw [List.map_append, h.ents, List.take_succ_eq_append_getElem hm, List.map_cons, List.map_nil, hr]
  · rw [flatE_append, flatE_single]
    exact ho
  · intro r' hr'
    rcases List.mem_append.1 hr' with hr' | hr'
    · exact key r' (h.els r' hr')
    · rw [List.mem_singleton.1 hr']
      exact key r hz
end
/-- What Join returns. -/
def JoinR (w : World) (es : List Ent) (kept : Nat → Bool) (e : Ending) (w' : World) : Prop :=
  ∃ (m : Nat) (v : Value) (rs : List Er), IsWhole es kept m ∧ e = .returned (.tuple #[v, .int .i64 ((pos (es.take m) : Nat) : Int)]) ∧ rs.map (·.e) = es.take m ∧ w'.ownsRow w.heap.size 42 13 v m (flatE rs) ∧
    (∀ r ∈ rs, ELz (fun k => k < w.heap.size ∨ v.ownBlock = some k) w' r) ∧ Below w.heap.size w w'
theorem JS.fin {w z : World} {es : List Ent} {kept : Nat → Bool} {m j lb : Nat} {vE vb : Value} {rs : List Er} (h : JS w es m j vE rs vb lb z) (hw : IsWhole es kept m) :
    JoinR w es kept (.returned (.tuple #[vE, .int .i64 ((pos (es.take m) : Nat) : Int)])) z :=
  ⟨m, vE, rs, hw, rfl, h.ents, h.oe, fun r hr => (h.els r hr).mono fun k _ hk => by
    rcases hk with hk | hk
    · exact .inl hk
    · exact .inr (.inl hk), h.low⟩
theorem JS.fin' {w z z' : World} {es : List Ent} {kept : Nat → Bool} {m j lb : Nat} {vE vb : Value} {rs : List Er} (h : JS w es m j vE rs vb lb z) (hg : z.grownBy z' vb.ownBlock) (hw : IsWhole es kept m) :
    JoinR w es kept (.returned (.tuple #[vE, .int .i64 ((pos (es.take m) : Nat) : Int)])) z' :=
  ⟨m, vE, rs, hw, rfl, h.ents, own_keep h.oe fun g hgE => hg.block g (h.ne g hgE).1 (fun e => (h.ne g hgE).2 e.symm), fun r hr => (h.els r hr).step ((Mod.of_grown hg).mono fun k _ hk => .inr (.inr hk)) fun k _ hk => by
    rcases hk with hk | hk
    · exact .inl hk
    · exact .inr (.inl hk), h.low.grown hg h.low.size fun g hg => (own_cells h.ob hg).1⟩
/-- How far Join has come. -/
structure JP (es : List Ent) (kept : Nat → Bool) (n m j p : Nat) : Prop where
  le : m ≤ es.length
  pe : p = pos (es.take m)
  pn : p + j ≤ n
  part : j = 0 ∨ ∃ h : m < es.length, j < wid es[m]
  all : ∀ k, k < p + j → kept k = true
def JR (w : World) (es : List Ent) (kept : Nat → Bool) (n : Nat) (en b tk i : Value) (wr : World) : Prop :=
  ∃ (m j p q : Nat) (AE : Option Addr) (cE : Nat) (rs : List Er) (Ab : Option Addr) (lb cb : Nat), q ≤ n ∧ Hid (q = p + j) ∧ Hid (JP es kept n m j p) ∧ en = .slice AE m cE ∧ b = .slice Ab lb cb ∧ tk = .int .i64 (p : Int) ∧ i = .int .i64 (q : Int) ∧ Hid (JS w es m j (.slice AE m cE) rs (.slice Ab lb cb) lb wr)
section
variable {S : List Sect} {es : List Ent} {kept : Nat → Bool} {n m j p : Nat}
theorem JP.wd (h : JP es kept n m j p) (hn : Numd es 0) (hm : m < es.length) : j < wid es[m] := by
  rcases h.part with rfl | ⟨_, h⟩
  · exact (wid_ok (numd_get hn hm).2).1
  · exact h
theorem JP.lt (h : JP es kept n m j p) (hn : Numd es 0) (hm : m < es.length) : p + j < pos es := by
  have h1 := h.wd hn hm
  have h2 := pos_take_succ hm
  have h3 := pos_take_le es (m + 1)
  rw [h.pe]
  omega
theorem len_pos : ∀ {es : List Ent} {p : Nat}, Numd es p → es.length ≤ pos es
  | [], _, _ => Nat.zero_le _
  | e :: r, p, h => by
    have h1 := len_pos h.2.2
    have h2 := (wid_ok h.2.1).1
    rw [pos_cons, List.length_cons]
    omega
theorem JP.mp (h : JP es kept n m j p) (hn : Numd es 0) : m ≤ p := by
  have h1 := len_pos (numd_take m hn)
  rw [h.pe]
  have h2 := h.le
  rw [List.length_take] at h1
  omega
/-- The sectors end here. -/
theorem JP.fin (h : JP es kept n m j p) (hh : Held S es kept) (hn : Numd es 0) (hl : S.length = n) (he : p + j = n) : IsWhole es kept m :=
  isWhole_of (j := j) h.le (by rw [← h.pe]; exact h.all) fun hm => ⟨h.wd hn hm, by
    rw [← h.pe]
    by_cases hk : kept (p + j) = true
    · have h1 := hh.yes _ (h.lt hn hm) hk
      rw [List.getElem?_eq_none (by omega), List.getElem?_eq_getElem (by rw [lay_length]; exact h.lt hn hm)] at h1
      cases h1
    · simpa using hk⟩
/-- The sector is kept. -/
theorem JP.yes (h : JP es kept n m j p) (hh : Held S es kept) (hn : Numd es 0) (hm : m < es.length) (hk : kept (p + j) = true) :
    S[p + j]? = some (secOf (share (enc es[m]) j) (p + j + 1) (j == 0) (j + 1 == wid es[m])) := by
  have := hh.at hm (h.wd hn hm) (by rw [← h.pe]; exact hk)
  rwa [← h.pe] at this
/-- The sector is not kept, or there is no entry any more. -/
theorem JP.no (h : JP es kept n m j p) (hh : Held S es kept) (hn : Numd es 0) (hl : S.length = n) (hlt : p + j < n) (hno : ¬ (m < es.length ∧ kept (p + j) = true)) : S[p + j]? = some zsec ∧ IsWhole es kept m := by
  have hs : ∀ o : Option Sect, S[p + j]? = none ∨ S[p + j]? = some zsec → S[p + j]? = some zsec := fun _ h => by
    rcases h with h | h
    · rw [List.getElem?_eq_none_iff] at h
      omega
    · exact h
  by_cases hm : m < es.length
  · have hk : kept (p + j) = false := by
      cases hk : kept (p + j)
      · rfl
      · exact absurd ⟨hm, hk⟩ hno
    exact ⟨hs none (hh.no _ (h.lt hn hm) hk), isWhole_of (j := j) h.le (by rw [← h.pe]; exact h.all) fun hm => ⟨h.wd hn hm, by rw [← h.pe]; exact hk⟩⟩
  · have hme : m = es.length := by have := h.le; omega
    have hj : j = 0 := by
      rcases h.part with h | ⟨h, _⟩
      · exact h
      · exact absurd h hm
    refine ⟨hs none (hh.rest _ ?_), isWhole_of (j := j) h.le (by rw [← h.pe]; exact h.all) fun hm' => absurd hm' hm⟩
    rw [h.pe, hme, List.take_length]
    omega
theorem JP.more (h : JP es kept n m j p) (hm : m < es.length) (hk : kept (p + j) = true) (hlt : p + j < n) (hw : j + 1 < wid es[m]) : JP es kept n m (j + 1) p :=
  ⟨h.le, h.pe, by omega, .inr ⟨hm, hw⟩, fun k hk' => by
    by_cases e : k = p + j
    · rw [e]; exact hk
    · exact h.all k (by omega)⟩
theorem JP.push (h : JP es kept n m j p) (hm : m < es.length) (hk : kept (p + j) = true) (hlt : p + j < n) (hw : j + 1 = wid es[m]) : JP es kept n (m + 1) 0 (p + j + 1) :=
  ⟨hm, by rw [pos_take_succ hm, ← h.pe, ← hw]; omega, by omega, .inl rfl, fun k hk' => by
    by_cases e : k = p + j
    · rw [e]; exact hk
    · exact h.all k (by omega)⟩
end

set_option maxHeartbeats 3200000 in
theorem join_any (X : Nat → Prop) (n c : Nat) (A : Option Addr) (S : List Sect) (es : List Ent) (kept : Nat → Bool) (w : World) (hS : Lz X w 64 A n (flat S)) (hn : n ≤ 2000) (hh : Held S es kept) (hnum : Numd es 0) :
    Calls Tryd.prog 23 #[.slice A n c] w (JoinR w es kept) := by
  have hl : S.length = n := by have := hS.len; rw [flat_length] at this; omega
  obtain ⟨i0, hi0, hz0, hz1, hz2⟩ := info_parts u8_info
  obtain ⟨i1, hi1, hy0, hy1, hy2⟩ := info_parts ent_info
  have HS := Lib.hid hS
  have HL := Lib.hid hl
  have HH := Lib.hid hh
  have HNM := Lib.hid hnum
  clear hS hl hh hnum
  go_enter Tryd.func23, Tryd.ntmps23
  go_wp2_with fail
  go_step3
  go_wp2_with fail
  go_step3
  go_wp2_with fail
  go_loopw [4, 5, 6, 16] (fun en b tk i wr => JR w es kept n en b tk i wr) (fun _ _ _ i _ => n - (intOf i).toNat)
  case atStart => exact ⟨0, 0, 0, 0, none, 0, [], none, 0, 0, Nat.zero_le _, rfl, ⟨Nat.zero_le _, rfl, Nat.zero_le _, .inl rfl, fun k hk => by omega⟩, rfl, rfl, rfl, rfl, Nat.zero_le _, rfl, World.ownsRow_nil _ _ _ _, by rw [curB_zero]; exact World.ownsRow_nil _ _ _ _, fun r hr => by simp at hr, Below.refl _ _⟩
  case round =>
    obtain ⟨m, j, p, q, AE, cE, rs, Ab, lb, cb, hpn, HQ, HP, rfl, rfl, rfl, rfl, HJ⟩ := hrel
    by_cases hlt : q < n
    · obtain ⟨b, o, rfl, _, _, hR⟩ := (HS.out.kept ((Mod.refl X w).trans (Mod.of_below HJ.out.low X))).spot (by omega)
      obtain ⟨s, hs⟩ : ∃ s, S[q]? = some s := ⟨S[q]'(by rw [HL.out]; exact hlt), List.getElem?_eq_getElem _⟩
      have R1 : Hid (wr.rangeAt b (o + q * 64) (sec s)) := by
        have := flat_range hR (k := q) (by rw [HL.out]; exact hlt)
        rw [List.getElem?_eq_getElem (by rw [HL.out]; exact hlt)] at hs
        injection hs with hs
        rw [hs] at this
        exact this
      have HSS := Lib.hid hs
      obtain ⟨bf, hbf⟩ : ∃ bf : Bool, bf = (j == 0) := ⟨_, rfl⟩
      have tf : ((q : Int) == (p : Int)) = bf := by rw [hbf, HQ.out, Bool.eq_iff_iff]; simp; omega
      have HBF := Lib.hid hbf
      obtain ⟨m1, hm1⟩ : ∃ m1, m1 = q + 1 := ⟨_, rfl⟩
      have u1 : IntKind.u64.wrap (q : Int) = (q : Int) := by rw [IntKind.wrap_u64]; omega
      have u2 : (q : Int) + 1 = (m1 : Int) := by omega
      have u3 : IntKind.u64.wrap (m1 : Int) = (m1 : Int) := by rw [IntKind.wrap_u64]; omega
      have HM1 := Lib.hid hm1
      have hml : m1 < 18446744073709551616 := by omega
      have hJz := HJ.out.call ((Below.refl _ wr).alloc (Nat.le_refl _) (.cells (secA s) 68))
      have HZ := Lib.hid hJz
      clear hR hs hbf hm1 hJz
      have R8 := Lib.hid (At.new wr 68 (secA s))
      have hlb : lb ≤ 6016 := HJ.out.lbd HNM.out
      have hpq : p ≤ q := by have := HQ.out; omega
      have hmp : m ≤ p := HP.out.mp HNM.out
      by_cases hyes : m < es.length ∧ kept (p + j) = true
      · obtain ⟨hm, hk⟩ := hyes
        obtain ⟨sh, hsh⟩ : ∃ sh, sh = share (enc es[m]) j := ⟨_, rfl⟩
        obtain ⟨la, hla⟩ : ∃ la : Bool, la = (j + 1 == wid es[m]) := ⟨_, rfl⟩
        obtain rfl : s = secOf sh m1 bf la := by
          have h1 := HP.out.yes HH.out HNM.out hm hk
          have h2 := HSS.out
          rw [HQ.out, h1] at h2
          injection h2 with h2
          rw [← h2, hsh, hla, HBF.out, HM1.out, HQ.out]
        have hwd := HP.out.wd HNM.out hm
        have hgd := (numd_get HNM.out hm).2
        have hlsn : es[m].lsn = p + 1 := by have := (numd_get HNM.out hm).1; rw [HP.out.pe]; omega
        obtain ⟨ns, hns⟩ : ∃ ns, sh.length = ns := ⟨_, rfl⟩
        have hs1 : 1 ≤ ns := by rw [← hns, hsh]; exact (share_ok hwd).1
        have hs54 : ns ≤ 54 := by rw [← hns, hsh]; exact (share_ok hwd).2
        have hsl : la = false → 54 ≤ ns := fun h => by
          rw [hla, beq_eq_false_iff_ne] at h
          rw [← hns, hsh]
          have : (share (enc es[m]) j).length = 54 := share_full (by unfold wid at hwd h; omega)
          omega
        have HSL := Lib.hid hsl
        have HNS := Lib.hid hns
        have HCB := Lib.hid (show BC (curB es m j) ++ BC sh = BC (curB es m (j + 1)) by rw [← BC_append, hsh, curB_succ hm])
        have HLA := Lib.hid hla
        have HK := Lib.hid hk
        have HGD := Lib.hid hgd
        have HLSN := Lib.hid hlsn
        have HWD := Lib.hid hwd
        clear hsl hns hsh hla hk hgd hlsn hwd
        cases la with
        | false =>
          have hwm : j + 1 < wid es[m] := by
            have h1 := HLA.out.symm
            rw [beq_eq_false_iff_ne] at h1
            have := HWD.out
            omega
          have HPM := Lib.hid (HP.out.more hm HK.out (by rw [← HQ.out]; exact hlt) hwm)
          go_wp2_with (first
            | refine wpList_load_sec 20 (.tmp 19) rfl rfl rfl b (o + q * 64) rfl (secOf sh m1 bf false) R1.out ?_
            | (refine wpList_store_new 68 (.tmp 8) (.tmp 20) rfl rfl rfl wr.heap.size wr rfl rfl (secA (secOf sh m1 bf false)) (secA zsec) 64 rfl strS (secA_size _) (secA_size _) (secA_one _) rfl ?_)
            | (refine wpList_load_at 68 22 (.tmp 8) rfl rfl rfl wr.heap.size rfl (secA (secOf sh m1 bf false)) 64 strS (secA_size _) R8.out ?_)
            | (go_at_call 48; refine (share_any ns m1 sh bf false _ HNS.out hs1 hs54 HSL.out hml).mono ?_; rintro e z1 ⟨A1, rfl, hl1, hb⟩; have HZ1 := Lib.hid (HZ.out.call hb); have L1 := Lib.hid hl1; clear hb hl1)
            | (at_builtin; refine wpList_app2 _ rfl (.tmp 33) (.tmp 34) _ rfl w.heap.size 5 i0 _ 1 1 Tryd.underlying59 hi0 hz0 hz1 hz2 rfl (by omega) _ _ _ rfl HZ1.out.ob _ A1 ns 54 _ rfl L1.out (BC_one _) (by omega) (by simp only [maxLen]; omega) (by omega) HZ1.out.low.size ?_
               intro v2 z2 ho2 hg2 hv2
               rw [HCB.out] at ho2
               have HZ2 := Lib.hid (HZ1.out.more ho2 hg2 hv2)
               clear hg2 ho2 hv2)
            )
          obtain ⟨A9, c9, h9, _⟩ := own_slice HZ2.out.ob
          subst h9
          refine ⟨⟨m, j + 1, p, q + 1, AE, cE, rs, A9, lb + ns, c9, by omega, ?_, HPM, rfl, rfl, rfl, by go_num, HZ2⟩, by simp [intOf]; omega⟩
          show _ = _
          have := HQ.out
          omega
        | true =>
          have hwm : j + 1 = wid es[m] := by
            have h1 := HLA.out.symm
            rwa [beq_iff_eq] at h1
          have HPM := Lib.hid (HP.out.push hm HK.out (by rw [← HQ.out]; exact hlt) hwm)
          have HCA := Lib.hid (show curB es m (j + 1) = enc es[m] from curB_all hm (Nat.le_of_eq hwm.symm))
          obtain ⟨m2, hm2⟩ : ∃ m2, m2 = p + 1 := ⟨_, rfl⟩
          have v1 : IntKind.u64.wrap (p : Int) = (p : Int) := by rw [IntKind.wrap_u64]; omega
          have v2e : (p : Int) + 1 = (m2 : Int) := by omega
          have v3 : IntKind.u64.wrap (m2 : Int) = (m2 : Int) := by rw [IntKind.wrap_u64]; omega
          have v4 : ((es[m].lsn : Nat) : Int) = (m2 : Int) := by rw [HLSN.out, hm2]
          clear hm2 hwm
          generalize hge : es[m] = em at *
          have HGE := Lib.hid hge
          clear hge
          go_wp2_with (first
            | refine wpList_load_sec 20 (.tmp 19) rfl rfl rfl b (o + q * 64) rfl (secOf sh m1 bf true) R1.out ?_
            | (refine wpList_store_new 68 (.tmp 8) (.tmp 20) rfl rfl rfl wr.heap.size wr rfl rfl (secA (secOf sh m1 bf true)) (secA zsec) 64 rfl strS (secA_size _) (secA_size _) (secA_one _) rfl ?_)
            | (refine wpList_load_at 68 22 (.tmp 8) rfl rfl rfl wr.heap.size rfl (secA (secOf sh m1 bf true)) 64 strS (secA_size _) R8.out ?_)
            | (go_at_call 48; refine (share_any ns m1 sh bf true _ HNS.out hs1 hs54 HSL.out hml).mono ?_; rintro e z1 ⟨A1, rfl, hl1, hb⟩; have HZ1 := Lib.hid (HZ.out.call hb); have L1 := Lib.hid hl1; clear hb hl1)
            | (at_builtin; refine wpList_app2 _ rfl (.tmp 33) (.tmp 34) _ rfl w.heap.size 5 i0 _ 1 1 Tryd.underlying59 hi0 hz0 hz1 hz2 rfl (by omega) _ _ _ rfl HZ1.out.ob _ A1 ns 54 _ rfl L1.out (BC_one _) (by omega) (by simp only [maxLen]; omega) (by omega) HZ1.out.low.size ?_
               intro v2 z2 ho2 hg2 hv2
               rw [HCB.out] at ho2
               have HZ2 := Lib.hid (HZ1.out.more ho2 hg2 hv2)
               clear hg2 ho2 hv2)
            | (go_at_call 49
               obtain ⟨A9, c9, h9, hc9, _⟩ := own_slice HZ2.out.ob
               subst h9
               have hL := Lies.of_own HZ2.out.ob
               rw [HCA.out] at hL
               refine (get_enc (lb + ns) c9 A9 em _ hL (by omega) hc9 HGD.out).mono ?_
               clear hL
               rintro e z4 ⟨r, hre, rfl, hel, hb4⟩
               have HRE := Lib.hid hre
               have HZ4 := Lib.hid (HZ2.out.call hb4)
               have EL4 := Lib.hid (show ELz (AvJ w (.slice AE m cE) (.slice A9 (lb + ns) c9)) z4 r from hel.mono fun k _ hk => by
                 rcases hk with hk | hk | hk
                 · exact Nat.lt_of_lt_of_le hk HZ2.out.low.size
                 · exact (HZ2.out.ne k hk).1
                 · exact (HZ2.out.nb k hk).1)
               have B12 := Lib.hid (At.new z4 42 (erA r))
               have c12 : (z4.alloc (.cells (erA r) 42)).cell? ⟨z4.heap.size, 0, none⟩ = some (.int .u64 (m2 : Int)) := by
                 have := B12.out.cell 0
                 rw [this]
                 show some (Value.int .u64 ((r.e.lsn : Nat) : Int)) = _
                 rw [hre, v4]
               have HZ5 := Lib.hid ((HZ4.out.call ((Below.refl _ z4).alloc (Nat.le_refl _) (.cells (erA r) 42))).call ((Below.refl _ _).alloc (Nat.le_refl _) (.cells (erA r) 42)))
               have EL5 := Lib.hid ((EL4.out.below ((Below.refl _ z4).alloc (Nat.le_refl _) (.cells (erA r) 42))).below ((Below.refl _ _).alloc (Nat.le_refl _) (.cells (erA r) 42)))
               have hzl : w.heap.size ≤ ((z4.alloc (.cells (erA r) 42)).alloc (.cells (erA r) 42)).heap.size := HZ5.out.low.size
               clear hel hb4 hre EL4 HZ4)
            | (refine wpList_store_new 42 (.tmp 12) (.tmp 44) rfl rfl rfl z4.heap.size z4 rfl rfl (erA r) zE 13 rfl strE rfl rfl (erA_one _) rfl ?_)
            | (refine wpList_load_at 42 57 (.tmp 12) rfl rfl rfl z4.heap.size rfl (erA r) 13 strE rfl B12.out ?_)
            | refine wpList_lit1 rfl (.tmp 57) 32 42 13 _ (erA r) rfl rfl Tryd.underlying32 ent_info2 (by omega) (by omega) rfl ?_
            | (at_builtin; refine wpList_app2 _ rfl (.tmp 56) (.tmp 58) _ rfl w.heap.size 42 i1 _ 13 136 Tryd.underlying32 hi1 hy0 hy1 hy2 rfl (by omega) _ _ _ rfl HZ5.out.oe _ _ 1 _ _ rfl (lies_newC _ (erL r) 42 13 rfl) (erL_one _) (by omega) (by simp only [maxLen]; omega) (by omega) hzl ?_
               intro v6 z6 ho6 hg6 hv6
               have HZ6 := Lib.hid (HZ5.out.push hm (HRE.out.trans HGE.out.symm) EL5.out ho6 hg6 hv6)
               clear hg6 ho6 hv6))
          obtain ⟨A6, c6, h6, _⟩ := own_slice HZ6.out.oe
          subst h6
          refine ⟨⟨m + 1, 0, p + j + 1, q + 1, A6, c6, rs ++ [r], none, 0, 0, by omega, ?_, HPM, rfl, rfl, ?_, by go_num, HZ6⟩, by simp [intOf]; omega⟩
          · show _ = _
            have := HQ.out
            omega
          · have := HQ.out
            rw [← HQ.out]
            go_num
      · obtain ⟨hz, hw⟩ := HP.out.no HH.out HNM.out HL.out (by rw [← HQ.out]; exact hlt) hyes
        obtain rfl : s = zsec := by
          have := HSS.out
          rw [HQ.out, hz] at this
          injection this with this
          exact this.symm
        have HW := Lib.hid hw
        clear hz hw hyes
        go_wp2_with (first
          | refine wpList_load_sec 20 (.tmp 19) rfl rfl rfl b (o + q * 64) rfl zsec R1.out ?_
          | (refine wpList_store_new 68 (.tmp 8) (.tmp 20) rfl rfl rfl wr.heap.size wr rfl rfl (secA zsec) (secA zsec) 64 rfl strS (secA_size _) (secA_size _) (secA_one _) rfl ?_)
          | (refine wpList_load_at 68 22 (.tmp 8) rfl rfl rfl wr.heap.size rfl (secA zsec) 64 strS (secA_size _) R8.out ?_)
          | (go_at_call 48; refine (share_no m1 bf _).mono ?_; rintro e z1 ⟨rfl, hb⟩; have HZ1 := Lib.hid (HZ.out.call hb); clear hb)
          | (at_builtin; refine wpList_app _ rfl (.tmp 33) (.tmp 34) _ rfl w.heap.size 5 i0 _ 1 1 Tryd.underlying59 hi0 hz0 hz1 hz2 rfl (by omega) _ _ _ rfl HZ1.out.ob 0 none 0 0 [] rfl Lies.empty (by intro u hu; simp at hu) (by simp only [maxLen]; omega) (by omega) HZ1.out.low.size ?_
             intro v2 z2 _ hg2
             have FN := Lib.hid (HZ1.out.fin' hg2 HW.out)
             clear hg2))
        rw [Exit.noGoto_ret]
        go_ret2
        have fn := FN.out
        rw [← HP.out.pe] at fn
        exact fn
    · obtain rfl : q = n := by omega
      go_wp2_with fail
      go_ret2
      have e := HP.out.pe
      rw [e]
      exact HJ.out.fin (HP.out.fin HH.out HNM.out HL.out HQ.out.symm)
end Go.Proofs.YthicidpdgggbjaaDoor
