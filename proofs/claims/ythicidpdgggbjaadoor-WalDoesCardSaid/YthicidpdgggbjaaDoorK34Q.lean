/-
  What the law WalDoes needs behind its calls: Append beside the reference's Append, and a log opened behind a crash beside the reference's Whole.
  Conditions: none beyond those that each theorem names.
-/
import Derived.Test.YthicidpdgggbjaaDoorK33Q
namespace Go.Proofs.YthicidpdgggbjaaDoor
open Go.RowKit
set_option maxRecDepth 20000

theorem er_of_ao {w : World} {b o : Nat} {a : Ao} (h : w.rangeAt b o (aoL a)) : w.rangeAt b (o + 1) (erL a.er) := fun j v hv => by
  have hj : j < (erL a.er).length := by
    rcases Nat.lt_or_ge j (erL a.er).length with h1 | h1
    · exact h1
    · rw [List.getElem?_eq_none h1] at hv
      cases hv
  have h2 := h (j + 1) v (by
    unfold aoL
    rw [List.getElem?_cons_succ, List.getElem?_append_left hj]
    exact hv)
  rw [show o + (j + 1) = o + 1 + j by omega] at h2
  exact h2

/-- What Append did, beside the log as it was. -/
def LHow (size us : Nat) (r : Er) (k : Nat) (z : Int) (rs rs2 : List Er) (ws ws2 : List Sect) : Prop :=
  (z = 0 ∧ k = us + 1 ∧ Gd (withN r.e (us + 1)) ∧ us + wid (withN r.e (us + 1)) ≤ size ∧ ∃ r', r'.e = withN r.e (us + 1) ∧ rs2 = rs ++ [r'] ∧ ws2 = ws ++ cutS (enc (withN r.e (us + 1))) us) ∨
  ((z != 0) = true ∧ k = 0 ∧ rs2 = rs ∧ ws2 = ws ∧ (chk (withN r.e (us + 1)) = z ∨ (Gd (withN r.e (us + 1)) ∧ size - us < wid (withN r.e (us + 1)) ∧ z = 6)))
section
variable {w : World} {gd gs g size B : Nat} {S : List Sect} {nw : Int} {rs : List Er} {fo : Nat} {ws : List Sect} {vE vW : Value} {b9 : Nat} {A : Option Addr} {n c us dn : Nat} {ts : List Er} {z z' : World}
theorem append_law (h : WD w gd gs g size B S nw rs fo ws vE vW b9 A n c us dn ts z) (hf : fo ≤ 2000) (hw : ws.length ≤ 2000) (hrs : rs.length ≤ 900) (hu : us = fo + ws.length) (hsz : us ≤ size) (hsz2 : size ≤ 2000) (r : Er) (hr : ELz (fun k => w.heap.size ≤ k) z r)
    (hnp : r.np ≤ 1000) (hna : r.na ≤ 1000) (hv : r.e.rc.val.length ≤ 1000) (hok : r.e.ok) :
    Calls Tryd.prog 10 #[.pointer (some ⟨g, 0, none⟩), .agg (erA r)] z fun e z' => ∃ (k : Nat) (q : Int) (rs2 : List Er) (ws2 : List Sect) (vE2 vW2 : Value), e = .returned (.tuple #[.int .u64 (k : Int), .int .i64 q]) ∧
      WD w gd gs g size B S nw rs2 fo ws2 vE2 vW2 b9 A n c us dn ts z' ∧ LHow size us r k q rs rs2 ws ws2 := by
  by_cases hz : chk (withN r.e (us + 1)) = 0
  · have hg : Gd (withN r.e (us + 1)) := ⟨withN_ok hok (by omega), hz⟩
    by_cases hq : size - us < wid (withN r.e (us + 1))
    · refine (append_full (fun k => pl_own gd gs k ∨ k = b9) B z g gd 2 size rs fo ws vE vW h.lg (by omega) (by omega) us hu hsz (by omega) _ r hr hg hq).mono ?_
      rintro e z' ⟨rfl, hb⟩
      exact ⟨0, 6, rs, ws, vE, vW, rfl, h.call hb, .inr ⟨rfl, rfl, rfl, rfl, .inr ⟨hg, hq, rfl⟩⟩⟩
    · refine (wd_append h hf hw hrs hu hsz hsz2 r hr hnp hna hg (by omega)).mono ?_
      rintro e z' ⟨r', vE', vW', h1, rfl, h2, _⟩
      exact ⟨us + 1, 0, _, _, vE', vW', rfl, h2, .inl ⟨rfl, rfl, hg, by omega, r', h1, rfl, rfl⟩⟩
  · refine (append_bad (fun k => pl_own gd gs k ∨ k = b9) B z g gd 2 size rs fo ws vE vW h.lg (by omega) (by omega) us hu _ r hr hnp hna hv _ rfl (by simp [hz])).mono ?_
    rintro e z' ⟨rfl, hb⟩
    exact ⟨0, _, rs, ws, vE, vW, rfl, h.call hb, .inr ⟨by simp [hz], rfl, rfl, rfl, .inl rfl⟩⟩
/-- Both answer alike, and what they leave agrees. -/
theorem app_join {rs2 : List Er} {ws2 : List Sect} {vE2 vW2 : Value} {r : Er} {k i lk b14 : Nat} {q zc : Int} {bx : Array Value} {z7 : World} (h : WD w gd gs g size B S nw rs2 fo ws2 vE2 vW2 b9 A n c us dn ts z) (hm : WM size S nw rs fo ws us ts i) (hr : ELz (fun k => w.heap.size ≤ k) z r)
    (how : LHow size us r k q rs rs2 ws ws2) (cx : CuY size dn z us n (rlA size A n c us dn) ts r b14 bx lk zc z7) :
    lk = k ∧ zc = q ∧ ∃ (A2 : Option Addr) (n2 c2 us2 : Nat) (ts2 : List Er), bx = rlA size A2 n2 c2 us2 dn ∧ Lz (fun k => k = b9 ∨ XL g vE2 vW2 k ∨ pl_own gd gs k) z7 13 A2 n2 (flatE ts2) ∧ (∀ r ∈ ts2, ELz (fun k => w.heap.size ≤ k) z7 r) ∧ WM size S nw rs2 fo ws2 us2 ts2 (i + 1) := by
  rcases how with ⟨rfl, rfl, hg, hf, r', hr', rfl, rfl⟩ | ⟨hq, rfl, rfl, rfl, hc⟩ <;> rcases cx.how with ⟨rfl, rfl, hg2, hf2, A2, c2, rfl, hrow⟩ | ⟨hq2, rfl, rfl, hc2⟩
  · refine ⟨rfl, rfl, A2, n + 1, c2, _, _, rfl, hrow.mono fun k hk hX => ?_, fun t ht => ?_, hm.app hr' hg hf⟩
    · rcases hX with rfl | hX | hX
      · exact .inl h.box.lt
      · exact .inl (h.lg.xlt k hX).1
      · exact .inl (h.d.plt k hX)
    · rcases List.mem_append.1 ht with ht | ht
      · exact (h.els t ht).below cx.low
      · simp at ht
        subst ht
        exact (hr.below cx.low).withN _
  · exfalso
    rcases hc2 with hc2 | ⟨_, h1, _⟩
    · rw [hg.chk] at hc2
      subst hc2
      simp at hq2
    · omega
  · exfalso
    rcases hc with hc | ⟨_, h1, _⟩
    · rw [hg2.chk] at hc
      subst hc
      simp at hq
    · omega
  · refine ⟨rfl, ?_, A, n, c, us, ts, rfl, h.row.below cx.low, fun t ht => (h.els t ht).below cx.low, hm.next⟩
    rcases hc with hc | ⟨h1, _, rfl⟩ <;> rcases hc2 with hc2 | ⟨h2, _, rfl⟩
    · rw [← hc, ← hc2]
    · rw [h2.chk] at hc
      subst hc
      simp at hq
    · rw [h1.chk] at hc2
      subst hc2
      simp at hq2
    · rfl
/-- Behind a crash: the new log beside the box as it was. -/
theorem WD.crashed {g' : Nat} {S' : List Sect} {nw' : Int} {rs' : List Er} {q : Nat} {vE' : Value} (h : WD w gd gs g size B S nw rs fo ws vE vW b9 A n c us dn ts z) (h5 : DS w gd gs g' 2 size g' S' nw' rs' q [] vE' (.slice none 0 0) z') (hg : z.heap.size ≤ g') (hm : Mod (pl_own gd gs) z z') (hl : LogAt (fun k => k < z.heap.size) g' z' g' gd 2 size rs' q [] vE' (.slice none 0 0)) :
    WD w gd gs g' size g' S' nw' rs' q [] vE' (.slice none 0 0) b9 A n c us dn ts z' := by
  have hb9 := h.box.lt
  have hX : ∀ k, XL g' vE' (.slice none 0 0) k → z.heap.size ≤ k := fun k hk => Nat.le_trans hg (hl.xlt k hk).2
  refine ⟨hl.mono ?_, h5, (hm.block b9 hb9 h.bp).trans h.box, ?_, fun r hr => (h.els r hr).keptY hm fun k _ hk => h.d.hw k hk, h.bw, fun hk => by have := hX _ hk; omega, h.bp⟩
  · rintro k _ (hk | rfl)
    · exact h.d.plt k hk
    · exact hb9
  · have q1 : Lz (fun k => (k = b9 ∨ XL g vE vW k ∨ pl_own gd gs k) ∨ z.heap.size ≤ k) z 13 A n (flatE ts) := h.row.mono fun k hk hk2 => by
      rcases hk2 with hk2 | hk2
      · exact hk2
      · omega
    refine (q1.keptY hm fun k _ hk => .inl (.inr (.inr hk))).mono fun k _ hk => ?_
    rcases hk with hk | hk | hk
    · exact .inl (.inl hk)
    · exact .inr (hX k hk)
    · exact .inl (.inr (.inr hk))
theorem wm_crashed {S' : List Sect} {nw' : Int} {rs' : List Er} {q m i : Nat} (h : WM size S nw rs fo ws us ts i) (hrs : rs'.map (·.e) = (rs.map (·.e)).take m) (hq : q = pos ((rs.map (·.e)).take m)) (hn0 : nw ≤ nw') (hn1 : nw' ≤ nw + 1) (hod : OnDisk S' 2 size ((rs.map (·.e)).take m) q) (hout : OutZ S' size) (hlen : S'.length = S.length) :
    WM size S' nw' rs' q [] q (ts.take m) (i + 1) := by
  have hl : rs'.length ≤ rs.length := by
    have := congrArg List.length hrs
    simp at this
    omega
  refine ⟨?_, ?_, by simp, by rw [hrs, hq], ?_, by rw [hrs]; exact hod, hout, by rw [hlen]; exact h.len, by have := h.cnt; omega, by have := h.n0; omega, by have := h.n1; omega⟩
  · rw [hrs, List.map_take, h.te]
  · rw [hrs]
    exact numd_take m h.num
  · rw [List.drop_of_length_le (by rw [lay_length, hrs, hq]; exact Nat.le_refl _)]
/-- Behind a crash all sectors behind the used ones are zero. -/
theorem out_clean {S : List Sect} {es : List Ent} {q : Nat} (hod : OnDisk S 2 size es q) (hout : OutZ S size) : ∀ k, k < S.length → (k < 2 ∨ 2 + q ≤ k) → S[k]? = some zsec := fun k hk h => by
  by_cases h2 : k < 2 ∨ 2 + size ≤ k
  · exact hout k hk h2
  · have := hod.zero (k - 2) (by omega) (by omega)
    rw [show 2 + (k - 2) = k by omega] at this
    exact this
end
theorem built_rlv (size : Nat) (A : Option Addr) (n c p : Nat) : Tryd.prog.built 34 [(0, .int .i64 (size : Int)), (1, .slice A n c), (2, .int .i64 (p : Int)), (3, .int .i64 (p : Int))] = some (rlA size A n c p p) := by kernel_rfl
theorem built_rls (size : Nat) : Tryd.prog.built 34 [(0, .int .i64 (size : Int))] = some (rlA size none 0 0 0 0) := by kernel_rfl
end Go.Proofs.YthicidpdgggbjaaDoor
