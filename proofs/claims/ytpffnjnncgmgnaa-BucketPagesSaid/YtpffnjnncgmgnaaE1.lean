/-
  The plain mathematics of pages and entries as bytes, there and back.
  Conditions: none beyond those that each theorem names.
-/
import Derived.Test.YtpffnjnncgmgnaaE0
namespace Go.Proofs.Ytpffnjnncgmgnaa

/-! ### Pages -/
abbrev Pg := Vector UInt8 224
structure Im where
  page : Int
  p : Pg
/-- How many bytes there are up to the last one of the first k that is not 0. -/
def sN (l : List UInt8) : Nat → Nat
  | 0 => 0
  | k + 1 => if l.getD k 0 = 0 then sN l k else k + 1
theorem sN_le (l : List UInt8) : ∀ k, sN l k ≤ k
  | 0 => Nat.le_refl _
  | k + 1 => by
    rw [sN]; split
    · exact Nat.le_succ_of_le (sN_le l k)
    · exact Nat.le_refl _
theorem sN_last (l : List UInt8) : ∀ k, sN l k = 0 ∨ l.getD (sN l k - 1) 0 ≠ 0
  | 0 => .inl rfl
  | k + 1 => by
    rw [sN]; split
    · exact sN_last l k
    · rename_i h; exact .inr h
theorem sN_above (l : List UInt8) : ∀ k j, sN l k ≤ j → j < k → l.getD j 0 = 0
  | 0, j, _, h => by omega
  | k + 1, j, h1, h2 => by
    rw [sN] at h1
    split at h1
    · rename_i h
      by_cases e : j = k
      · rw [e]; exact h
      · exact sN_above l k j h1 (by omega)
    · omega
theorem sN_is (l : List UInt8) (n : Nat) : ∀ k, n ≤ k → (∀ j, n ≤ j → j < k → l.getD j 0 = 0) → (n = 0 ∨ l.getD (n - 1) 0 ≠ 0) → sN l k = n
  | 0, h, _, _ => by rw [sN]; omega
  | k + 1, h, hz, hl => by
    rw [sN]
    by_cases e : n = k + 1
    · subst e
      rcases hl with hl | hl
      · omega
      · rw [if_neg (by simpa using hl)]
    · rw [if_pos (hz k (by omega) (by omega)), sN_is l n k (by omega) (fun j h1 h2 => hz j h1 (by omega)) hl]
def stored (p : Pg) : List UInt8 := p.toList.take (sN p.toList 224)
def stN (p : Pg) : Nat := sN p.toList 224
theorem stN_le (p : Pg) : stN p ≤ 224 := sN_le _ _
theorem stored_length (p : Pg) : (stored p).length = stN p := by
  have := sN_le p.toList 224
  rw [stored, List.length_take, Vector.length_toList, stN]
  omega
def pageL (i : Im) : List UInt8 := [UInt8.ofNat i.page.toNat] ++ ([UInt8.ofNat (stN i.p)] ++ stored i.p)
theorem pageL_length (i : Im) : (pageL i).length = 2 + stN i.p := by simp [pageL, stored_length]; omega
@[irreducible] def padPg (l : List UInt8) : Pg := Vector.ofFn fun j : Fin 224 => l.getD j 0
theorem padPg_toList (l : List UInt8) (h : l.length ≤ 224) : (padPg l).toList = l ++ List.replicate (224 - l.length) 0 := by
  unfold padPg
  apply List.ext_getElem (by simp; omega)
  intro i h1 h2
  simp only [Vector.getElem_toList, Vector.getElem_ofFn, List.getD_eq_getElem?_getD]
  by_cases hi : i < l.length
  · rw [List.getElem?_eq_getElem hi, List.getElem_append_left hi]; rfl
  · rw [List.getElem?_eq_none (by omega), List.getElem_append_right (by omega)]; simp
def zpg : Pg := padPg []
/-- Whether the last byte is 0. -/
def sfx (l : List UInt8) : Bool := decide (0 < l.length) && (l.getD (l.length - 1) 0 == 0)
theorem sfx_stored (p : Pg) : sfx (stored p) = false := by
  have hl := stored_length p
  rcases sN_last p.toList 224 with h | h
  · have : (stored p).length = 0 := by rw [hl]; exact h
    simp [sfx, this]
  · by_cases h0 : stN p = 0
    · simp [sfx, hl, h0]
    · have hle := stN_le p
      have e : (stored p).getD (stN p - 1) 0 = p.toList.getD (stN p - 1) 0 := by
        rw [stored, List.getD_eq_getElem?_getD, List.getElem?_take_of_lt (by have : sN p.toList 224 = stN p := rfl; omega), List.getD_eq_getElem?_getD]
      simp only [sfx, hl, e, Bool.and_eq_false_iff]
      have h' : p.toList.getD (stN p - 1) 0 ≠ 0 := h
      exact .inr (by simpa using h')
theorem pad_stored (p : Pg) : padPg (stored p) = p := by
  apply Vector.toList_inj.1
  have hl := stored_length p
  have hle := stN_le p
  rw [padPg_toList _ (by omega), hl]
  apply List.ext_getElem (by simp [hl]; omega)
  intro i h1 h2
  by_cases hi : i < stN p
  · rw [List.getElem_append_left (by omega)]
    simp [stored]
  · rw [List.getElem_append_right (by omega), List.getElem_replicate]
    have := sN_above p.toList 224 i (by have : sN p.toList 224 = stN p := rfl; omega) (by simpa using h2)
    rw [List.getD_eq_getElem?_getD, List.getElem?_eq_getElem h2] at this
    exact this.symm
theorem stored_pad (l : List UInt8) (h : l.length ≤ 224) (hs : sfx l = false) : stored (padPg l) = l := by
  have e : (padPg l).toList = l ++ List.replicate (224 - l.length) 0 := padPg_toList l h
  have hn : sN (padPg l).toList 224 = l.length := by
    refine sN_is _ _ 224 h ?_ ?_
    · intro j h1 h2
      rw [e, List.getD_eq_getElem?_getD, List.getElem?_append_right h1]
      rw [List.getElem?_replicate]
      split <;> rfl
    · by_cases h0 : l.length = 0
      · exact .inl h0
      · right
        simp only [sfx, Bool.and_eq_false_iff, decide_eq_false_iff_not] at hs
        rcases hs with hs | hs
        · omega
        · rw [e, List.getD_eq_getElem?_getD, List.getElem?_append_left (by omega), ← List.getD_eq_getElem?_getD]
          simpa using hs
  rw [stored, hn, e]
  simp

def p1 (s : RS) : RS := nx 1 s
def p2 (s : RS) : RS := nx 1 (p1 s)
def pn (s : RS) : Nat := vl 1 (p1 s)
def p3 (s : RS) : RS := nx (pn s) (p2 s)
def pst (s : RS) : List UInt8 := tk (pn s) (p2 s)
def rpOk (s : RS) : Bool := !(p3 s).2 && (decide ((pst s).length ≤ 224) && !(sfx (pst s)))
def rpIm (s : RS) : Im := ⟨(vl 1 s : Nat), padPg (pst s)⟩
theorem p3_len (s : RS) : (p3 s).1.length ≤ s.1.length := Nat.le_trans (nx_len _ _) (Nat.le_trans (nx_len _ _) (nx_len _ _))
theorem toNat_ofNat {n : Nat} (h : n < 256) : (UInt8.ofNat n).toNat = n := by rw [UInt8.toNat_ofNat']; omega
theorem ofNat_toNat (b : UInt8) : UInt8.ofNat b.toNat = b := by
  have := u8_lt b
  apply UInt8.toNat_inj.1
  rw [UInt8.toNat_ofNat']
  omega
theorem rp_put (i : Im) (m : List UInt8) (h0 : 0 ≤ i.page) (h1 : i.page ≤ 255) : rpOk (pageL i ++ m, false) = true ∧ rpIm (pageL i ++ m, false) = i ∧ p3 (pageL i ++ m, false) = (m, false) := by
  have hle := stN_le i.p
  have e0 : pageL i ++ m = [UInt8.ofNat i.page.toNat] ++ ([UInt8.ofNat (stN i.p)] ++ (stored i.p ++ m)) := by simp [pageL]
  have e1 : p1 (pageL i ++ m, false) = ([UInt8.ofNat (stN i.p)] ++ (stored i.p ++ m), false) := by rw [p1, e0, nx_app (l := [UInt8.ofNat i.page.toNat]) (k := 1) rfl]
  have e2 : p2 (pageL i ++ m, false) = (stored i.p ++ m, false) := by rw [p2, e1, nx_app (l := [UInt8.ofNat (stN i.p)]) (k := 1) rfl]
  have en : pn (pageL i ++ m, false) = stN i.p := by rw [pn, e1, vl, tk_app (l := [UInt8.ofNat (stN i.p)]) (k := 1) rfl, getN_one, toNat_ofNat (by omega)]
  have e3 : p3 (pageL i ++ m, false) = (m, false) := by rw [p3, en, e2, nx_app (stored_length i.p)]
  have es : pst (pageL i ++ m, false) = stored i.p := by rw [pst, en, e2, tk_app (stored_length i.p)]
  refine ⟨?_, ?_, e3⟩
  · rw [rpOk, e3, es, sfx_stored, stored_length]
    simpa using hle
  · rw [rpIm, es, pad_stored, e0, vl, tk_app (l := [UInt8.ofNat i.page.toNat]) (k := 1) rfl, getN_one, toNat_ofNat (by omega)]
    obtain ⟨pg, p⟩ := i
    simp only [Im.mk.injEq, and_true]
    simp only at h0 h1
    omega
theorem one_byte {l : List UInt8} (h : l.length = 1) : l = [UInt8.ofNat (getN l)] := by
  match l, h with
  | [b], _ => rw [getN_one, ofNat_toNat]
theorem rp_inv {s : RS} (h : rpOk s = true) : s = (pageL (rpIm s) ++ (p3 s).1, false) ∧ (p3 s).2 = false ∧ 0 ≤ (rpIm s).page ∧ (rpIm s).page ≤ 255 := by
  simp only [rpOk, Bool.and_eq_true, Bool.not_eq_true', decide_eq_true_eq] at h
  obtain ⟨h3, h224, hs⟩ := h
  obtain ⟨i2, l2⟩ := nx_inv h3
  have f2 : (p2 s).2 = false := by rw [i2]
  obtain ⟨i1, l1⟩ := nx_inv (s := p1 s) f2
  have f1 : (p1 s).2 = false := by rw [i1]
  obtain ⟨i0, l0⟩ := nx_inv (s := s) f1
  have hv := vl_lt1 s
  refine ⟨?_, h3, by simp [rpIm], by simp [rpIm]; omega⟩
  have hst : stored (padPg (pst s)) = pst s := stored_pad _ h224 hs
  have hsn : stN (padPg (pst s)) = pn s := by rw [← stored_length, hst]; exact l2
  have er : pageL (rpIm s) = tk 1 s ++ (tk 1 (p1 s) ++ pst s) := by
    simp only [pageL, rpIm]
    rw [hst, hsn, pn, Int.toNat_natCast, vl, vl, ← one_byte l0, ← one_byte l1]
  rw [er]
  have e2' : (p2 s).1 = pst s ++ (p3 s).1 := by conv => lhs; rw [i2]
                                                rfl
  have e1' : (p1 s).1 = tk 1 (p1 s) ++ (p2 s).1 := by conv => lhs; rw [i1]
                                                      rfl
  have e0' : s = (tk 1 s ++ (p1 s).1, false) := i0
  rw [e1', e2'] at e0'
  simpa using e0'

/-! ### So many pages, one behind the other -/
def stK : Nat → RS → RS
  | 0, s => s
  | k + 1, s => p3 (stK k s)
def imK : Nat → RS → List Im
  | 0, _ => []
  | k + 1, s => imK k s ++ [rpIm (stK k s)]
def okK : Nat → RS → Bool
  | 0, _ => true
  | k + 1, s => okK k s && rpOk (stK k s)
theorem imK_length (s : RS) : ∀ k, (imK k s).length = k
  | 0 => rfl
  | k + 1 => by simp [imK, imK_length s k]
theorem stK_len (s : RS) : ∀ k, (stK k s).1.length ≤ s.1.length
  | 0 => Nat.le_refl _
  | k + 1 => Nat.le_trans (p3_len _) (stK_len s k)
theorem okK_down (s : RS) {k : Nat} : ∀ n, k ≤ n → okK n s = true → okK k s = true
  | 0, h, h2 => by rw [show k = 0 by omega]; rfl
  | n + 1, h, h2 => by
    by_cases e : k = n + 1
    · rw [e]; exact h2
    · simp only [okK, Bool.and_eq_true] at h2
      exact okK_down s n (by omega) h2.1
theorem okK_no (s : RS) {k n : Nat} (hk : k < n) (h : rpOk (stK k s) = false) : okK n s = false := by
  by_cases e : okK n s = true
  · have := okK_down s (k := k + 1) n (by omega) e
    simp [okK, h] at this
  · simpa using e
def pagesL (l : List Im) : List UInt8 := l.flatMap pageL
theorem pagesL_snoc (l : List Im) (i : Im) : pagesL (l ++ [i]) = pagesL l ++ pageL i := by simp [pagesL]
theorem pagesL_length (l : List Im) : (pagesL l).length ≤ 226 * l.length := by
  induction l with
  | nil => simp [pagesL]
  | cons i r ih =>
    have h1 := pageL_length i
    have h2 := stN_le i.p
    have e : pagesL (i :: r) = pageL i ++ pagesL r := by simp [pagesL]
    rw [e, List.length_append, List.length_cons]
    omega
theorem pg_put (l : List Im) : ∀ m, (∀ i ∈ l, 0 ≤ i.page ∧ i.page ≤ 255) → okK l.length (pagesL l ++ m, false) = true ∧ imK l.length (pagesL l ++ m, false) = l ∧ stK l.length (pagesL l ++ m, false) = (m, false) := by
  refine snoc_ind (p := fun l => ∀ m, (∀ i ∈ l, 0 ≤ i.page ∧ i.page ≤ 255) → okK l.length (pagesL l ++ m, false) = true ∧ imK l.length (pagesL l ++ m, false) = l ∧ stK l.length (pagesL l ++ m, false) = (m, false)) ?_ ?_ l
  · intro m _
    exact ⟨rfl, rfl, by simp [stK, pagesL]⟩
  · intro l i ih m hi
    obtain ⟨h1, h2, h3⟩ := ih (pageL i ++ m) fun j hj => hi j (by simp [hj])
    have hb := hi i (by simp)
    obtain ⟨r1, r2, r3⟩ := rp_put i m hb.1 hb.2
    rw [pagesL_snoc, List.length_append, List.length_singleton, List.append_assoc]
    simp only [okK, imK, stK, h1, h2, h3, r1, r2, r3, Bool.and_self, and_self]
theorem pg_inv (s : RS) (hs : s.2 = false) : ∀ k, okK k s = true → s = (pagesL (imK k s) ++ (stK k s).1, false) ∧ (stK k s).2 = false ∧ ∀ i ∈ imK k s, 0 ≤ i.page ∧ i.page ≤ 255
  | 0, _ => ⟨by obtain ⟨l, b⟩ := s; simp at hs; subst hs; rfl, hs, by simp [imK]⟩
  | k + 1, h => by
    simp only [okK, Bool.and_eq_true] at h
    obtain ⟨h1, h2, h3⟩ := pg_inv s hs k h.1
    obtain ⟨r1, r2, r3⟩ := rp_inv h.2
    refine ⟨?_, r2, ?_⟩
    · have e : (stK k s).1 = pageL (rpIm (stK k s)) ++ (p3 (stK k s)).1 := by conv => lhs; rw [r1]
      rw [e] at h1
      rw [imK, pagesL_snoc, stK, List.append_assoc]
      exact h1
    · intro i hi
      rw [imK, List.mem_append] at hi
      rcases hi with hi | hi
      · exact h3 i hi
      · rw [List.mem_singleton.1 hi]; exact r3

/-! ### So many numbers -/
def stA : Nat → RS → RS
  | 0, s => s
  | k + 1, s => nx 8 (stA k s)
def acK : Nat → RS → List Nat
  | 0, _ => []
  | k + 1, s => acK k s ++ [vl 8 (stA k s)]
theorem acK_length (s : RS) : ∀ k, (acK k s).length = k
  | 0 => rfl
  | k + 1 => by simp [acK, acK_length s k]
theorem stA_len (s : RS) : ∀ k, (stA k s).1.length ≤ s.1.length
  | 0 => Nat.le_refl _
  | k + 1 => Nat.le_trans (nx_len _ _) (stA_len s k)
def numsL (l : List Nat) : List UInt8 := l.flatMap fun n => putL n 8
theorem numsL_snoc (l : List Nat) (n : Nat) : numsL (l ++ [n]) = numsL l ++ putL n 8 := by simp [numsL]
theorem numsL_length (l : List Nat) : (numsL l).length = 8 * l.length := by
  induction l with
  | nil => rfl
  | cons i r ih =>
    have e : numsL (i :: r) = putL i 8 ++ numsL r := by simp [numsL]
    rw [e, List.length_append, List.length_cons, putL_length]
    omega
theorem ac_put (l : List Nat) : ∀ m, (∀ n ∈ l, n < 18446744073709551616) → acK l.length (numsL l ++ m, false) = l ∧ stA l.length (numsL l ++ m, false) = (m, false) := by
  refine snoc_ind (p := fun l => ∀ m, (∀ n ∈ l, n < 18446744073709551616) → acK l.length (numsL l ++ m, false) = l ∧ stA l.length (numsL l ++ m, false) = (m, false)) ?_ ?_ l
  · intro m _
    exact ⟨rfl, by simp [stA, numsL]⟩
  · intro l i ih m hi
    obtain ⟨h2, h3⟩ := ih (putL i 8 ++ m) fun j hj => hi j (by simp [hj])
    have hb := hi i (by simp)
    rw [numsL_snoc, List.length_append, List.length_singleton, List.append_assoc]
    simp only [acK, stA, h2, h3]
    rw [vl, tk_app (putL_length 8 _), nx_app (putL_length 8 _), getN_put8 _ hb]
    exact ⟨rfl, rfl⟩
theorem stA_down (s : RS) : ∀ k, (stA k s).2 = false → s.2 = false
  | 0, h => h
  | k + 1, h => stA_down s k (by have := (nx_inv (s := stA k s) h).1; rw [this])
theorem ac_inv (s : RS) : ∀ k, (stA k s).2 = false → s = (numsL (acK k s) ++ (stA k s).1, false) ∧ ∀ n ∈ acK k s, n < 18446744073709551616
  | 0, h => ⟨by obtain ⟨l, b⟩ := s; simp [stA] at h; subst h; rfl, by simp [acK]⟩
  | k + 1, h => by
    obtain ⟨i, l⟩ := nx_inv (s := stA k s) h
    have hk : (stA k s).2 = false := by rw [i]
    obtain ⟨h1, h3⟩ := ac_inv s k hk
    refine ⟨?_, ?_⟩
    · have e : (stA k s).1 = tk 8 (stA k s) ++ (nx 8 (stA k s)).1 := by conv => lhs; rw [i]
      rw [e] at h1
      rw [acK, numsL_snoc, stA, List.append_assoc, vl, put_getN' l (by omega)]
      exact h1
    · intro n hn
      rw [acK, List.mem_append] at hn
      rcases hn with hn | hn
      · exact h3 n hn
      · rw [List.mem_singleton.1 hn]; exact vl_lt8 _

/-! ### Entries -/
structure Ent where
  lsn : Nat
  kind : Int
  txn : Nat
  prev : Nat
  next : Nat
  rc : Rc
  pages : List Im
  act : List Nat
def zent : Ent := ⟨0, 0, 0, 0, 0, zrc, [], []⟩
structure Ent.ok (e : Ent) : Prop where
  lsn : e.lsn < 18446744073709551616
  txn : e.txn < 18446744073709551616
  prev : e.prev < 18446744073709551616
  next : e.next < 18446744073709551616
  rc : e.rc.ok
  act : ∀ n ∈ e.act, n < 18446744073709551616
def headL (e : Ent) : List UInt8 := [UInt8.ofNat e.kind.toNat] ++ (putL e.lsn 8 ++ (putL e.txn 8 ++ (putL e.prev 8 ++ putL e.next 8)))
def entL (e : Ent) : List UInt8 := headL e ++ (recL e.rc ++ ([UInt8.ofNat e.pages.length] ++ (pagesL e.pages ++ ([UInt8.ofNat e.act.length] ++ numsL e.act))))
theorem entL_length (e : Ent) (h : e.rc.val.length ≤ 15) : (entL e).length ≤ 76 + 226 * e.pages.length + 8 * e.act.length := by
  have h1 := recL_length e.rc h
  have h2 := pagesL_length e.pages
  have h3 := numsL_length e.act
  simp only [entL, headL, List.length_append, List.length_singleton, putL_length, h1, h3]
  omega
def risB : Int → List Im → Bool
  | _, [] => true
  | last, i :: r => if i.page ≤ last ∨ 255 < i.page then false else risB i.page r
theorem risB_all : ∀ (l : List Im) (last : Int), risB last l = true → -1 ≤ last → ∀ i ∈ l, 0 ≤ i.page ∧ i.page ≤ 255
  | [], _, _, _, i, hi => by simp at hi
  | j :: r, last, h, hl, i, hi => by
    rw [risB] at h
    split at h
    · cases h
    · rename_i hc
      rcases List.mem_cons.1 hi with rfl | hi
      · omega
      · exact risB_all r j.page h (by omega) i hi
def chk (e : Ent) : Int :=
  if e.kind < 1 ∨ 10 < e.kind then 1 else if 15 < e.rc.val.length then 9 else if 24 < e.pages.length ∨ 64 < e.act.length then 13 else if risB (-1) e.pages = true then 0 else 2
structure Good (e : Ent) : Prop where
  lo : 1 ≤ e.kind
  hi : e.kind ≤ 10
  val : e.rc.val.length ≤ 15
  pages : e.pages.length ≤ 24
  act : e.act.length ≤ 64
  ris : risB (-1) e.pages = true
theorem chk_zero {e : Ent} (h : chk e = 0) : Good e := by
  unfold chk at h
  split at h
  · cases h
  · split at h
    · cases h
    · split at h
      · cases h
      · split at h
        · exact ⟨by omega, by omega, by omega, by omega, by omega, by assumption⟩
        · cases h
theorem chk_good {e : Ent} (h : Good e) : chk e = 0 := by
  have h1 := h.lo
  have h2 := h.hi
  have h3 := h.val
  have h4 := h.pages
  have h5 := h.act
  rw [chk, if_neg (by omega), if_neg (by omega), if_neg (by omega), if_pos h.ris]

def e1 (s : RS) : RS := nx 1 s
def e2 (s : RS) : RS := nx 8 (e1 s)
def e3 (s : RS) : RS := nx 8 (e2 s)
def e4 (s : RS) : RS := nx 8 (e3 s)
def e5 (s : RS) : RS := nx 8 (e4 s)
def e6 (s : RS) : RS := q6 (e5 s)
def eNp (s : RS) : Nat := vl 1 (e6 s)
def e7 (s : RS) : RS := nx 1 (e6 s)
def e8 (s : RS) : RS := stK (eNp s) (e7 s)
def eNa (s : RS) : Nat := vl 1 (e8 s)
def e9 (s : RS) : RS := nx 1 (e8 s)
def e10 (s : RS) : RS := stA (eNa s) (e9 s)
def reOk (s : RS) : Bool := rrOk (e5 s) && (okK (eNp s) (e7 s) && !(e10 s).2)
def reEnt (s : RS) : Ent := ⟨vl 8 (e1 s), (vl 1 s : Nat), vl 8 (e2 s), vl 8 (e3 s), vl 8 (e4 s), rrRec (e5 s), imK (eNp s) (e7 s), acK (eNa s) (e9 s)⟩
theorem re_put (e : Ent) (ho : e.ok) (hg : Good e) : reOk (entL e, false) = true ∧ reEnt (entL e, false) = e ∧ e10 (entL e, false) = ([], false) := by
  have g1 := hg.lo
  have g2 := hg.hi
  have g4 := hg.pages
  have g5 := hg.act
  generalize hn : numsL e.act = NL
  generalize ha : [UInt8.ofNat e.act.length] ++ NL = AL
  generalize hp : pagesL e.pages ++ AL = PL
  generalize hq : [UInt8.ofNat e.pages.length] ++ PL = QL
  generalize hr : recL e.rc ++ QL = RL
  have x0 : entL e = [UInt8.ofNat e.kind.toNat] ++ (putL e.lsn 8 ++ (putL e.txn 8 ++ (putL e.prev 8 ++ (putL e.next 8 ++ RL)))) := by
    rw [← hr, ← hq, ← hp, ← ha, ← hn]
    simp [entL, headL]
  have x1 : e1 (entL e, false) = (putL e.lsn 8 ++ (putL e.txn 8 ++ (putL e.prev 8 ++ (putL e.next 8 ++ RL))), false) := by rw [e1, x0, nx_app (l := [UInt8.ofNat e.kind.toNat]) (k := 1) rfl]
  have x2 : e2 (entL e, false) = (putL e.txn 8 ++ (putL e.prev 8 ++ (putL e.next 8 ++ RL)), false) := by rw [e2, x1, nx_app (putL_length 8 _)]
  have x3 : e3 (entL e, false) = (putL e.prev 8 ++ (putL e.next 8 ++ RL), false) := by rw [e3, x2, nx_app (putL_length 8 _)]
  have x4 : e4 (entL e, false) = (putL e.next 8 ++ RL, false) := by rw [e4, x3, nx_app (putL_length 8 _)]
  have x5 : e5 (entL e, false) = (RL, false) := by rw [e5, x4, nx_app (putL_length 8 _)]
  obtain ⟨r1, r2, r3⟩ := rr_put e.rc QL ho.rc hg.val
  rw [hr] at r1 r2 r3
  have x6 : e6 (entL e, false) = (QL, false) := by rw [e6, x5, r3]
  have xn : eNp (entL e, false) = e.pages.length := by rw [eNp, x6, ← hq, vl, tk_app (l := [UInt8.ofNat e.pages.length]) (k := 1) rfl, getN_one, toNat_ofNat (by omega)]
  have x7 : e7 (entL e, false) = (PL, false) := by rw [e7, x6, ← hq, nx_app (l := [UInt8.ofNat e.pages.length]) (k := 1) rfl]
  obtain ⟨t1, t2, t3⟩ := pg_put e.pages AL (risB_all _ _ hg.ris (by omega))
  rw [hp] at t1 t2 t3
  have x8 : e8 (entL e, false) = (AL, false) := by rw [e8, xn, x7, t3]
  have xa : eNa (entL e, false) = e.act.length := by rw [eNa, x8, ← ha, vl, tk_app (l := [UInt8.ofNat e.act.length]) (k := 1) rfl, getN_one, toNat_ofNat (by omega)]
  have x9 : e9 (entL e, false) = (NL, false) := by rw [e9, x8, ← ha, nx_app (l := [UInt8.ofNat e.act.length]) (k := 1) rfl]
  obtain ⟨u2, u3⟩ := ac_put e.act [] ho.act
  rw [List.append_nil, hn] at u2 u3
  have x10 : e10 (entL e, false) = ([], false) := by rw [e10, xa, x9, u3]
  refine ⟨?_, ?_, x10⟩
  · rw [reOk, x5, r1, xn, x7, t1, x10]; rfl
  · rw [reEnt, x1, x2, x3, x4, x5, r2, xn, x7, t2, xa, x9, u2, x0]
    rw [vl, tk_app (putL_length 8 _), vl, tk_app (l := [UInt8.ofNat e.kind.toNat]) (k := 1) rfl, vl, tk_app (putL_length 8 _), vl, tk_app (putL_length 8 _), vl, tk_app (putL_length 8 _),
      getN_put8 _ ho.lsn, getN_put8 _ ho.txn, getN_put8 _ ho.prev, getN_put8 _ ho.next, getN_one, toNat_ofNat (by omega)]
    obtain ⟨l, k, t, p, n, r, pg, ac⟩ := e
    simp only [Ent.mk.injEq, and_true, true_and]
    simp only at g1 g2
    omega
theorem re_inv {s : RS} (h : reOk s = true) (hl : (e10 s).1 = []) : s = (entL (reEnt s), false) ∧ (reEnt s).ok := by
  simp only [reOk, Bool.and_eq_true, Bool.not_eq_true'] at h
  obtain ⟨hr, hp, h10⟩ := h
  obtain ⟨a1, a3⟩ := ac_inv _ _ h10
  have f9 : (e9 s).2 = false := by rw [a1]
  obtain ⟨i8, l8⟩ := nx_inv (s := e8 s) f9
  have f8 : (e8 s).2 = false := by rw [i8]
  obtain ⟨r1, r2, r3, r4⟩ := rr_inv hr
  have f7 : (e7 s).2 = false := by
    by_cases hn : (e7 s).2 = false
    · exact hn
    · exfalso
      have hb : ∀ k, (stK k (e7 s)).2 = false → k = 0 ∨ (e7 s).2 = false := fun k => by
        induction k with
        | zero => intro _; exact .inl rfl
        | succ k ih =>
          intro h
          right
          have h2 := (nx_inv (s := p2 (stK k (e7 s))) h).1
          have h3 := (nx_inv (s := p1 (stK k (e7 s))) (by rw [show nx 1 (p1 (stK k (e7 s))) = p2 (stK k (e7 s)) from rfl, h2])).1
          have h4 := (nx_inv (s := stK k (e7 s)) (by rw [show nx 1 (stK k (e7 s)) = p1 (stK k (e7 s)) from rfl, h3])).1
          rcases ih (by rw [h4]) with h5 | h5
          · subst h5
            rw [show stK 0 (e7 s) = e7 s from rfl] at h4
            rw [h4]
          · exact h5
      rcases hb _ f8 with h0 | h0
      · rw [e8, h0] at f8
        exact hn f8
      · exact hn h0
  obtain ⟨g1, g2, g3⟩ := pg_inv (e7 s) f7 (eNp s) hp
  obtain ⟨i6, l6⟩ := nx_inv (s := e6 s) f7
  have f6 : (e6 s).2 = false := by rw [i6]
  have f5 : (e5 s).2 = false := by rw [r1]
  obtain ⟨i4, l4⟩ := nx_inv (s := e4 s) f5
  obtain ⟨i3, l3⟩ := nx_inv (s := e3 s) (show (e4 s).2 = false by rw [i4])
  obtain ⟨i2, l2⟩ := nx_inv (s := e2 s) (show (e3 s).2 = false by rw [i3])
  obtain ⟨i1, l1⟩ := nx_inv (s := e1 s) (show (e2 s).2 = false by rw [i2])
  obtain ⟨i0, l0⟩ := nx_inv (s := s) (show (e1 s).2 = false by rw [i1])
  refine ⟨?_, ⟨vl_lt8 _, vl_lt8 _, vl_lt8 _, vl_lt8 _, r3, a3⟩⟩
  have c9 : (e9 s).1 = numsL (acK (eNa s) (e9 s)) := by
    conv => lhs; rw [a1]
    show _ ++ (e10 s).1 = _
    rw [hl, List.append_nil]
  have c8 : (e8 s).1 = [UInt8.ofNat (eNa s)] ++ (e9 s).1 := by
    rw [eNa, vl, ← one_byte l8]
    conv => lhs; rw [i8]
    rfl
  have c7 : (e7 s).1 = pagesL (imK (eNp s) (e7 s)) ++ (e8 s).1 := by
    conv => lhs; rw [g1]
    rfl
  have c6 : (e6 s).1 = [UInt8.ofNat (eNp s)] ++ (e7 s).1 := by
    rw [eNp, vl, ← one_byte l6]
    conv => lhs; rw [i6]
    rfl
  have c5 : (e5 s).1 = recL (rrRec (e5 s)) ++ (e6 s).1 := by
    conv => lhs; rw [r1]
    rfl
  have c4 : (e4 s).1 = putL (vl 8 (e4 s)) 8 ++ (e5 s).1 := by
    rw [vl, put_getN' l4 (by omega)]
    conv => lhs; rw [i4]
    rfl
  have c3 : (e3 s).1 = putL (vl 8 (e3 s)) 8 ++ (e4 s).1 := by
    rw [vl, put_getN' l3 (by omega)]
    conv => lhs; rw [i3]
    rfl
  have c2 : (e2 s).1 = putL (vl 8 (e2 s)) 8 ++ (e3 s).1 := by
    rw [vl, put_getN' l2 (by omega)]
    conv => lhs; rw [i2]
    rfl
  have c1 : (e1 s).1 = putL (vl 8 (e1 s)) 8 ++ (e2 s).1 := by
    rw [vl, put_getN' l1 (by omega)]
    conv => lhs; rw [i1]
    rfl
  have c0 : s = ([UInt8.ofNat (vl 1 s)] ++ (e1 s).1, false) := by
    rw [vl, ← one_byte l0]
    exact i0
  rw [c1, c2, c3, c4, c5, c6, c7, c8, c9] at c0
  simp only [entL, headL, reEnt, imK_length, acK_length, Int.toNat_natCast]
  simpa using c0

/-! ### Two entries -/
def sameI (a b : Im) : Bool := decide (a.page = b.page) && (a.p == b.p)
theorem sameI_iff (a b : Im) : sameI a b = true ↔ a = b := by
  cases a; cases b
  simp [sameI]
def sameIs : List Im → List Im → Bool
  | [], [] => true
  | a :: r, b :: t => sameI a b && sameIs r t
  | _, _ => false
theorem sameIs_iff : ∀ a b : List Im, sameIs a b = true ↔ a = b
  | [], [] => by simp [sameIs]
  | [], b :: t => by simp [sameIs]
  | a :: r, [] => by simp [sameIs]
  | a :: r, b :: t => by rw [sameIs, Bool.and_eq_true, sameI_iff, sameIs_iff r t]; simp
def sameE (a b : Ent) : Bool := a.lsn == b.lsn && (decide (a.kind = b.kind) && (a.txn == b.txn && (a.prev == b.prev && (a.next == b.next && (sameR a.rc b.rc && (sameIs a.pages b.pages && a.act == b.act))))))
theorem sameE_iff (a b : Ent) : sameE a b = true ↔ a = b := by
  obtain ⟨l, k, t, p, n, r, pg, ac⟩ := a
  obtain ⟨l', k', t', p', n', r', pg', ac'⟩ := b
  simp [sameE, sameR_iff, sameIs_iff]
theorem sameE_refl (a : Ent) : sameE a a = true := (sameE_iff a a).2 rfl
end Go.Proofs.Ytpffnjnncgmgnaa
