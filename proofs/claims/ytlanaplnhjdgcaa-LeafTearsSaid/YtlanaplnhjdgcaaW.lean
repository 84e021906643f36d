/-
  Big-endian numbers in bytes, and the walks of slices.Clone of bytes, of the two Get functions and of the two Put functions of layer 1.
  Conditions: slices of at most 100000 bytes; eight bytes are put, behind at most 1000.
-/
import Derived.Test.YtlanaplnhjdgcaaA3
namespace Go.Proofs.Ytlanaplnhjdgcaa
open Go.RowKit

def Okb (l : List Int) : Prop := ∀ x ∈ l, 0 ≤ x ∧ x < 256
theorem Okb.take {l : List Int} (h : Okb l) (k : Nat) : Okb (l.take k) := fun x hx => h x (List.mem_of_mem_take hx)
theorem Okb.drop {l : List Int} (h : Okb l) (k : Nat) : Okb (l.drop k) := fun x hx => h x (List.mem_of_mem_drop hx)
theorem Okb.append {l m : List Int} (h : Okb l) (k : Okb m) : Okb (l ++ m) := fun x hx => (List.mem_append.1 hx).elim (h x) (k x)
theorem Okb.get {l : List Int} (h : Okb l) (k : Nat) (hk : k < l.length) : 0 ≤ l[k] ∧ l[k] < 256 := h _ (List.getElem_mem hk)

/-- The big-endian number in the bytes, modulo 2^64. -/
def getN (l : List Int) : Nat := l.foldl (fun n b => (n * 256 + b.toNat) % 18446744073709551616) 0
def getI (l : List Int) : Int := (getN l : Nat)
theorem getN_snoc (l : List Int) (b : Int) : getN (l ++ [b]) = (getN l * 256 + b.toNat) % 18446744073709551616 := by
  simp [getN, List.foldl_append]
theorem getN_lt (l : List Int) : getN l < 18446744073709551616 := by
  rcases List.eq_nil_or_concat l with rfl | ⟨m, b, rfl⟩
  · simp [getN]
  · rw [List.concat_eq_append, getN_snoc]
    exact Nat.mod_lt _ (by decide)
theorem getI_bounds (l : List Int) : 0 ≤ getI l ∧ getI l < 18446744073709551616 := by
  have := getN_lt l
  unfold getI
  omega
/-- n<<8 | b, as the walk writes it. -/
theorem getI_or (l : List Int) (b : Int) (h0 : 0 ≤ b) (h1 : b < 256) :
    bits BinOp.or IntKind.u64 (IntKind.u64.wrap (getI l * 256)) b = getI (l ++ [b]) := by
  obtain ⟨b, rfl⟩ : ∃ k : Nat, b = k := ⟨b.toNat, by omega⟩
  have hb : b < 256 := by omega
  have e1 : IntKind.u64.wrap (getI l * 256) = (((getN l % 72057594037927936) <<< 8 : Nat) : Int) := by
    rw [IntKind.wrap_u64, getI, Nat.shiftLeft_eq]
    omega
  have hlt : (getN l % 72057594037927936) <<< 8 < 18446744073709551616 := by rw [Nat.shiftLeft_eq]; omega
  rw [e1, u64_or_nat _ _ hlt (by omega), ← Nat.shiftLeft_add_eq_or_of_lt (by simpa using hb), getI, getN_snoc, Nat.shiftLeft_eq]
  omega
/-- n*256 + b, as the walk writes it. -/
theorem getI_add (l : List Int) (b : Int) (h0 : 0 ≤ b) (h1 : b < 256) :
    IntKind.u64.wrap (IntKind.u64.wrap (getI l * 256) + b) = getI (l ++ [b]) := by
  rw [IntKind.wrap_u64, IntKind.wrap_u64, getI, getI, getN_snoc]
  omega
/-- The k lowest bytes of n, the highest first. -/
def putL : Nat → Nat → List Int
  | _, 0 => []
  | n, k + 1 => putL (n / 256) k ++ [((n % 256 : Nat) : Int)]
theorem putL_length (k : Nat) : ∀ n, (putL n k).length = k := by
  induction k with
  | zero => intro n; rfl
  | succ k ih => intro n; simp [putL, ih]
theorem putL_ok (k : Nat) : ∀ n, Okb (putL n k) := by
  induction k with
  | zero => intro n x hx; simp [putL] at hx
  | succ k ih =>
    intro n
    refine (ih _).append fun x hx => ?_
    rw [List.mem_singleton] at hx
    omega
theorem putL_cons (k : Nat) : ∀ n, putL n (k + 1) = ((n / 256 ^ k % 256 : Nat) : Int) :: putL n k := by
  induction k with
  | zero => intro n; simp [putL]
  | succ k ih =>
    intro n
    rw [putL, ih (n / 256), putL, List.cons_append, Nat.div_div_eq_div_mul, Nat.pow_succ', ]
theorem getN_put (k : Nat) : ∀ n, getN (putL n k) = n % 256 ^ k % 18446744073709551616 := by
  induction k with
  | zero => intro n; simp [putL, getN, Nat.mod_one]
  | succ k ih =>
    intro n
    rw [putL, getN_snoc, ih, Nat.pow_succ', Nat.mod_mul]
    have e : ((n % 256 : Nat) : Int).toNat = n % 256 := by omega
    rw [e]
    omega
theorem getI_put (n : Nat) (h : n < 18446744073709551616) : getI (putL n 8) = n := by
  rw [getI, getN_put, show (256 : Nat) ^ 8 = 18446744073709551616 from rfl]
  omega
/-- byte(n >> (8 * (t - 1))), as the walk writes it. -/
theorem put_byte (n : Nat) (t : Int) (h : 0 < t) : ((n : Int) / 2 ^ (8 * (t - 1)).toNat % 256) = ((n / 256 ^ (t - 1).toNat % 256 : Nat) : Int) := by
  obtain ⟨k, hk⟩ : ∃ k : Nat, t - 1 = k := ⟨(t - 1).toNat, by omega⟩
  rw [hk, show (8 * (k : Int)).toNat = 8 * k from by omega, Int.toNat_natCast]
  have e : ((2 : Int) ^ (8 * k)) = ((256 ^ k : Nat) : Int) := by
    rw [Int.pow_mul, Int.natCast_pow]
    rfl
  rw [e, Int.natCast_emod, Int.natCast_ediv]
  rfl

set_option maxHeartbeats 400000 in
theorem get_any (X : Nat → Prop) (n c : Nat) (A : Option Addr) (l : List Int) (w : World) (h : Lz X w 1 A n (CL l)) (hk : Okb l) (hn : n ≤ 100000) :
    Calls Try.prog 30 #[.slice A n c] w fun e w' => e = .returned (.int .u64 (getI l)) ∧ w = w' := by
  have hl : l.length = n := by have := h.len; rw [CL_length] at this; omega
  have HL := Lib.hid hl
  have HH := Lib.hid h
  have HK := Lib.hid hk
  clear hl h hk
  go_enter Try.func30, Try.ntmps30
  go_wp2
  go_loop [3, 8] (fun t i => ∃ k : Nat, k ≤ n ∧ i = .int .i64 k ∧ t = .int .u64 (getI (l.take k))) (fun _ i => n - (intOf i).toNat)
  case atStart => exact ⟨0, Nat.zero_le _, rfl, rfl⟩
  case round =>
    obtain ⟨k, hk, rfl, rfl⟩ := hrel
    by_cases hlt : k < n
    · obtain ⟨b, o, u, rfl, hx, hb, hu, hc⟩ := HH.out.get hlt
      have hkl : k < l.length := by rw [HL.out]; exact hlt
      rw [CL_get l k hkl] at hu
      injection hu with hu
      subst hu
      obtain ⟨b0, b1⟩ := HK.out.get k hkl
      go_wp2
      go_round
      case rel => exact ⟨k + 1, by omega, by go_num, by rw [take_snoc l k hkl, ← getI_or _ _ b0 b1]⟩
      case measure => simp [intOf]; omega
    · go_wp2
      go_ret
      exact ⟨by rw [List.take_of_length_le (by rw [HL.out]; omega)]; rfl, rfl⟩

set_option maxHeartbeats 400000 in
theorem refGet_any (X : Nat → Prop) (n c : Nat) (A : Option Addr) (l : List Int) (w : World) (h : Lz X w 1 A n (CL l)) (hk : Okb l) (hn : n ≤ 100000) :
    Calls Try.prog 31 #[.slice A n c] w fun e w' => e = .returned (.int .u64 (getI l)) ∧ w = w' := by
  have hl : l.length = n := by have := h.len; rw [CL_length] at this; omega
  have HL := Lib.hid hl
  have HH := Lib.hid h
  have HK := Lib.hid hk
  clear hl h hk
  go_enter Try.func31, Try.ntmps31
  go_wp2
  go_loop [3, 4] (fun t i => ∃ k : Nat, k ≤ n ∧ i = .int .i64 k ∧ t = .int .u64 (getI (l.take k))) (fun _ i => n - (intOf i).toNat)
  case atStart => exact ⟨0, Nat.zero_le _, rfl, rfl⟩
  case round =>
    obtain ⟨k, hk, rfl, rfl⟩ := hrel
    by_cases hlt : k < n
    · obtain ⟨b, o, u, rfl, hx, hb, hu, hc⟩ := HH.out.get hlt
      have hkl : k < l.length := by rw [HL.out]; exact hlt
      rw [CL_get l k hkl] at hu
      injection hu with hu
      subst hu
      obtain ⟨b0, b1⟩ := HK.out.get k hkl
      go_wp2
      go_round
      case rel => exact ⟨k + 1, by omega, by go_num, by rw [take_snoc l k hkl, ← getI_add _ _ b0 b1]⟩
      case measure => simp [intOf]; omega
    · go_wp2
      go_ret
      exact ⟨by rw [List.take_of_length_le (by rw [HL.out]; omega)]; rfl, rfl⟩

theorem u8_info : (Try.prog.info? 5).map (fun i => (i.zero, i.size, i.bytes)) = some (some (.int .u8 0), 1, 1) := by kernel_rfl
theorem u8_size : (Try.prog.info? 5).map (·.size) = some 1 := by kernel_rfl
/-- A new row of bytes comes back; nothing that was there has turned. -/
def RetB (w : World) (l : List Int) (e : Ending) (w' : World) : Prop :=
  ∃ A c, e = .returned (.slice A l.length c) ∧ w'.ownsRow w.heap.size 5 1 (.slice A l.length c) l.length (CL l) ∧ Below w.heap.size w w'
theorem RetB.mk {w w' : World} {l : List Int} {v : Value} {n : Nat} (h : w'.ownsRow w.heap.size 5 1 v n (CL l)) (hb : Below w.heap.size w w') : RetB w l (.returned v) w' := by
  have hl : l.length = n := by have := h.1; rw [CL_length] at this; omega
  subst hl
  obtain ⟨A, c, rfl, _⟩ := own_slice h
  exact ⟨A, c, rfl, h, hb⟩
set_option maxHeartbeats 400000 in
theorem cloneB_any (X : Nat → Prop) (n c : Nat) (a : Addr) (l : List Int) (w : World) (h : Lz X w 1 (some a) n (CL l)) (hn : n ≤ 100000) :
    Calls Try.prog 29 #[.slice (some a) n c] w (RetB w l) := by
  obtain ⟨i0, hi0, hz0, hz1, hz2⟩ := info_parts u8_info
  have hnil := fun W => Lib.run_eql_slice_nil (P := Try.prog) W 48 5 (some a) n c 0 0 Try.underlying48
  have HH := Lib.hid h
  clear h
  have hm : (w.alloc (.cells #[] 5)).ownsRow w.heap.size 5 1 (.slice (some ⟨w.heap.size, 0, none⟩) 0 0) 0 [] := World.ownsRow_made w #[] 0 (Nat.le_refl _) (by simp [maxLen]) rfl
  have HM := Lib.hid hm
  clear hm
  go_enter Try.func29, Try.ntmps29
  go_wp2_with (at_builtin; refine wpList_app _ rfl (.tmp 5) (.tmp 6) _ rfl w.heap.size 5 i0 _ 1 1 Try.underlying48 hi0 hz0 hz1 hz2 rfl (by omega) _ 0 [] rfl HM.out a n c (CL l) rfl HH.out.len (HH.out.alloc _).cells (CL_one l) (by simp only [maxLen]; omega) (by omega) (by simp) ?_; intro v1 w1 hown hg)
  go_ret
  exact RetB.mk (n := 0 + n) (by simpa using hown) (below_own ((Below.refl _ _).alloc (Nat.le_refl _) _) HM.out hg (Nat.le_refl _) (by simp))

theorem own_len {w : World} {base : Nat} {e : TypeId} {size : Nat} {v : Value} {n : Nat} {xs ys : List Value} (h : w.ownsRow base e size v n xs) (e1 : xs = ys) :
    w.ownsRow base e size v n ys := by subst e1; exact h
theorem one_new (w : World) (u : Value) (t : TypeId) : ∀ j v, [u][j]? = some v → (w.alloc (.cells #[u] t)).cell? ((⟨w.heap.size, 0, none⟩ : Addr).add j) = some v := row_new w [u] t
theorem one_one (k : IntKind) (x : Int) : ∀ u ∈ [Value.int k x], u.oneCell' = true := by intro u hu; rw [List.mem_singleton.1 hu]; rfl

/-- What holds at the head of each round of Put's loop: the bytes still to come complete what is there. -/
def PutR (w : World) (l : List Int) (n : Nat) (sz out : Value) (wr : World) : Prop :=
  ∃ (s : Int) (p : List Int), sz = .int .i64 s ∧ s ≤ 8 ∧ 0 ≤ s ∧ p.length ≤ 100 ∧ Hid (p ++ putL n s.toNat = putL n 8) ∧
    Hid (wr.ownsRow w.heap.size 5 1 out (l.length + p.length) (CL (l ++ p))) ∧ Below w.heap.size w wr
theorem putR_len {p : List Int} {n S k : Nat} (h : p ++ putL n k = putL n S) : p.length + k = S := by
  have := congrArg List.length h
  simpa [putL_length] using this
set_option maxHeartbeats 400000 in
theorem wput_any (X : Nat → Prop) (m c n : Nat) (a : Addr) (l : List Int) (w : World) (h : Lz X w 1 (some a) m (CL l)) (hm : m ≤ 1000) :
    Calls Try.prog 21 #[.slice (some a) m c, .int .u64 n, .int .i64 8] w (RetB w (l ++ putL n 8)) := by
  obtain ⟨i0, hi0, hz0, hz1, hz2⟩ := info_parts u8_info
  have hl : l.length = m := by have := h.len; rw [CL_length] at this; omega
  have HL := Lib.hid hl
  clear hl
  have CLO := Lib.hid (cloneB_any X m c a l w h (by omega))
  clear h
  go_enter Try.func21, Try.ntmps21
  go_wp2_with (go_at_call 29; refine CLO.out.mono ?_; rintro e w1 ⟨A1, c1, rfl, ho, hb⟩)
  have HO := Lib.hid ho
  clear ho
  go_loopw [2, 7] (fun sz out wr => PutR w l n sz out wr) (fun sz out wr => (intOf sz).toNat)
  case atStart =>
    exact ⟨8, [], rfl, by omega, by omega, by simp, Lib.hid (by rfl), Lib.hid (by simpa using HO.out), hb⟩
  case round =>
    obtain ⟨t, p, rfl, ht, htl, hp, hpp, hown, hbw⟩ := hrel
    go_wp2_with fail
    go_loopw [2, 7] (fun sz out wr => PutR w l n sz out wr) (fun sz out wr => (intOf sz).toNat)
    case atStart => exact ⟨t, p, rfl, ht, htl, hp, hpp, hown, hbw⟩
    case round =>
      clear ht htl hp hpp hown hbw p
      obtain ⟨t, p, rfl, ht, htl, hp, hpp, hown, hbw⟩ := hrel
      by_cases h0 : 0 < t
      · go_wp2_with (at_builtin; refine wpList_app _ rfl (.tmp 21) (.tmp 28) _ rfl w.heap.size 5 i0 _ 1 1 Try.underlying48 hi0 hz0 hz1 hz2 rfl (by omega) _ _ _ rfl (hown.out.alloc _) _ 1 1 _ rfl rfl (one_new _ _ _) (one_one _ _) (by have := HL.out; simp only [maxLen]; omega) (by have := HL.out; omega) (by have := hbw.size; simp; omega) ?_; intro v2 w2 hown2 hg)
        have hlen := putR_len hpp.out
        refine ⟨⟨t - 1, p ++ [((n / 256 ^ (t - 1).toNat % 256 : Nat) : Int)], rfl, by omega, by omega, by simp; omega, Lib.hid ?_, Lib.hid ?_, below_own (hbw.alloc hbw.size _) (hown.out.alloc _) hg (Nat.le_refl _) (by have := hbw.size; simp; omega)⟩, by simp [intOf]; omega⟩
        · rw [← hpp.out, show t.toNat = (t - 1).toNat + 1 from by omega, putL_cons]
          simp
        · have e : l.length + (p ++ [((n / 256 ^ (t - 1).toNat % 256 : Nat) : Int)]).length = l.length + p.length + 1 := by simp; omega
          rw [e]
          refine own_len hown2 ?_
          rw [put_byte n t h0, ← List.append_assoc, CL_append (l ++ p)]
          rfl
      · go_wp2_with fail
        go_ret
        have e : t.toNat = 0 := by omega
        have hpe : p = putL n 8 := by rw [← hpp.out, e]; simp [putL]
        subst hpe
        exact RetB.mk hown.out hbw

set_option maxHeartbeats 400000 in
theorem refPut_any (k : Nat) : ∀ (n : Nat) (s : Int) (w : World), s ≤ k → 0 ≤ s → k ≤ 100 → n < 18446744073709551616 →
    Calls Try.prog 24 #[.int .u64 n, .int .i64 s] w (RetB w (putL n s.toNat)) := by
  induction k with
  | zero =>
    intro n s w hs hlo hk hn
    have h0 : s ≤ 0 := by omega
    have e : s.toNat = 0 := by omega
    rw [e]
    go_enter Try.func24, Try.ntmps24
    go_wp2_with fail
    go_ret
    exact RetB.mk (World.ownsRow_nil w w.heap.size 5 1) (Below.refl _ _)
  | succ k ih =>
    intro n s w hs hlo hk hn
    by_cases h0 : s ≤ 0
    · have e : s.toNat = 0 := by omega
      rw [e]
      go_enter Try.func24, Try.ntmps24
      go_wp2_with fail
      go_ret
      exact RetB.mk (World.ownsRow_nil w w.heap.size 5 1) (Below.refl _ _)
    · obtain ⟨i0, hi0, hz0, hz1, hz2⟩ := info_parts u8_info
      have IH := Lib.hid ih
      clear ih
      have hn0 : 0 ≤ (n : Int) := by omega
      go_enter Try.func24, Try.ntmps24
      go_wp2_with fail
      rw [show ((n : Int) / 256) = ((n / 256 : Nat) : Int) from by omega]
      refine (IH.out (n / 256) (s - 1) _ (by omega) (by omega) (by omega) (by omega)).mono ?_
      rintro e w1 ⟨A, c, rfl, ho, hb⟩
      have hl := putL_length (s - 1).toNat (n / 256)
      have e1 : (s - 1).toNat + 1 = s.toNat := by omega
      have e2 : (s - 1).toNat = s.toNat - 1 := by omega
      rw [hl] at ho ⊢
      rw [e2] at ho ⊢
      have E1 := Lib.hid e1
      have E2 := Lib.hid e2
      clear hl e1 e2
      have HO := Lib.hid ho
      clear ho
      go_wp2_with (at_builtin; refine wpList_app _ rfl (.tmp 11) (.tmp 15) _ rfl w.heap.size 5 i0 _ 1 1 Try.underlying48 hi0 hz0 hz1 hz2 rfl (by omega) _ _ _ rfl (HO.out.alloc _) _ 1 1 _ rfl rfl (one_new _ _ _) (one_one _ _) (by simp only [maxLen]; omega) (by omega) (by have := hb.size; simp; omega) ?_; intro v2 w2 hown hg)
      go_ret
      refine RetB.mk (n := s.toNat - 1 + 1) (own_len hown ?_) (below_own (hb.alloc hb.size _) (HO.out.alloc _) hg (Nat.le_refl _) (by have := hb.size; simp; omega))
      rw [← E1.out, putL, CL_append, E2.out]
      simp [CL]
end Go.Proofs.Ytlanaplnhjdgcaa
