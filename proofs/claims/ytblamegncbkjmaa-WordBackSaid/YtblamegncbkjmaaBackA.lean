/-
  WordBack: the fields as plain data, their cells, and the bytes that they become.
  Conditions: none.
-/
import Derived.Test.YtblamegncbkjmaaFrame
namespace Go.Proofs.Ytblamegncbkjmaa
open Go.RowKit

/-- A Field: a number, or a text, in so many bytes. -/
structure Fl where
  tx : Bool
  sz : Nat
  n : Nat
  s : ByteArray

def Fl.k (f : Fl) : Nat := 1 + f.sz % 8
def Fl.enc (f : Fl) : List UInt8 := if f.tx = true then fieldL f.s.data.toList f.k else putL f.n f.k
def Fl.fits (f : Fl) : Prop := f.tx = true → f.s.size < f.k
theorem Fl.k_lo (f : Fl) : 1 ≤ f.k := by unfold Fl.k; omega
theorem Fl.k_hi (f : Fl) : f.k ≤ 8 := by unfold Fl.k; omega
theorem Fl.enc_length (f : Fl) (h : f.fits) : f.enc.length = f.k := by
  unfold Fl.enc
  split
  · rename_i ht
    apply fieldL_length
    rw [Array.length_toList]
    exact h ht
  · exact putL_length _ _

/-- The bytes of the fields, one behind the other. -/
def encs (fs : List Fl) : List UInt8 := fs.flatMap Fl.enc
theorem encs_snoc (fs : List Fl) (i : Nat) (h : i < fs.length) : encs (fs.take (i + 1)) = encs (fs.take i) ++ fs[i].enc := by
  unfold encs
  rw [List.take_succ_eq_append_getElem h, List.flatMap_append, List.flatMap_cons, List.flatMap_nil, List.append_nil]
theorem encs_drop (fs : List Fl) (i : Nat) (h : i < fs.length) : encs (fs.drop i) = fs[i].enc ++ encs (fs.drop (i + 1)) := by
  unfold encs
  rw [List.drop_eq_getElem_cons h, List.flatMap_cons]
theorem encs_len (fs : List Fl) (h : ∀ f ∈ fs, f.fits) : (encs fs).length ≤ 8 * fs.length := by
  induction fs with
  | nil => simp [encs]
  | cons f fs ih =>
    have h1 := ih (fun g hg => h g (List.mem_cons_of_mem _ hg))
    have h2 := f.enc_length (h f (List.mem_cons_self ..))
    have h3 := f.k_hi
    have e : encs (f :: fs) = f.enc ++ encs fs := by simp [encs]
    rw [e, List.length_append, List.length_cons]
    omega

/-- The cells of field i of a row at off in block b. -/
structure FlAt (w : World) (b off i : Nat) (f : Fl) : Prop where
  c0 : w.cell? ⟨b, off + i * 4, none⟩ = some (.bool f.tx)
  c1 : w.cell? ⟨b, off + i * 4 + 1, none⟩ = some (.int .u8 f.sz)
  c2 : w.cell? ⟨b, off + i * 4 + 2, none⟩ = some (.int .u64 f.n)
  c3 : w.cell? ⟨b, off + i * 4 + 3, none⟩ = some (.string f.s)
  z8 : f.sz < 256
  z64 : f.n < 18446744073709551616
  zs : f.s.size ≤ maxLen

structure Fls (w : World) (B : Nat) (A : Option Addr) (fs : List Fl) : Prop where
  at_ : ∀ (i : Nat) (h : i < fs.length), ∃ b off, A = some ⟨b, off, none⟩ ∧ b < B ∧ FlAt w b off i fs[i]

theorem FlAt.under {w w' : World} {B b off i : Nat} {f : Fl} (h : FlAt w b off i f) (hb : Below B w w') (hB : b < B) : FlAt w' b off i f :=
  ⟨by rw [hb.cell (p := ⟨b, _, none⟩) hB]; exact h.c0, by rw [hb.cell (p := ⟨b, _, none⟩) hB]; exact h.c1, by rw [hb.cell (p := ⟨b, _, none⟩) hB]; exact h.c2, by rw [hb.cell (p := ⟨b, _, none⟩) hB]; exact h.c3, h.z8, h.z64, h.zs⟩

/-- Bytes come back in a row that is new since w, so many of them. -/
def RetN (w : World) (l : List UInt8) (e : Ending) (w' : World) : Prop :=
  ∃ A n c, e = .returned (.slice A n c) ∧ n = l.length ∧ w'.ownsRow w.heap.size 5 1 (.slice A n c) n (BC l) ∧ Below w.heap.size w w'
def RetT (w : World) (l : List UInt8) (e : Ending) (w' : World) : Prop :=
  ∃ A n c, e = .returned (.tuple #[.slice A n c, .int .i64 0]) ∧ n = l.length ∧ w'.ownsRow w.heap.size 5 1 (.slice A n c) n (BC l) ∧ Below w.heap.size w w'

theorem f_k (f : Fl) : (1 + (f.sz : Int) % 8).toNat = f.k := by unfold Fl.k; omega

theorem f_put {w wr : World} {A : Option Addr} {n c : Nat} {l : List UInt8} (f : Fl) (ht : f.tx = false) (h64 : f.n < 18446744073709551616)
    (hO : wr.ownsRow w.heap.size 5 1 (.slice A n c) n (BC l)) (hB : Below w.heap.size w wr) (hn : n ≤ 300) :
    Calls Try.prog 10 #[.slice A n c, .int .u64 f.n, .int .i64 (1 + (f.sz : Int) % 8)] wr (RetN w (l ++ f.enc)) := by
  refine (put_any wr.heap.size n c f.n A l (1 + (f.sz : Int) % 8) wr (Lies.of_own hO) (Nat.le_refl _) (by omega) h64 (by omega) (by omega)).mono ?_
  rintro e w1 ⟨A1, c1, rfl, ho, hb⟩
  have e1 : l ++ putL f.n (1 + (f.sz : Int) % 8).toNat = l ++ f.enc := by rw [f_k, Fl.enc, if_neg (by rw [ht]; simp)]
  rw [e1] at ho ⊢
  exact ⟨A1, _, c1, rfl, rfl, own_base ho hB.size, hB.trans (hb.mono hB.size)⟩

theorem f_text {w wr : World} {A : Option Addr} {n c : Nat} {l : List UInt8} (f : Fl) (ht : f.tx = true) (hs : f.s.size < f.k)
    (hO : wr.ownsRow w.heap.size 5 1 (.slice A n c) n (BC l)) (hB : Below w.heap.size w wr) (hn : n ≤ 300) :
    Calls Try.prog 13 #[.slice A n c, .string f.s, .int .i64 (1 + (f.sz : Int) % 8)] wr (RetT w (l ++ f.enc)) := by
  have hk := f_k f
  refine (text_ok wr.heap.size n c A l f.s (1 + (f.sz : Int) % 8) wr (Lies.of_own hO) (Nat.le_refl _) (by omega) (by omega) (by omega) (by omega)).mono ?_
  rintro e w1 ⟨A1, n1, c1, rfl, ho, hb⟩
  have e1 : l ++ fieldL f.s.data.toList (1 + (f.sz : Int) % 8).toNat = l ++ f.enc := by rw [f_k, Fl.enc, if_pos ht]
  rw [e1] at ho
  exact ⟨A1, _, c1, rfl, by have := ho.1; rw [BC_length] at this; omega, own_base ho hB.size, hB.trans (hb.mono hB.size)⟩

theorem f_long {wr : World} {A : Option Addr} {n c : Nat} (f : Fl) (hs : ¬ f.s.size < f.k) :
    Calls Try.prog 13 #[.slice A n c, .string f.s, .int .i64 (1 + (f.sz : Int) % 8)] wr fun e w' => e = .returned (.tuple #[.slice none 0 0, .int .i64 9]) ∧ wr = w' := by
  have hk := f_k f
  exact text_size n c A f.s (1 + (f.sz : Int) % 8) wr (by omega) (by omega) (by omega)

/-- A field is read as the string that it is of. -/
theorem parseF_field (s : List UInt8) (k : Nat) (h : s.length < k) (hk : k ≤ 256) : parseF (fieldL s k) = some s := by
  have e1 : (UInt8.ofNat s.length).toNat = s.length := by rw [UInt8.toNat_ofNat']; omega
  unfold fieldL
  rw [List.cons_append]
  simp only [parseF]
  rw [e1, List.drop_left, List.take_left, if_pos]
  refine ⟨by simp, ?_⟩
  unfold zeroB
  simp

theorem f_kI (f : Fl) : (1 + (f.sz : Int) % 8) = ((f.k : Nat) : Int) := by unfold Fl.k; omega

theorem f_rtext {w : World} {g : Nat} {rest : List UInt8} (f : Fl) (ht : f.tx = true) (hf : f.fits) (h : Rdr w g (f.enc ++ rest) false) (hl : (f.enc ++ rest).length ≤ 1000) :
    Calls Try.prog 16 #[.pointer (some ⟨g, 0, none⟩), .int .i64 (1 + (f.sz : Int) % 8)] w fun e w' => e = .returned (.string f.s) ∧ Rdr w' g rest false ∧ w.grownBy w' (some g) := by
  rw [f_kI]
  have h1 := f.enc_length hf
  have h2 : (f.enc ++ rest).take f.k = f.enc := by rw [← h1, List.take_left]
  have h3 : (f.enc ++ rest).drop f.k = rest := by rw [← h1, List.drop_left]
  have h4 : parseF ((f.enc ++ rest).take f.k) = some f.s.data.toList := by
    rw [h2, Fl.enc, if_pos ht]
    exact parseF_field _ _ (by rw [Array.length_toList]; exact hf ht) (by have := f.k_hi; omega)
  have h5 := rtext_yes g (f.enc ++ rest) f.s.data.toList f.k w h hl (by rw [List.length_append]; omega) h4
  rw [h3] at h5
  exact h5

theorem f_rnum {w : World} {g : Nat} {rest : List UInt8} (f : Fl) (ht : f.tx = false) (h : Rdr w g (f.enc ++ rest) false) (hl : (f.enc ++ rest).length ≤ 1000) :
    Calls Try.prog 19 #[.pointer (some ⟨g, 0, none⟩), .int .i64 (1 + (f.sz : Int) % 8)] w fun e w' => e = .returned (.int .u64 (getI f.enc)) ∧ Rdr w' g rest false ∧ w.grownBy w' (some g) := by
  rw [f_kI]
  have h1 := f.enc_length (fun h => by rw [ht] at h; cases h)
  have h2 : (f.enc ++ rest).take f.k = f.enc := by rw [← h1, List.take_left]
  have h3 : (f.enc ++ rest).drop f.k = rest := by rw [← h1, List.drop_left]
  have h5 := num_ok g (f.enc ++ rest) f.k w h hl (by rw [List.length_append]; omega)
  rw [h2, h3] at h5
  exact h5

theorem f_refPut {w : World} (f : Fl) (ht : f.tx = false) (h64 : f.n < 18446744073709551616) :
    Calls Try.prog 8 #[.int .u64 f.n, .int .i64 (1 + (f.sz : Int) % 8)] w fun e w' => ∃ A c, e = .returned (.slice A f.k c) ∧ Lies w' w'.heap.size 1 A f.k (BC f.enc) ∧ Below w.heap.size w w' := by
  refine (refPut_any 100 f.n (1 + (f.sz : Int) % 8) w (by omega) (by omega) (Nat.le_refl _) h64).mono ?_
  rintro e w1 ⟨A1, c1, rfl, ho, hb⟩
  have e1 : putL f.n (1 + (f.sz : Int) % 8).toNat = f.enc := by rw [f_k, Fl.enc, if_neg (by rw [ht]; simp)]
  have e2 := f.enc_length (fun h => by rw [ht] at h; cases h)
  rw [e1, e2] at ho
  rw [e1, e2]
  exact ⟨A1, c1, rfl, Lies.of_own ho, hb⟩
end Go.Proofs.Ytblamegncbkjmaa
