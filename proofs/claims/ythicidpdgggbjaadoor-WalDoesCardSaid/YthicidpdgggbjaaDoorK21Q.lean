/-
  The log on its disk: behind Append, and behind Open.
-/
import Derived.Test.YthicidpdgggbjaaDoorK20Q
namespace Go.Proofs.YthicidpdgggbjaaDoor
open Go.RowKit
set_option maxRecDepth 8000

theorem OnDisk.append {S : List Sect} {b sz fo : Nat} {es : List Ent} (h : OnDisk S b sz es fo) (e : Ent) (hf : pos es + wid e ≤ sz) : OnDisk S b sz (es ++ [e]) fo := by
  refine ⟨h.room, by rw [pos_snoc]; exact hf, by rw [pos_snoc]; have := h.low; omega, fun k hk => ?_, h.zero⟩
  rw [h.here k hk, lay_append, List.getElem?_append_left (by rw [lay_length]; have := h.low; omega)]
theorem lay_prefix {es : List Ent} {m k : Nat} (hk : k < pos (es.take m)) : (lay es 0)[k]? = (lay (es.take m) 0)[k]? := by
  conv => lhs; rw [← List.take_append_drop m es, lay_append]
  rw [List.getElem?_append_left (by rw [lay_length]; exact hk)]
/-- A log that was opened. -/
theorem OnDisk.opened {S : List Sect} {es : List Ent} {kept : Nat → Bool} {b sz m : Nat} (hS : b + sz ≤ S.length) (hh : Held ((S.drop b).take sz) es kept) (hw : IsWhole es kept m) (q : Nat) (hq : q = pos (es.take m)) :
    OnDisk (upd S (b + q) (List.replicate (sz - q) zsec) (fun _ => true)) b sz (es.take m) q := by
  have hle := held_le hh hw
  rw [List.length_take, List.length_drop, Nat.min_eq_left (by omega), ← hq] at hle
  refine ⟨by rw [upd_length]; exact hS, by rw [← hq]; exact hle, Nat.le_of_eq hq, fun k hk => ?_, fun k h1 h2 => ?_⟩
  · have e := area_upd hS q (List.replicate (sz - q) zsec) (fun _ => true) k
    rw [area_get, if_pos (by omega), if_pos (by omega), if_neg (by omega)] at e
    have hkl : k < pos es := by have := pos_take_le es m; omega
    have h1 := hh.yes k hkl (hw.all k (by rw [← hq]; exact hk))
    rw [area_get, if_pos (by omega)] at h1
    rw [e, h1, lay_prefix (by rw [← hq]; exact hk)]
  · have e := area_upd hS q (List.replicate (sz - q) zsec) (fun _ => true) k
    rw [area_get, if_pos h2, if_pos h2, if_pos ⟨h1, by rw [List.length_replicate]; omega, rfl⟩] at e
    rw [e, List.getD_eq_getElem?_getD, List.getElem?_replicate, if_pos (by omega)]
    rfl
/-- A log that is new. -/
theorem OnDisk.new (n b sz : Nat) (h : b + sz ≤ n) : OnDisk (List.replicate n zsec) b sz [] 0 :=
  ⟨by rw [List.length_replicate]; exact h, Nat.zero_le _, Nat.le_refl _, fun k hk => absurd hk (Nat.not_lt_zero _), fun k _ hk => by rw [List.getElem?_replicate, if_pos (by omega)]⟩
end Go.Proofs.YthicidpdgggbjaaDoor
