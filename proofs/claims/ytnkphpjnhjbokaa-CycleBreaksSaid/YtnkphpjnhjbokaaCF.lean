/-
  The document's functions, one element more; no program in it.
  Conditions: none beyond those that each theorem names.
-/
import Derived.Test.YtnkphpjnhjbokaaCD
namespace Go.Proofs.Ytnkphpjnhjbokaa
set_option maxRecDepth 20000

theorem insU_put {x y : Nat} : ∀ {l : List Nat}, (∃ z ∈ l, x < z) → insU (l ++ [y]) x = insU l x ++ [y]
  | [], h => by
    obtain ⟨z, hz, _⟩ := h
    cases hz
  | a :: l, h => by
    show insU (a :: (l ++ [y])) x = _
    unfold insU
    by_cases ha : x < a
    · rw [if_pos ha, if_pos ha]
      rfl
    · rw [if_neg ha, if_neg ha, insU_put (l := l) ?_]
      · rfl
      · obtain ⟨z, hz, hxz⟩ := h
        rcases List.mem_cons.1 hz with rfl | hz
        · exact absurd hxz ha
        · exact ⟨z, hz, hxz⟩
theorem insU_end {x : Nat} : ∀ {l m : List Nat}, (∀ z ∈ l, ¬ x < z) → insU (l ++ m) x = l ++ insU m x
  | [], _, _ => rfl
  | a :: l, m, h => by
    show insU (a :: (l ++ m)) x = _
    rw [show insU (a :: (l ++ m)) x = if x < a then x :: a :: (l ++ m) else a :: insU (l ++ m) x from rfl, if_neg (h a List.mem_cons_self), insU_end fun z hz => h z (List.mem_cons_of_mem _ hz)]
    rfl
theorem insU_length (x : Nat) : ∀ l : List Nat, (insU l x).length = l.length + 1
  | [] => rfl
  | a :: l => by
    unfold insU
    split
    · rfl
    · simp [insU_length x l]
/-- What insert has made of the first so many. -/
def insK (l : List Nat) (x k : Nat) (put : Bool) : List Nat := if put then insU (l.take k) x else l.take k
def putK (l : List Nat) (x k : Nat) : Bool := (l.take k).any fun z => decide (x < z)
theorem putK_zero (l : List Nat) (x : Nat) : putK l x 0 = false := rfl
theorem putK_next {l : List Nat} {x k : Nat} (hk : k < l.length) : putK l x (k + 1) = (putK l x k || decide (x < l[k])) := by
  unfold putK
  rw [List.take_add_one, List.getElem?_eq_getElem hk, List.any_append]
  simp
theorem putK_true {l : List Nat} {x k : Nat} (h : putK l x k = true) : ∃ z ∈ l.take k, x < z := by
  obtain ⟨z, hz, h1⟩ := List.any_eq_true.1 h
  exact ⟨z, hz, by simpa using h1⟩
theorem putK_false {l : List Nat} {x k : Nat} (h : putK l x k = false) : ∀ z ∈ l.take k, ¬ x < z := fun z hz => by
  have := List.any_eq_false.1 h z hz
  simpa using this
theorem take_one {l : List Nat} {k : Nat} (hk : k < l.length) : l.take (k + 1) = l.take k ++ [l[k]] := by
  rw [List.take_add_one, List.getElem?_eq_getElem hk]
  rfl
/-- One element more, the number put before. -/
theorem insK_put {l : List Nat} {x k : Nat} (hk : k < l.length) (h : putK l x k = true) : insK l x (k + 1) true = insK l x k true ++ [l[k]] := by
  show insU _ _ = insU _ _ ++ _
  rw [take_one hk, insU_put (putK_true h)]
/-- One element more, the number put now. -/
theorem insK_now {l : List Nat} {x k : Nat} (hk : k < l.length) (h : putK l x k = false) (hx : x < l[k]) : insK l x (k + 1) true = insK l x k false ++ [x] ++ [l[k]] := by
  show insU _ _ = l.take k ++ _ ++ _
  rw [take_one hk, insU_end (putK_false h)]
  unfold insU
  rw [if_pos hx]
  simp
theorem insK_not {l : List Nat} {x k : Nat} (hk : k < l.length) : insK l x (k + 1) false = insK l x k false ++ [l[k]] := take_one hk
theorem insK_done {l : List Nat} {x n : Nat} (hn : l.length = n) : insU l x = insK l x n true := by
  show _ = insU _ _
  rw [List.take_of_length_le (by omega)]
theorem insK_last {l : List Nat} {x n : Nat} (hn : l.length = n) (h : putK l x n = false) : insU l x = insK l x n false ++ [x] := by
  have := insU_end (m := []) (putK_false h)
  rw [List.append_nil, List.take_of_length_le (by omega)] at this
  rw [this]
  show _ = l.take n ++ _
  rw [List.take_of_length_le (by omega)]
  rfl
/-- Step, one arc more. -/
theorem stepU_snoc (row : List Nat) (a : Ar) : ∀ (l : List Ar) (out : List Nat), stepU (l ++ [a]) row out = if a.1 ∈ row ∧ a.2 ∉ stepU l row out then insU (stepU l row out) a.2 else stepU l row out
  | [], _ => rfl
  | _ :: l, _ => stepU_snoc row a l _
theorem stepU_take (row : List Nat) {l : List Ar} {k : Nat} (hk : k < l.length) : stepU (l.take (k + 1)) row [] = if l[k].1 ∈ row ∧ l[k].2 ∉ stepU (l.take k) row [] then insU (stepU (l.take k) row []) l[k].2 else stepU (l.take k) row [] := by
  rw [List.take_add_one, List.getElem?_eq_getElem hk]
  exact stepU_snoc row l[k] (l.take k) []
theorem stepU_length (row : List Nat) : ∀ (l : List Ar) (out : List Nat), (stepU l row out).length ≤ out.length + l.length
  | [], _ => Nat.le_refl _
  | a :: l, out => by
    unfold stepU
    have := stepU_length row l (if a.1 ∈ row ∧ a.2 ∉ out then insU out a.2 else out)
    have h2 : (if a.1 ∈ row ∧ a.2 ∉ out then insU out a.2 else out).length ≤ out.length + 1 := by
      split
      · rw [insU_length]
        exact Nat.le_refl _
      · omega
    simp only [List.length_cons]
    omega
theorem insAll_snoc (n : Nat) : ∀ (ns out : List Nat), insAll (ns ++ [n]) out = if n ∈ insAll ns out then insAll ns out else insU (insAll ns out) n
  | [], _ => rfl
  | _ :: ns, _ => insAll_snoc n ns _
theorem insAll_take {ns : List Nat} {k : Nat} (hk : k < ns.length) (out : List Nat) : insAll (ns.take (k + 1)) out = if ns[k] ∈ insAll (ns.take k) out then insAll (ns.take k) out else insU (insAll (ns.take k) out) ns[k] := by
  rw [List.take_add_one, List.getElem?_eq_getElem hk]
  exact insAll_snoc ns[k] (ns.take k) out
theorem insAll_length : ∀ (ns out : List Nat), (insAll ns out).length ≤ out.length + ns.length
  | [], _ => Nat.le_refl _
  | n :: ns, out => by
    unfold insAll
    have := insAll_length ns (if n ∈ out then out else insU out n)
    have h2 : (if n ∈ out then out else insU out n).length ≤ out.length + 1 := by
      split
      · omega
      · rw [insU_length]
        exact Nat.le_refl _
    simp only [List.length_cons]
    omega
/-- Far, step by step: nothing was found in the first so many. -/
theorem farU_at {l : List Ar} {a b k : Nat} (hk : k < l.length) (h : ∀ j, j < k → b ∉ rowU l a (j + 1)) (hb : b ∈ rowU l a (k + 1)) : farU l a b = k + 1 := by
  unfold farU
  have : ((List.range l.length).find? fun k => decide (b ∈ rowU l a (k + 1))) = some k := by
    rw [List.find?_eq_some_iff_getElem]
    exact ⟨by simpa using hb, k, by simpa using hk, by simp, fun j hj => by simpa using h j hj⟩
  rw [this]
  rfl
theorem farU_none {l : List Ar} {a b : Nat} (h : ∀ j, j < l.length → b ∉ rowU l a (j + 1)) : farU l a b = 0 := by
  unfold farU
  have : ((List.range l.length).find? fun k => decide (b ∈ rowU l a (k + 1))) = none :=
    List.find?_eq_none.2 fun j hj => by simpa using h j (by simpa using hj)
  rw [this]
  rfl
theorem rowU_length (l : List Ar) (a : Nat) : ∀ k, (rowU l a k).length ≤ 1 + l.length
  | 0 => by simp [rowU]
  | k + 1 => by
    unfold rowU
    have := stepU_length (rowU l a k) l []
    simp at this
    omega
theorem reachU_length (l : List Ar) (a : Nat) (k : Nat) : (reachU l a k).length ≤ l.length := by
  have h := reachU_spec l a k
  have := nodup_len (s := reachU l a k) (t := l.map (·.2)) (h.1.imp fun hab => Nat.ne_of_lt hab) fun x hx => by
    obtain ⟨j, j1, _, j3⟩ := (h.2 x).1 hx
    obtain ⟨j, rfl⟩ : ∃ m, j = m + 1 := ⟨j - 1, by omega⟩
    obtain ⟨c, _, hc⟩ := j3
    exact List.mem_map.2 ⟨_, hc, rfl⟩
  simpa using this
end Go.Proofs.Ytnkphpjnhjbokaa
