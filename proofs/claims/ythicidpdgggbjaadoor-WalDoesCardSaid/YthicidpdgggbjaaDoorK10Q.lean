/-
  The walks of wal.New and of All; rows of entries that grow.
  Conditions: disks of at most 100000 sectors; entries of at most 1000 pages and numbers.
-/
import Derived.Test.YthicidpdgggbjaaDoorK9Q
import Derived.Deep.CutRange
namespace Go.Proofs.YthicidpdgggbjaaDoor
open Go.RowKit
set_option maxRecDepth 8000

/-! ### wal.New -/
set_option maxHeartbeats 400000 in
theorem wnew_nil (base size : Int) (w : World) : Calls Tryd.prog 9 #[.pointer none, .int .i64 base, .int .i64 size] w fun e w' => e = .returned (.tuple #[.pointer none, .int .i64 1]) ∧ w = w' := by
  go_enter Tryd.func9, Tryd.ntmps9
  go_wp2_with fail
  go_ret2
  exact ⟨rfl, rfl⟩
section
variable (X : Nat → Prop) (gd gs : Nat) (S : List Sect) (nw fu : Int) (kp : List Bool) (dn : Bool) (w : World)
set_option maxHeartbeats 800000 in
theorem wnew_bad (base size : Int) (h : Plat X w gd gs S nw fu kp dn) (hn : S.length ≤ 100000) (hb1 : -9223372036854775808 ≤ base) (hb2 : base ≤ 9223372036854775807) (hs : ¬ (0 ≤ base ∧ 1 ≤ size ∧ size ≤ S.length - base)) :
    Calls Tryd.prog 9 #[.pointer (some ⟨gd, 0, none⟩), .int .i64 base, .int .i64 size] w fun e w' => e = .returned (.tuple #[.pointer none, .int .i64 2]) ∧ w = w' := by
  by_cases h1 : base < 0
  · have d1 : decide (base < 0) = true := by simpa using h1
    clear hs
    go_enter Tryd.func9, Tryd.ntmps9
    go_wp2_with fail
    go_ret2
    exact ⟨rfl, rfl⟩
  · have d1 : decide (base < 0) = false := by simpa using h1
    by_cases h2 : size < 1
    · have d2 : decide (size < 1) = true := by simpa using h2
      clear hs
      go_enter Tryd.func9, Tryd.ntmps9
      go_wp2_with fail
      go_ret2
      exact ⟨rfl, rfl⟩
    · have d2 : decide (size < 1) = false := by simpa using h2
      have h3 : (S.length : Int) - base < size := by omega
      have d3 : decide ((S.length : Int) - base < size) = true := by simpa using h3
      have u1 : IntKind.i64.wrap ((S.length : Int) - base) = (S.length : Int) - base := by rw [IntKind.wrap_i64]; omega
      have Z := Lib.hid (size_any X gd gs S nw fu kp dn w h)
      clear hs h h3
      go_enter Tryd.func9, Tryd.ntmps9
      go_wp2_with (go_at_call 32; refine Z.out.mono ?_; rintro e w1 ⟨rfl, rfl⟩)
      go_ret2
      exact ⟨rfl, rfl⟩
set_option maxHeartbeats 800000 in
theorem wnew_ok (base size : Nat) (h : Plat X w gd gs S nw fu kp dn) (hn : S.length ≤ 100000) (h1 : 1 ≤ size) (h2 : base + size ≤ S.length) :
    Calls Tryd.prog 9 #[.pointer (some ⟨gd, 0, none⟩), .int .i64 (base : Int), .int .i64 (size : Int)] w fun e w' =>
      e = .returned (.tuple #[.pointer (some ⟨w.heap.size, 0, none⟩), .int .i64 0]) ∧ w' = w.alloc (.cells #[.pointer (some ⟨gd, 0, none⟩), .int .i64 (base : Int), .int .i64 (size : Int), .slice none 0 0, .int .i64 0, .slice none 0 0] 82) := by
  have d1 : decide ((base : Int) < 0) = false := by simp
  have d2 : decide ((size : Int) < 1) = false := by simp; omega
  have d3 : decide ((S.length : Int) - (base : Int) < (size : Int)) = false := by simp; omega
  have u1 : IntKind.i64.wrap ((S.length : Int) - (base : Int)) = (S.length : Int) - (base : Int) := by rw [IntKind.wrap_i64]; omega
  have Z := Lib.hid (size_any X gd gs S nw fu kp dn w h)
  clear h
  go_enter Tryd.func9, Tryd.ntmps9
  go_wp2_with (go_at_call 32; refine Z.out.mono ?_; rintro e w1 ⟨rfl, rfl⟩)
  go_ret2
  exact ⟨rfl, rfl⟩
end
theorem log_new (X : Nat → Prop) (w : World) (gd base size : Nat) :
    LogAt X w.heap.size (w.alloc (.cells #[.pointer (some ⟨gd, 0, none⟩), .int .i64 (base : Int), .int .i64 (size : Int), .slice none 0 0, .int .i64 0, .slice none 0 0] 82)) w.heap.size gd base size [] 0 [] (.slice none 0 0) (.slice none 0 0) :=
  ⟨At.new w 82 _, World.ownsRow_nil _ _ _ _, World.ownsRow_nil _ _ _ _, fun r hr => by simp at hr, Nat.le_refl _⟩

/-! ### Rows of entries -/
/-- A row of entries of the call's own; the slices in it lie outside X and it. -/
structure OwE (X : Nat → Prop) (w : World) (v : Value) (n : Nat) (rs : List Er) (z : World) : Prop where
  own : z.ownsRow w.heap.size 42 13 v n (flatE rs)
  els : ∀ r ∈ rs, ELz (fun k => X k ∨ v.ownBlock = some k) z r
  low : Below w.heap.size w z
section
variable {X Y : Nat → Prop} {w z z' : World} {v v' : Value} {n n' : Nat} {rs : List Er}
theorem OwE.call (h : OwE X w v n rs z) (hb : Below z.heap.size z z') : OwE X w v n rs z' := ⟨own_under h.own hb (Nat.le_refl _), fun r hr => (h.els r hr).below hb, h.low.trans (hb.mono h.low.size)⟩
theorem OwE.nil (X : Nat → Prop) (w : World) : OwE X w (.slice none 0 0) 0 [] w := ⟨World.ownsRow_nil _ _ _ _, fun r hr => by simp at hr, Below.refl _ _⟩
theorem OwE.xlt (h : OwE X w v n rs z) : ∀ k, v.ownBlock = some k → k < z.heap.size ∧ w.heap.size ≤ k := fun k hk => by
  obtain ⟨hb, cur, hc⟩ := own_cells h.own hk
  exact ⟨(Array.getElem?_eq_some_iff.1 hc).1, hb⟩
theorem OwE.push (h : OwE X w v n rs z) {r : Er} (hz : ELz (fun k => X k ∨ v.ownBlock = some k) z r) (ho : z'.ownsRow w.heap.size 42 13 v' (n + 1) (flatE rs ++ erL r)) (hg : z.grownBy z' v.ownBlock) (hv : v'.ownBlock = v.ownBlock ∨ v'.ownBlock = some z.heap.size) :
    OwE X w v' (n + 1) (rs ++ [r]) z' := by
  have key : ∀ r', ELz (fun k => X k ∨ v.ownBlock = some k) z r' → ELz (fun k => X k ∨ v'.ownBlock = some k) z' r' := fun r' h' => h'.step ((Mod.of_grown hg).mono fun _ _ hk => .inr hk) fun k hk hy => by
    rcases hy with hy | hy
    · exact .inl hy
    · rcases hv with hv | hv
      · exact .inr (hv ▸ hy)
      · rw [hv] at hy
        injection hy with hy
        omega
  refine ⟨by rw [flatE_append, flatE_single]; exact ho, fun r' hr' => ?_, h.low.grown hg h.low.size fun g hg => (h.xlt g hg).2⟩
  rcases List.mem_append.1 hr' with hr' | hr'
  · exact key r' (h.els r' hr')
  · rw [List.mem_singleton.1 hr']
    exact key r hz
theorem OwE.len (h : OwE X w v n rs z) : rs.length = n := by have := h.own.1; rw [flatE_length] at this; omega
/-- The row read as a slice. -/
theorem OwE.lez {A : Option Addr} {c : Nat} (h : OwE X w (.slice A n c) n rs z) (hX : ∀ k, X k → k < w.heap.size) : LEz X z A n rs :=
  ⟨Lz.of_own h.own hX, fun r hr => (h.els r hr).mono fun _ _ hk => .inl hk⟩
end

/-! ### All -/
def AllR (w : World) (rs : List Er) (e : Ending) (w' : World) : Prop :=
  ∃ (A : Option Addr) (c : Nat) (rs' : List Er), rs'.map (·.e) = rs.map (·.e) ∧ e = .returned (.slice A rs.length c) ∧ OwE (fun k => k < w.heap.size) w (.slice A rs.length c) rs.length rs' w'
def ALR9 (w : World) (rs : List Er) (n : Nat) (o i : Value) (z : World) : Prop :=
  ∃ (k : Nat) (A : Option Addr) (c : Nat) (rs' : List Er), k ≤ n ∧ i = .int .i64 (k : Int) ∧ o = .slice A k c ∧ Hid (rs'.map (·.e) = (rs.take k).map (·.e)) ∧ Hid (OwE (fun q => q < w.heap.size) w (.slice A k c) k rs' z)

set_option maxHeartbeats 1600000 in
theorem all_any (X : Nat → Prop) (B : Nat) (w : World) (g gd base size : Nat) (rs : List Er) (fo : Nat) (ws : List Sect) (vE vW : Value) (h : LogAt X B w g gd base size rs fo ws vE vW) (hn : rs.length ≤ 1000)
    (hP : ∀ r ∈ rs, r.np ≤ 1000 ∧ r.na ≤ 1000) : Calls Tryd.prog 31 #[.pointer (some ⟨g, 0, none⟩)] w (AllR w rs) := by
  obtain ⟨AE, cE, AW, cW, rfl, rfl, hcE, hcE2, _⟩ := h.sl
  obtain ⟨c0, c1, c2, c3, c4, c5⟩ := h.cells
  obtain ⟨i1, hi1, hy0, hy1, hy2⟩ := info_parts ent_info
  obtain ⟨n, hnn⟩ : ∃ n, rs.length = n := ⟨_, rfl⟩
  have LE0 : LEz (fun _ => False) w AE n rs := ⟨hnn ▸ Lz.of_own h.oe (fun _ h => h.elim), fun r hr => (h.els r hr).mono fun _ _ h => h.elim⟩
  rw [hnn] at c3 hcE hn
  have HN := Lib.hid hnn
  have HL := Lib.hid LE0
  have HP := Lib.hid hP
  obtain ⟨W3, hmk, ho3, hg3⟩ := run_make_own (P := Tryd.prog) w w.heap.size 32 42 i1 _ 13 Tryd.underlying32 hi1 hy0 hy1 .i64 .i64 n (by rw [hy2]; omega) (by simp only [maxLen]; omega) (Nat.le_refl _)
  have O3 := Lib.hid (show OwE (fun k => k < w.heap.size) w (.slice (some ⟨w.heap.size, 0, none⟩) 0 n) 0 [] W3 from ⟨ho3, fun r hr => by simp at hr, (Below.refl _ _).grown hg3 (Nat.le_refl _) (fun k e => by cases e)⟩)
  have d3 : W3.cell? ⟨g, 3, none⟩ = some (.slice AE n cE) := (O3.out.low.cell (p := ⟨g, 3, none⟩) h.box.lt).trans c3
  clear h hnn LE0 hP ho3 hg3 c0 c1 c2 c4 c5
  go_enter Tryd.func31, Tryd.ntmps31
  go_wp2_with fail
  go_loopw [3, 17] (fun o i z => ALR9 w rs n o i z) (fun _ i _ => n - (intOf i).toNat)
  case atStart => exact ⟨0, _, n, [], Nat.zero_le _, rfl, rfl, rfl, O3⟩
  case round =>
    obtain ⟨k, A1, c1, rs', hk0, rfl, rfl, HE, HO⟩ := hrel
    by_cases hlt : k < n
    · obtain ⟨b, o, hl, rfl, _, hbl, hR, hel⟩ := (HL.out.below HO.out.low).at hlt
      have R1 := Lib.hid hR
      have EL1 := Lib.hid (hel.below ((Below.refl _ wr).alloc (Nat.le_refl _) (.cells (erA rs[k]) 42)))
      obtain ⟨r, hr⟩ : ∃ r, rs[k] = r := ⟨_, rfl⟩
      have HT := Lib.hid (show (rs.take (k + 1)).map (·.e) = (rs.take k).map (·.e) ++ [r.e] by rw [List.take_succ_eq_append_getElem hl, List.map_append, hr]; rfl)
      obtain ⟨p1, p2⟩ := HP.out _ (List.getElem_mem hl)
      rw [hr] at R1 EL1 p1 p2
      have B5 := Lib.hid (At.new wr 42 (erA r))
      have HO2 := Lib.hid (HO.out.call ((Below.refl _ wr).alloc (Nat.le_refl _) (.cells (erA r) 42)))
      clear hR hel hr
      go_wp2_with (first
        | refine wpList_load_er 20 (.tmp 19) rfl rfl rfl b (o + k * 13) rfl r R1.out ?_
        | (refine wpList_store_new 42 (.tmp 5) (.tmp 20) rfl rfl rfl wr.heap.size wr rfl rfl (erA r) zE 13 rfl strE rfl rfl (erA_one _) rfl ?_)
        | (refine wpList_load_at 42 22 (.tmp 5) rfl rfl rfl wr.heap.size rfl (erA r) 13 strE rfl B5.out ?_)
        | (go_at_call 34; refine (twin_any _ r _ EL1.out p1 p2).mono ?_
           rintro e z2 ⟨r2, hre, _, _, rfl, hel2, hb2⟩
           have HRE := Lib.hid hre
           have HO3 := Lib.hid ((HO2.out.call hb2).call ((Below.refl _ _).alloc (Nat.le_refl _) (.cells (erA r2) 42)))
           have EL3 := Lib.hid (show ELz (fun q => q < w.heap.size ∨ (Value.slice A1 k c1).ownBlock = some q) (z2.alloc (.cells (erA r2) 42)) r2 from (hel2.mono fun q _ hq => by
             rcases hq with hq | hq
             · exact Nat.lt_of_lt_of_le hq HO2.out.low.size
             · exact (HO2.out.xlt q hq).1).below ((Below.refl _ _).alloc (Nat.le_refl _) _))
           have hzl : w.heap.size ≤ (z2.alloc (.cells (erA r2) 42)).heap.size := HO3.out.low.size
           clear hre hel2 hb2)
        | refine wpList_lit1 rfl (.tmp 23) 32 42 13 _ (erA r2) rfl rfl Tryd.underlying32 ent_info2 (by omega) (by omega) rfl ?_
        | (at_builtin; refine wpList_app2 _ rfl (.tmp 21) (.tmp 24) _ rfl w.heap.size 42 i1 _ 13 136 Tryd.underlying32 hi1 hy0 hy1 hy2 rfl (by omega) _ _ _ rfl HO3.out.own _ _ 1 _ _ rfl (lies_newC _ (erL r2) 42 13 rfl) (erL_one _) (by omega) (by simp only [maxLen]; omega) (by omega) hzl ?_
           intro v6 z6 ho6 hg6 hv6
           have HO6 := Lib.hid (HO3.out.push EL3.out ho6 hg6 hv6)
           clear hg6 ho6 hv6))
      obtain ⟨A6, c6, h6, _⟩ := own_slice HO6.out.own
      subst h6
      refine ⟨⟨k + 1, A6, c6, rs' ++ [r2], by omega, by go_num, rfl, ?_, HO6⟩, by simp [intOf]; omega⟩
      show _ = _
      rw [List.map_append, HE.out, HT.out, List.map_cons, List.map_nil, HRE.out]
    · obtain rfl : k = n := by omega
      go_wp2_with fail
      go_ret
      have he := HE.out
      rw [List.take_of_length_le (by rw [HN.out]; exact Nat.le_refl _)] at he
      refine ⟨A1, c1, rs', he, ?_, ?_⟩
      · rw [HN.out]; rfl
      · rw [HN.out]; exact HO.out
end Go.Proofs.YthicidpdgggbjaaDoor
