/-
  CycleNone walked.
  Conditions: numbers below 2^64.
-/
import Derived.Test.YtnkphpjnhjbokaaSY
import Derived.Test.YtnkphpjnhjbokaaCK
namespace Go.Proofs.Ytnkphpjnhjbokaa
open Go.RowKit Go.Shelf
attribute [local go_sem] Oper.semAt_some
set_option maxRecDepth 20000

/-- An arc turned so that it leads upwards. -/
def upA (a : Ar) : Ar := if a.2 < a.1 then (a.2, a.1) else a
def upL (l : List Ar) : List Ar := (l.map upA).filter fun a => a.1 != a.2
theorem upL_next {l : List Ar} {k : Nat} (hk : k < l.length) : upL (l.take (k + 1)) = upL (l.take k) ++ (if (upA l[k]).1 = (upA l[k]).2 then [] else [upA l[k]]) := by
  unfold upL
  rw [List.take_add_one, List.getElem?_eq_getElem hk, List.map_append, List.filter_append]
  congr 1
  simp only [Option.toList, List.map_cons, List.map_nil, List.filter_cons, List.filter_nil]
  by_cases h : (upA l[k]).1 = (upA l[k]).2
  · rw [if_pos h]
    simp [h]
  · rw [if_neg h]
    simp [h]
theorem upL_len (l : List Ar) : (upL l).length ≤ l.length := by
  unfold upL
  have := List.length_filter_le (fun a : Ar => a.1 != a.2) (l.map upA)
  simpa using this
theorem upL_up {l : List Ar} : ∀ a ∈ upL l, a.1 < a.2 := fun a ha => by
  obtain ⟨h1, h2⟩ := List.mem_filter.1 ha
  obtain ⟨b, _, rfl⟩ := List.mem_map.1 h1
  have h3 : (upA b).1 ≠ (upA b).2 := by simpa using h2
  revert h3
  unfold upA
  split
  · intro _
    assumption
  · intro h3
    omega
theorem upL_u64 {l : List Ar} (h : ∀ a ∈ l, U64 a.1 ∧ U64 a.2) : ∀ a ∈ upL l, U64 a.1 ∧ U64 a.2 := fun a ha => by
  obtain ⟨h1, _⟩ := List.mem_filter.1 ha
  obtain ⟨b, hb, rfl⟩ := List.mem_map.1 h1
  have := h b hb
  unfold upA
  split
  · exact ⟨this.2, this.1⟩
  · exact this
theorem reach_up {l : List Ar} (h : ∀ a ∈ l, a.1 < a.2) (x : Nat) : ∀ y ∈ reachU l x l.length, x < y := fun y hy => by
  obtain ⟨j, h1, _, h3⟩ := ((reachU_spec l x l.length).2 y).1 hy
  obtain ⟨j, rfl⟩ : ∃ m, j = m + 1 := ⟨j - 1, by omega⟩
  exact wlk_up h h3
/-- Arcs of the document's own kind in a row of the call's own. -/
structure RowD (w0 : World) (F : List Ar) (v : Value) (z : World) : Prop where
  below : Below w0.heap.size w0 z
  own : z.ownsRow w0.heap.size 34 2 v F.length (arL F)
theorem RowD.nil (w : World) : RowD w [] (.slice none 0 0) w := ⟨Below.refl _ w, World.ownsRow_nil _ _ _ _⟩
theorem RowD.under {w0 z z' : World} {F : List Ar} {v : Value} (h : RowD w0 F v z) (hb : Below z.heap.size z z') : RowD w0 F v z' := ⟨h.below.trans (hb.mono h.below.size), own_under h.own hb (Nat.le_refl _)⟩
theorem RowD.lz {w0 z : World} {F : List Ar} {A : Option Addr} {n c : Nat} (h : RowD w0 F (.slice A n c) z) (hn : F.length = n) : Lz (fun _ => False) z 2 A n (arL F) := by
  have := h.own
  rw [hn] at this
  exact Lz.of_own this (fun _ h => h.elim)
theorem rA_info : ∃ i, Try.prog.info? 34 = some i ∧ i.zero = some zA ∧ i.size = 2 ∧ i.bytes = 16 := ⟨_, rfl, rfl, rfl, rfl⟩
theorem lies_arD (w : World) (y : Ar) : Lies (w.alloc (.cells (arA y) 34)) (w.heap.size + 1) 2 (some ⟨w.heap.size, 0, none⟩) 1 (arV y) := ⟨rfl, fun _ => ⟨_, rfl, Nat.lt_succ_self _, fun j u hu => by
  have h := (At.new w 34 (arA y)).cell j
  rw [add_plain, Nat.zero_add, h]
  simpa [arA, arV] using hu⟩⟩
theorem wpList_pushD {ops : Array Oper} {rest : List Oper} {o : Oper} {a : Act} {Q : Exit → Act → World → Prop} (hgd : o.guard = none) (s x : Operand)
    (ho : o.op = .call { callee := .builtin .append, args := #[s, x], argTypes := #[22, 22] })
    {w0 wb : World} {F : List Ar} {A : Option Addr} {n c : Nat} {y : Ar} (h : RowD w0 F (.slice A n c) wb) (hn : F.length = n) (hm : n + 1 ≤ 1000000)
    (hs : a.eval s = .slice A n c) (hx : a.eval x = .slice (some ⟨wb.heap.size, 0, none⟩) 1 1)
    (k : ∀ A' c' w', RowD w0 (F ++ [y]) (.slice A' (n + 1) c') w' → wpList Try.prog ops Q rest (a.put o.dst (.slice A' (n + 1) c')) w') :
    wpList Try.prog ops Q (o :: rest) a (wb.alloc (.cells (arA y) 34)) := by
  obtain ⟨i0, hi0, hz0, hz1, hz2⟩ := rA_info
  have hown := h.own
  rw [hn] at hown
  have hal : (wb.alloc (.cells (arA y) 34)).ownsRow w0.heap.size 34 2 (.slice A n c) n (arL F) := own_under hown ((Below.refl _ wb).alloc (Nat.le_refl _) _) (Nat.le_refl _)
  have hsz := h.below.size
  refine wpList_app2 _ hgd s x 22 ho w0.heap.size 34 i0 zA 2 16 Try.underlying22 hi0 hz0 hz1 hz2 rfl (by omega) (.slice A n c) n (arL F) hs hal (wb.heap.size + 1) (some ⟨wb.heap.size, 0, none⟩) 1 1 (arV y) hx (lies_arD wb y) (fun u hu => arL_one [y] u (by simpa [arL] using hu)) (by omega) (by simp only [maxLen]; omega) (by omega) (by simp; omega) ?_
  intro v5 w5 ho5 hg5 _
  obtain ⟨A5, c5, rfl, _⟩ := own_slice ho5
  refine k A5 c5 w5 ⟨below_own h.below hown ((World.grownBy_alloc wb _ _).andThen hg5 (fun j hj => .inr hj)) (Nat.le_refl _) h.below.size, ?_⟩
  rw [arL_append, List.length_append, hn]
  simpa [arL] using ho5
set_option maxHeartbeats 6400000 in
theorem none_law (A : Option Addr) (n c : Nat) (l : List Ar) (x : Nat) (w : World) (h : Lz (fun _ => False) w 2 A n (arL l)) (hU : ∀ a ∈ l, U64 a.1 ∧ U64 a.2) (hx : U64 x) :
    Calls Try.prog 7 #[.slice A n c, .int .u64 (x : Int)] w (RetB w (.bool true)) := by
  have hlen := h.arlen
  have HL := Lib.hid h
  have HU := Lib.hid hU
  have HX := Lib.hid hx
  have HLN := Lib.hid hlen
  clear h hU hx hlen
  by_cases h40 : 40 < n
  · have hd : decide ((40 : Int) < (n : Int)) = true := decide_eq_true (by omega)
    have HW := Lib.hid (works_any w)
    go_enter Try.func7, Try.ntmps7
    go_wp2_with fail
    refine HW.out.mono ?_
    rintro e z ⟨rfl, hb⟩
    have HB := Lib.hid hb
    clear hb HW
    go_wp2_with fail
    go_ret
    exact ⟨rfl, HB.out⟩
  · have hd : decide ((40 : Int) < (n : Int)) = false := decide_eq_false (by omega)
    have h40' : n ≤ 40 := by omega
    go_enter Try.func7, Try.ntmps7
    go_wp2_with fail
    go_loopw [5, 6] (fun vo vi wr => ∃ (k : Nat) (B : Option Addr) (m cB : Nat), k ≤ n ∧ m ≤ k ∧ vo = .slice B m cB ∧ vi = .int .i64 (k : Int) ∧ Hid ((upL (l.take k)).length = m) ∧ Hid (RowD w (upL (l.take k)) (.slice B m cB) wr)) (fun _ i _ => n - (intOf i).toNat)
    case atStart => exact ⟨0, none, 0, 0, Nat.zero_le _, Nat.le_refl _, rfl, rfl, Lib.hid rfl, Lib.hid (RowD.nil w)⟩
    case round =>
      obtain ⟨k, B, m, cB, hk, hmk, rfl, rfl, HM, HR⟩ := hrel
      by_cases hlt : k < n
      · obtain ⟨g, o, hl, rfl, hb, hc⟩ := HL.out.ar hlt
        have hnx := upL_next hl
        obtain ⟨y, hy⟩ : ∃ y, l[k] = y := ⟨_, rfl⟩
        rw [hy] at hc hnx
        obtain ⟨y1, y2⟩ := y
        have R1 : Hid (wr.rangeAt g (o + k * 2) (arV (y1, y2))) := pl_rangeAt_block hc (HR.out.below.block g hb)
        have HGB : Hid (g < wr.heap.size) := Nat.lt_of_lt_of_le hb HR.out.below.size
        have C1 : Hid (wr.cell? ⟨g, o + k * 2, none⟩ = some (.int .u64 (y1 : Int))) := R1.out 0 _ rfl
        have C2 : Hid (wr.cell? ⟨g, o + k * 2 + 1, none⟩ = some (.int .u64 (y2 : Int))) := R1.out 1 _ rfl
        have A5 := Lib.hid (At.new wr 34 (arA (y1, y2)))
        have HB5 : Hid (Below wr.heap.size wr (wr.alloc (.cells (arA (y1, y2)) 34))) := (Below.refl _ wr).alloc (Nat.le_refl _) _
        have HRA := Lib.hid (HR.out.under HB5.out)
        have HNX := Lib.hid hnx
        clear hc hy hnx hb
        go_upto_region 8 with (first
          | refine wpList_load_in 34 23 (.tmp 22) rfl rfl rfl g (o + k * 2) rfl (arV (y1, y2)) 2 strrA rfl R1.out ?_
          | refine wpList_store_new 34 (.tmp 7) (.tmp 23) rfl rfl rfl _ wr rfl rfl (arA (y1, y2)) #[.int .u64 0, .int .u64 0] 2 rfl strrA rfl rfl (arA_one _) rfl ?_)
        generalize wr.alloc (.cells (arA (y1, y2)) 34) = w5 at A5 HB5 HRA ⊢
        obtain ⟨b5, hb5⟩ : ∃ b5, wr.heap.size = b5 := ⟨_, rfl⟩
        have HLE5 : Hid (wr.heap.size ≤ b5) := Nat.le_of_eq hb5
        rw [hb5] at A5 ⊢
        clear hb5 R1
        have p1 : w5.cell? ⟨b5, 0, none⟩ = some (.int .u64 (y1 : Int)) := A5.out.cell 0
        have p2 : w5.cell? ⟨b5, 1, none⟩ = some (.int .u64 (y2 : Int)) := A5.out.cell 1
        have A5D : Hid (At w5.drew b5 34 (arA (y1, y2))) := A5.out
        have hrel : ∃ c : Bool, decide ((y2 : Int) < (y1 : Int)) = c := ⟨_, rfl⟩
        obtain ⟨cg, hcg⟩ := hrel
        have hcgn : decide (y2 < y1) = cg := by rw [← hcg]; exact decide_eq_decide.2 (by omega)
        cases cg
        · have hua : upA (y1, y2) = (y1, y2) := if_neg (of_decide_eq_false hcgn)
          rw [hua] at HNX
          obtain ⟨ne, hne⟩ : ∃ ne, ((y1 : Int) != (y2 : Int)) = ne := ⟨_, rfl⟩
          have HNE := Lib.hid hne
          cases ne
          · have HNX2 : Hid (upL (l.take (k + 1)) = upL (l.take k)) := by
              have e0 : (y1 : Int) = (y2 : Int) := by simpa [bne] using HNE.out
              have e : y1 = y2 := by omega
              have := HNX.out
              rw [if_pos e, List.append_nil] at this
              exact this
            go_wp2_with fail
            exact ⟨⟨k + 1, B, m, cB, by omega, by omega, rfl, by go_num, by rw [HNX2.out]; exact HM, by rw [HNX2.out]; exact HRA⟩, by simp [intOf]; omega⟩
          · have HNX2 : Hid (upL (l.take (k + 1)) = upL (l.take k) ++ [(y1, y2)]) := by
              have e : ¬ y1 = y2 := by
                have := HNE.out
                intro e
                subst e
                simp [bne] at this
              have := HNX.out
              rw [if_neg e] at this
              exact this
            go_wp2_with (first
              | refine wpList_load_at 34 46 (.tmp 7) rfl rfl rfl b5 rfl (arA (y1, y2)) 2 strrA rfl A5.out ?_
              | refine wpList_lit1 rfl (.tmp 46) 22 34 2 zA (arA (y1, y2)) rfl rfl Try.underlying22 (by kernel_rfl) (by omega) (by omega) rfl ?_
              | (at_builtin; refine wpList_pushD rfl (.tmp 45) (.tmp 47) rfl (y := (y1, y2)) HRA.out HM.out (by omega) rfl rfl ?_; intro A6 c6 w6 h6))
            exact ⟨⟨k + 1, A6, m + 1, c6, by omega, by omega, rfl, by go_num, Lib.hid (by rw [HNX2.out, List.length_append, HM.out]; rfl), Lib.hid (by rw [HNX2.out]; exact h6)⟩, by simp [intOf]; omega⟩
        · have hlt2 : y2 < y1 := of_decide_eq_true hcgn
          have hua : upA (y1, y2) = (y2, y1) := if_pos hlt2
          rw [hua] at HNX
          have HNX2 : Hid (upL (l.take (k + 1)) = upL (l.take k) ++ [(y2, y1)]) := by
            have := HNX.out
            rw [if_neg (show ¬ y2 = y1 by omega)] at this
            exact this
          have hne : ((y2 : Int) != (y1 : Int)) = true := by
            simp [bne]
            omega
          go_upto_region 9 with fail
          refine wp_region_held_drew (S := Below wr.heap.size wr) (by kernel_rfl) HB5.out.drew (fun hS => ?_)
          refine tk 0 hS ?_
          refine tk 1 hS ?_
          refine tk 2 hS ?_
          refine tk 3 hS ?_
          refine tk 4 hS ?_ (hy := by intro wz hz; have q1 : wz.cell? ⟨g, o + k * 2, none⟩ = some (.int .u64 (y1 : Int)) := (hz.cell (p := ⟨g, o + k * 2, none⟩) HGB.out).trans C1.out; have q2 : wz.cell? ⟨g, o + k * 2 + 1, none⟩ = some (.int .u64 (y2 : Int)) := (hz.cell (p := ⟨g, o + k * 2 + 1, none⟩) HGB.out).trans C2.out; go_simp <;> with_reducible rfl)
          refine tk 5 hS ?_
          refine tk 6 hS ?_
          refine tk 7 hS ?_
          refine tk 8 hS ?_
          refine tk 9 hS ?_ (hy := by intro wz hz; have q1 : wz.cell? ⟨g, o + k * 2, none⟩ = some (.int .u64 (y1 : Int)) := (hz.cell (p := ⟨g, o + k * 2, none⟩) HGB.out).trans C1.out; have q2 : wz.cell? ⟨g, o + k * 2 + 1, none⟩ = some (.int .u64 (y2 : Int)) := (hz.cell (p := ⟨g, o + k * 2 + 1, none⟩) HGB.out).trans C2.out; go_simp <;> with_reducible rfl)
          refine tk 10 hS ?_
          refine wpAnyH_ready (rs := [11]) (by kernel_rfl) (by simp) ?_
          refine AllReadyH.cons rfl (fun K hK => ?_) AllReadyH.nil
          rw [if_pos (by rfl)]
          refine wp_store_at 34 (.tmp 7) (.tmp 39) rfl rfl b5 rfl (arA (y2, y1)) (arA (y1, y2)) 2 rfl strrA rfl rfl (arA_one _) A5D.out ?_
          intro w9 ha9 hg9
          have A9 := Lib.hid ha9
          have B9 := Lib.hid (HB5.out.drew.grown hg9 HB5.out.size (fun k hk => by cases hk; exact HLE5.out))
          clear ha9 hg9
          refine hK.out _ _ (B9.out) (fun hT => ?_)
          clear hK hS
          have hS := hT
          clear hT
          refine wpAnyH_done (by kernel_rfl) ?_ _
          clear hS
          clear p1 p2
          have HRA9 := Lib.hid (HR.out.under B9.out)
          have p1 : w9.cell? ⟨b5, 0, none⟩ = some (.int .u64 (y2 : Int)) := A9.out.cell 0
          have p2 : w9.cell? ⟨b5, 1, none⟩ = some (.int .u64 (y1 : Int)) := A9.out.cell 1
          go_wp2_with (first
            | refine wpList_load_at 34 46 (.tmp 7) rfl rfl rfl b5 rfl (arA (y2, y1)) 2 strrA rfl A9.out ?_
            | refine wpList_lit1 rfl (.tmp 46) 22 34 2 zA (arA (y2, y1)) rfl rfl Try.underlying22 (by kernel_rfl) (by omega) (by omega) rfl ?_
            | (at_builtin; refine wpList_pushD rfl (.tmp 45) (.tmp 47) rfl (y := (y2, y1)) HRA9.out HM.out (by omega) rfl rfl ?_; intro A6 c6 w6 h6))
          exact ⟨⟨k + 1, A6, m + 1, c6, by omega, by omega, rfl, by go_num, Lib.hid (by rw [HNX2.out, List.length_append, HM.out]; rfl), Lib.hid (by rw [HNX2.out]; exact h6)⟩, by simp [intOf]; omega⟩
      · obtain rfl : k = n := by omega
        have hall : l.take k = l := List.take_of_length_le (by have := HLN.out; omega)
        rw [hall] at HM HR
        clear hall
        obtain ⟨U, hU⟩ : ∃ U, upL l = U := ⟨_, rfl⟩
        have HUP : Hid (∀ a ∈ U, a.1 < a.2) := hU ▸ upL_up
        have HUU : Hid (∀ a ∈ U, U64 a.1 ∧ U64 a.2) := hU ▸ upL_u64 HU.out
        rw [hU] at HM HR
        clear hU
        have HO := Lib.hid (own_any B m cB U wr (HR.out.lz HM.out) (by omega))
        go_wp2_with fail
        refine HO.out.mono ?_
        rintro e z ⟨B1, c1, rfl, hr⟩
        have HR1 := Lib.hid hr
        have HB1 := Lib.hid (HR.out.below.trans (hr.below.mono HR.out.below.size))
        have HU1 := Lib.hid (HR.out.under hr.below)
        clear hr HO
        go_wp2_with fail
        refine (Reach_any B1 m c1 U x z (HR1.out.lz HM.out) (by omega) (fun a ha => (HUU.out a ha).2)).mono ?_
        rintro e z2 ⟨P, mr, cP, rfl, hm, hr⟩
        have hgt := reach_up HUP.out x
        have hmr : mr ≤ 40 := by have h1 := reachU_length U x U.length; have h2 := HM.out; omega
        obtain ⟨r, hrr⟩ : ∃ r, reachU U x U.length = r := ⟨_, rfl⟩
        rw [hrr] at hm hr hgt
        have HGT := Lib.hid hgt
        have HPM := Lib.hid hm
        have HP := Lib.hid hr
        have HB2 := Lib.hid (HB1.out.trans (hr.below.mono HB1.out.size))
        have HU2 := Lib.hid (HU1.out.under hr.below)
        clear hm hr hgt hrr HR
        go_wp2_with fail
        go_loop [9] (fun vi => ∃ i : Nat, i ≤ mr ∧ vi = .int .i64 (i : Int)) (fun i => mr - (intOf i).toNat)
        case atStart => exact ⟨0, Nat.zero_le _, rfl⟩
        case round =>
          obtain ⟨i, hi, rfl⟩ := hrel
          by_cases hlt2 : i < mr
          · obtain ⟨pb, po, hpl, rfl, hpb, hpc⟩ := (HP.out.lz HPM.out).uc hlt2
            obtain ⟨v, hv⟩ : ∃ v, r[i] = v := ⟨_, rfl⟩
            have hvx : x < v := by rw [← hv]; exact HGT.out _ (List.getElem_mem hpl)
            rw [hv] at hpc
            have d1 : decide ((v : Int) ≤ (x : Int)) = false := decide_eq_false (by omega)
            have d2 : decide (v ≤ x) = false := decide_eq_false (by omega)
            clear hv hvx
            go_wp2_with fail
            go_round
            case rel => exact ⟨i + 1, by omega, by go_num⟩
            case measure => simp [intOf]; omega
          · obtain rfl : i = mr := by omega
            have hno := noWay_up HUP.out
            have hfx : farU U x x = 0 := (farU_isD U x x).uniq (.inl ⟨rfl, fun j hj => hno x j hj⟩)
            have HNO := Lib.hid hno
            have HFX := Lib.hid hfx
            clear hno hfx
            go_wp2_with fail
            refine (own_any B m cB U z2 (HU2.out.lz HM.out) (by omega)).mono ?_
            rintro e z3 ⟨B3, c3, rfl, hr⟩
            have HR3 := Lib.hid hr
            have HB3 := Lib.hid (HB2.out.trans (hr.below.mono HB2.out.size))
            have HU3 := Lib.hid (HU2.out.under hr.below)
            clear hr
            go_wp2_with fail
            have hs := Stuck_any B3 m c3 U x z3 (HR3.out.lz HM.out) (by omega) (fun a ha => (HUU.out a ha).2) HX.out
            rw [HFX.out, show decide (0 < 0) = false from rfl] at hs
            refine hs.mono ?_
            rintro e z4 ⟨rfl, hb4⟩
            have HB4 := Lib.hid (HB3.out.trans (hb4.mono HB3.out.size))
            have HU4 := Lib.hid (HU3.out.under hb4)
            clear hb4 hs
            go_wp2_with fail
            refine (own_any B m cB U z4 (HU4.out.lz HM.out) (by omega)).mono ?_
            rintro e z5 ⟨B5, c5, rfl, hr⟩
            have HR5 := Lib.hid hr
            have HB5 := Lib.hid (HB4.out.trans (hr.below.mono HB4.out.size))
            have HU5 := Lib.hid (HU4.out.under hr.below)
            clear hr
            go_wp2_with fail
            refine (Find_any B5 m c5 U x z5 (HR5.out.lz HM.out) (by omega) HUU.out HX.out).mono ?_
            rintro e z6 ⟨p, mp, PF, cF, rfl, hm, hr, hf, _⟩
            have hp0 : mp = 0 := by rw [← hm, hf.len, HFX.out]
            subst hp0
            have HB6 := Lib.hid (HB5.out.trans (hr.below.mono HB5.out.size))
            have HU6 := Lib.hid (HU5.out.under hr.below)
            clear hr hm hf
            go_wp2_with fail
            refine (own_any B m cB U z6 (HU6.out.lz HM.out) (by omega)).mono ?_
            rintro e z7 ⟨B7, c7, rfl, hr⟩
            have HR7 := Lib.hid hr
            have HB7 := Lib.hid (HB6.out.trans (hr.below.mono HB6.out.size))
            clear hr
            go_wp2_with fail
            refine (Free_any B7 m c7 U z7 (HR7.out.lz HM.out) (by omega) HUU.out).mono ?_
            rintro e z8 ⟨rb, rfl, hr, hb8⟩
            have hrb : rb = true := hr.2 HNO.out
            subst hrb
            have HB8 := Lib.hid (HB7.out.trans (hb8.mono HB7.out.size))
            clear hb8 hr
            go_wp2_with fail
            refine (works_any z8).mono ?_
            rintro e z9 ⟨rfl, hb9⟩
            have HB9 := Lib.hid (HB8.out.trans (hb9.mono HB8.out.size))
            clear hb9
            go_wp2_with fail
            go_ret
            exact ⟨rfl, HB9.out⟩
end Go.Proofs.Ytnkphpjnhjbokaa
