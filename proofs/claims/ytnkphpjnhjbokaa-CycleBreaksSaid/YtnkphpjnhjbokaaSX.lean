/-
  Free.
  Conditions: at most 1000 arcs; numbers below 2^64.
-/
import Derived.Test.YtnkphpjnhjbokaaSW
namespace Go.Proofs.Ytnkphpjnhjbokaa
open Go.RowKit Go.Shelf
open Go.Maps (Keyed)
attribute [local go_sem] Oper.semAt_some
set_option maxRecDepth 100000

theorem remI_op : ∀ (ss : List Nat) (s : KS) (x : Nat), x ∈ (remI ss s).op → x ∈ s.op ∨ x ∈ ss
  | [], _, _, h => .inl h
  | y :: ss, s, x, h => by
    rcases remI_op ss _ x h with h1 | h1
    · dsimp only at h1
      split at h1
      · rcases List.mem_append.1 h1 with h1 | h1
        · exact .inl h1
        · exact .inr (by simp at h1; rw [h1]; exact List.mem_cons_self)
      · exact .inl h1
    · exact .inr (List.mem_cons_of_mem _ h1)
/-- The numbers that an arc begins or ends at. -/
def ends (g : List Ar) : List Nat := g.map (·.1) ++ g.map (·.2)
theorem ends_len (g : List Ar) : (ends g).length = 2 * g.length := by unfold ends; simp; omega
theorem count_take {g : List Ar} {k : Nat} (hk : k < g.length) (x : Nat) : (g.take (k + 1)).countP (fun a => a.2 == x) = (g.take k).countP (fun a => a.2 == x) + if x = g[k].2 then 1 else 0 := by
  rw [List.take_add_one, List.getElem?_eq_getElem hk, List.countP_append]
  congr 1
  by_cases h : x = g[k].2
  · rw [if_pos h, h]
    simp
  · rw [if_neg h]
    simp
    exact fun e => h e.symm
/-- What Free keeps while it counts. -/
structure CtS (w0 : World) (B0 bG bM b : Nat) (A : Option Addr) (n c B1 : Nat) (g : List Ar) (into : Nat → Int) (W : World) : Prop where
  bm : At W bM 41 #[.map (some b)]
  mp : ∃ f, MapAt u64V U64 W b f ∧ ∀ x, lookV (.int .i64 0) (f x) false = .int .i64 (into x)
  bg : At W bG 42 #[.slice A n c]
  gr : W.ownsRow B1 40 2 (.slice A n c) n (arL g)
  low : Below B0 w0 W
section
variable {w0 W W' : World} {B0 bG bM b : Nat} {A : Option Addr} {n c B1 : Nat} {g : List Ar} {into : Nat → Int}
theorem CtS.below (h : CtS w0 B0 bG bM b A n c B1 g into W) (hb : Below W.heap.size W W') (hB0 : B0 ≤ w0.heap.size) : CtS w0 B0 bG bM b A n c B1 g into W' := by
  obtain ⟨f, m1, m2⟩ := h.mp
  exact ⟨h.bm.under hb h.bm.lt, ⟨f, m1.move (hb.block b m1.lt), m2⟩, h.bg.under hb h.bg.lt, own_under h.gr hb (Nat.le_refl _), h.low.trans (hb.mono (Nat.le_trans hB0 h.low.size))⟩
theorem CtS.setM (h : CtS w0 B0 bG bM b A n c B1 g into W) {f : Nat → Option Value} (hf : ∀ x, lookV (.int .i64 0) (f x) false = .int .i64 (into x)) (h1 : MapAt u64V U64 W b f) {y : Nat} {v : Int} (hm : MapAt u64V U64 W' b (updF f y (some (.int .i64 v)))) (hg : W.grownBy W' (some b)) (hb : B0 ≤ b) (hB0 : B0 ≤ W.heap.size) :
    CtS w0 B0 bG bM b A n c B1 g (fun z => if z = y then v else into z) W' := by
  obtain ⟨es, clock, hmm, _⟩ := h1
  have hne : ∀ {k t cs}, At W k t cs → At W' k t cs := fun {k t cs} ha => ha.grown hg (fun e => by
    injection e with e
    subst e
    rw [show W.heap[k]? = _ from ha] at hmm
    cases hmm)
  have hro : ∀ {B e sz v m xs}, W.ownsRow B e sz v m xs → W'.ownsRow B e sz v m xs := fun {B e sz v m xs} ho => by
    refine ho.kept hg ?_
    cases hv : v.ownBlock with
    | none => exact .inl rfl
    | some k =>
      refine .inr fun e1 => ?_
      obtain ⟨_, cur, hc⟩ := own_cells ho hv
      injection e1 with e1
      subst e1
      rw [hc] at hmm
      cases hmm
  refine ⟨hne h.bm, ⟨_, hm, fun x => ?_⟩, hne h.bg, hro h.gr, h.low.grown hg hB0 fun r e => by cases e; exact hb⟩
  unfold updF
  split
  · rfl
  · exact hf x
end
theorem CtS.start (w0 z : World) (A : Option Addr) (n c B1 : Nat) (g : List Ar) (h : z.ownsRow B1 40 2 (.slice A n c) n (arL g)) (hl : Below w0.heap.size w0 z) :
    CtS w0 w0.heap.size z.heap.size (z.heap.size + 1 + 1) (z.heap.size + 1) A n c B1 g (fun _ => 0) (((z.alloc (.cells #[.slice A n c] 42)).alloc (.map #[] 0)).alloc (.cells #[.map (some (z.heap.size + 1))] 41)) := by
  have h1 := Srch.start z B1 A n c g h
  obtain ⟨w1, e1⟩ : ∃ w1, z.alloc (.cells #[.slice A n c] 42) = w1 := ⟨_, rfl⟩
  have s1 : w1.heap.size = z.heap.size + 1 := by rw [← e1]; simp
  have g1 : At w1 z.heap.size 42 #[.slice A n c] := e1 ▸ At.new z _ _
  have b1 : Below z.heap.size z w1 := e1 ▸ (Below.refl _ z).alloc (Nat.le_refl _) _
  obtain ⟨w2, e2⟩ : ∃ w2, w1.alloc (.map #[] 0) = w2 := ⟨_, rfl⟩
  have b2 : Below w1.heap.size w1 w2 := e2 ▸ (Below.refl _ w1).alloc (Nat.le_refl _) _
  have s2 : w2.heap.size = z.heap.size + 1 + 1 := by rw [← e2]; simp; omega
  have m2 : MapAt u64V U64 w2 (z.heap.size + 1) fun _ => none := by rw [← e2, ← s1]; exact MapAt.made w1
  have g3 := At.new w2 41 #[.map (some (z.heap.size + 1))]
  have b3 : Below w2.heap.size w2 (w2.alloc (.cells #[.map (some (z.heap.size + 1))] 41)) := (Below.refl _ w2).alloc (Nat.le_refl _) _
  rw [e1, e2]
  rw [s2] at g3
  exact ⟨g3, ⟨_, m2.move (b3.block _ (by omega)), fun x => rfl⟩, (g1.under b2 (by omega)).under b3 (by omega), own_under (own_under (own_under h b1 (Nat.le_refl _)) b2 (Nat.le_refl _)) b3 (Nat.le_refl _), hl.trans (((b1.trans (b2.mono b1.size)).trans (b3.mono (by omega))).mono hl.size)⟩
/-- The two boxes more. -/
theorem CtS.more {w0 W : World} {B0 bG bM b : Nat} {A : Option Addr} {n c B1 : Nat} {g : List Ar} {into : Nat → Int} (h : CtS w0 B0 bG bM b A n c B1 g into W) (hB0 : B0 ≤ w0.heap.size) (l : Int) :
    KrS w0 B0 w0.heap.size bG W.heap.size bM (W.heap.size + 1) b (fun _ => False) A n c B1 g ⟨into, l, []⟩ ((W.alloc (.cells #[.int .i64 l] 3)).alloc (.cells #[.slice none 0 0] 25)) := by
  have hb : Below W.heap.size W ((W.alloc (.cells #[.int .i64 l] 3)).alloc (.cells #[.slice none 0 0] 25)) := ((Below.refl _ W).alloc (Nat.le_refl _) _).alloc (by simp) _
  have h2 := h.below hb hB0
  have g1 := (At.new W 3 #[.int .i64 l]).alloc (.cells #[.slice none 0 0] 25)
  have g2 := At.new (W.alloc (.cells #[.int .i64 l] 3)) 25 #[.slice none 0 0]
  rw [World.size_alloc] at g2
  exact ⟨h2.bm, h2.mp, g1, ⟨none, 0, 0, g2, rfl, World.ownsRow_nil _ _ _ _, fun _ hk => by cases hk⟩, h2.bg, h2.gr, h2.low⟩
set_option maxHeartbeats 8000000 in
theorem Free_any (A : Option Addr) (n c : Nat) (l : List Ar) (w : World) (h : Lz (fun _ => False) w 2 A n (arL l)) (hn : n ≤ 1000) (hU : ∀ a ∈ l, U64 a.1 ∧ U64 a.2) :
    Calls Try.prog 17 #[.slice A n c] w (fun e z => ∃ r : Bool, e = .returned (.bool r) ∧ (r = true ↔ NoWay l) ∧ Below w.heap.size w z) := by
  have HG := Lib.hid (graphOf_any (fun _ => False) n c A l w h (by omega))
  have HU := Lib.hid hU
  have hmf : ∀ (fn : Fn) (first cap : Array Value) (w : World), (Instr.makeFunc fn first cap).run Try.prog w = .ok (.func fn first cap) w := fun _ _ _ _ => rfl
  have hmm : ∀ W, (Instr.makeMap 41 none).run Try.prog W = .ok (.map (some W.heap.size)) (W.alloc (.map #[] 0)) := fun W => rfl
  clear h hU
  go_enter Try.func17, Try.ntmps17
  go_wp2_with fail
  refine HG.out.mono ?_
  rintro e z ⟨B, cB, g, rfl, hG⟩
  have HGS := Lib.hid hG
  have HC0 := Lib.hid (CtS.start w z B n cB w.heap.size g hG.own hG.below)
  have HLN : Hid (g.length = n) := by show _ = _; rw [hG.perm.length_eq]; exact hG.len
  have HUG : Hid (∀ a ∈ g, U64 a.1 ∧ U64 a.2) := fun a ha => HU.out a (hG.perm.mem_iff.1 ha)
  clear hG HG
  go_wp2_with fail
  generalize (((z.alloc (.cells #[.slice B n cB] 42)).alloc (.map #[] 0)).alloc (.cells #[.map (some (z.heap.size + 1))] 41)) = W0 at HC0 ⊢
  obtain ⟨bG, hbG⟩ : ∃ bG, z.heap.size = bG := ⟨_, rfl⟩
  have HBG : Hid (w.heap.size ≤ bG) := by show _ ≤ _; rw [← hbG]; exact HGS.out.below.size
  rw [hbG] at HC0 ⊢
  obtain ⟨b, hb⟩ : ∃ b, bG + 1 = b := ⟨_, rfl⟩
  rw [hb] at HC0 ⊢
  obtain ⟨bM, hbM⟩ : ∃ bM, b + 1 = bM := ⟨_, rfl⟩
  rw [hbM] at HC0 ⊢
  have HB : Hid (w.heap.size ≤ b ∧ w.heap.size ≤ bM) := by have := HBG.out; show _ ∧ _; omega
  clear hb hbG hbM
  go_loopw [18] (fun vi wr => ∃ k : Nat, k ≤ n ∧ vi = .int .i64 (k : Int) ∧ Hid (CtS w w.heap.size bG bM b B n cB w.heap.size g (fun x => ((g.take k).countP fun a => a.2 == x : Nat)) wr)) (fun i _ => n - (intOf i).toNat)
  case atStart => exact ⟨0, Nat.zero_le _, rfl, HC0⟩
  case round =>
    clear HC0
    obtain ⟨k, hk, rfl, HS⟩ := hrel
    by_cases hlt : k < n
    · obtain ⟨gb, go, hl, rfl, hb, hc⟩ := (Lz.of_own (X := fun _ => False) HS.out.gr (fun _ h => h.elim)).ar hlt
      have hct := count_take hl
      obtain ⟨y, hy⟩ : ∃ y, g[k] = y := ⟨_, rfl⟩
      rw [hy] at hc hct
      obtain ⟨y1, y2⟩ := y
      have hU2 : U64 y2 := by
        have := (HUG.out g[k] (List.getElem_mem hl)).2
        rw [hy] at this
        exact this
      have hcb : (g.take k).countP (fun a => a.2 == y2) ≤ 1000 := by
        have h1 := List.countP_le_length (p := fun a : Ar => a.2 == y2) (l := g.take k)
        have h2 := HLN.out
        rw [List.length_take] at h1
        omega
      have R1 : Hid (wr.rangeAt gb (go + k * 2) (arV (y1, y2))) := hc
      have A5 := Lib.hid (At.new wr 40 (arA (y1, y2)))
      have HS5 := Lib.hid (HS.out.below ((Below.refl wr.heap.size wr).alloc (Nat.le_refl _) (.cells (arA (y1, y2)) 40)) (Nat.le_refl _))
      have HCT := Lib.hid hct
      have HU2 := Lib.hid hU2
      have HCB := Lib.hid hcb
      clear hc hy hct hU2 hcb HS
      go_upto_region 6 with (first
        | refine wpList_load_in 40 21 (.tmp 20) rfl rfl rfl gb (go + k * 2) rfl (arV (y1, y2)) 2 strA rfl R1.out ?_
        | refine wpList_store_new 40 (.tmp 6) (.tmp 21) rfl rfl rfl _ wr rfl rfl (arA (y1, y2)) #[.int .u64 0, .int .u64 0] 2 rfl strA rfl rfl (arA_one _) rfl ?_)
      have p2 := A5.out.cell 1
      generalize wr.alloc (.cells (arA (y1, y2)) 40) = w5 at A5 HS5 p2 ⊢
      generalize wr.heap.size = b5 at A5 p2 ⊢
      have p2' : w5.cell? ⟨b5, 1, none⟩ = some (.int .u64 (y2 : Int)) := p2
      have cM : w5.cell? ⟨bM, 0, none⟩ = some (.map (some b)) := HS5.out.bm.cell 0
      clear p2
      obtain ⟨f, m1, m2⟩ := HS5.out.mp
      obtain ⟨v, hv⟩ : ∃ v, (g.take k).countP (fun a => a.2 == y2) = v := ⟨_, rfl⟩
      have hlk : (Instr.lookup 41 (.map (some b)) (.int .u64 (y2 : Int)) false).run Try.prog w5 = .ok (.int .i64 (v : Int)) w5 := by
        have h9 := m1.look keyT_u64 Try.underlying41 (Try.zeroValue3 w5) false HU2.out
        rw [m2 y2, hv] at h9
        exact h9
      have hwv : wrap64 ((v : Int) + 1) = (v : Int) + 1 := by have := HCB.out; unfold wrap64; omega
      have HM1 := Lib.hid m1
      have HM2 := Lib.hid m2
      have HV := Lib.hid hv
      clear m1 m2 hv
      go_wp2_with (refine wpList_mapStore rfl (.tmp 22) (.tmp 24) (.tmp 26) rfl keyT_u64 Try.underlying41 rfl HM1.out y2 rfl HU2.out (.int .i64 ((v : Int) + 1)) (by first | rfl | (show Value.int .i64 (wrap64 ((v : Int) + 1)) = _; rw [hwv])) ?_
                   intro w1 hm1 hg1
                   have HS2 := Lib.hid (HS5.out.setM HM2.out HM1.out hm1 hg1 HB.out.1 HS5.out.low.size)
                   clear hm1 hg1 hlk)
      have he : (fun x => if x = y2 then (v : Int) + 1 else (((g.take k).countP fun a => a.2 == x : Nat) : Int)) = fun x => (((g.take (k + 1)).countP fun a => a.2 == x : Nat) : Int) := by
        funext x
        have h1 := HCT.out x
        by_cases e : x = y2
        · rw [if_pos e] at h1 ⊢
          subst e
          rw [HV.out] at h1
          omega
        · rw [if_neg e] at h1 ⊢
          omega
      have HSN : Hid (CtS w w.heap.size bG bM b (some ⟨gb, go, none⟩) n cB w.heap.size g (fun x => (((g.take (k + 1)).countP fun a => a.2 == x : Nat) : Int)) w1) := he ▸ HS2.out
      exact ⟨⟨k + 1, by omega, by go_num, HSN⟩, by simp [intOf]; omega⟩
    · obtain rfl : k = n := by omega
      have hall : g.take k = g := List.take_of_length_le (by have := HLN.out; omega)
      rw [hall] at HS
      have HK0 := Lib.hid (HS.out.more (Nat.le_refl _) (k : Int))
      have cG : wr.cell? ⟨bG, 0, none⟩ = some (.slice B k cB) := HS.out.bg.cell 0
      have cG2 : ∀ o1 o2, ((wr.alloc o1).alloc o2).cell? ⟨bG, 0, none⟩ = some (.slice B k cB) := fun o1 o2 => ((HS.out.bg.alloc o1).alloc o2).cell 0
      clear hall
      go_wp2_with fail
      obtain ⟨bL, hbL⟩ : ∃ bL, wr.heap.size = bL := ⟨_, rfl⟩
      have HBL : Hid (w.heap.size ≤ bL) := by show _ ≤ _; rw [← hbL]; exact HS.out.low.size
      obtain ⟨bQ, hbQ⟩ : ∃ bQ, bL + 1 = bQ := ⟨_, rfl⟩
      have HBQ : Hid (w.heap.size ≤ bQ) := by have := HBL.out; show _ ≤ _; omega
      rw [hbL] at HK0
      rw [hbQ] at HK0
      rw [hbL, hbQ]
      generalize ((wr.alloc (.cells #[.int .i64 (k : Int)] 3)).alloc (.cells #[.slice none 0 0] 25)) = W2 at HK0 ⊢
      clear hbL hbQ cG cG2 HS
      obtain ⟨i0, hi0, hz0, hz1, hz2⟩ := u_info
      go_loopw [33] (fun vi wr => ∃ (k2 : Nat) (op : List Nat), k2 ≤ k ∧ vi = .int .i64 (k2 : Int) ∧ Hid (KrS w w.heap.size w.heap.size bG bL bM bQ b (fun _ => False) B k cB w.heap.size g ⟨fun x => ((g.countP fun a => a.2 == x : Nat) : Int), (k : Int), op⟩ wr) ∧ Hid (OpR g (fun x => g.countP fun a => a.2 == x) k2 op) ∧ Hid (op.length ≤ k2)) (fun i _ => k - (intOf i).toNat)
      case atStart => exact ⟨0, [], Nat.zero_le _, rfl, HK0, Lib.hid (OpR.zero _ _), Lib.hid (Nat.le_refl _)⟩
      clear HK0
      obtain ⟨k2, op, hk2, rfl, HS, HOP, HOL⟩ := hrel
      by_cases hlt2 : k2 < k
      · obtain ⟨gb, go, hl, rfl, hb, hc⟩ := (Lz.of_own (X := fun _ => False) HS.out.gr (fun _ h => h.elim)).ar hlt2
        have hprev : ∀ j, j + 1 = k2 → ∃ hj : j < g.length, wr.cell? ⟨gb, go + j * 2, none⟩ = some (.int .u64 (g[j].1 : Int)) := fun j hj => by
          obtain ⟨gb', go', hl', e, hb', hc'⟩ := (Lz.of_own (X := fun _ => False) HS.out.gr (fun _ h => h.elim)).ar (k := j) (by omega)
          injection e with e
          injection e with e1 e2
          subst e1 e2
          exact ⟨hl', hc' 0 _ rfl⟩
        obtain ⟨y, hy⟩ : ∃ y, g[k2] = y := ⟨_, rfl⟩
        rw [hy] at hc
        obtain ⟨y1, y2⟩ := y
        have hU1 : U64 y1 := by
          have := (HUG.out g[k2] (List.getElem_mem hl)).1
          rw [hy] at this
          exact this
        have HY : Hid (g[k2].1 = y1) := by show _ = _; rw [hy]
        have R1 : Hid (wr.rangeAt gb (go + k2 * 2) (arV (y1, y2))) := hc
        have A5 := Lib.hid (At.new wr 40 (arA (y1, y2)))
        have HPREV : Hid (∀ j, j + 1 = k2 → ∃ hj : j < g.length, (wr.alloc (.cells (arA (y1, y2)) 40)).cell? ⟨gb, go + j * 2, none⟩ = some (.int .u64 (g[j].1 : Int))) := fun j hj => by
          obtain ⟨h1, h2⟩ := hprev j hj
          exact ⟨h1, (World.cell?_of_block (Below.heap_alloc wr _ gb hb)).trans h2⟩
        have HS5 := Lib.hid (HS.out.below ((Below.refl wr.heap.size wr).alloc (Nat.le_refl _) (.cells (arA (y1, y2)) 40)) (Nat.le_refl _))
        have HU1 := Lib.hid hU1
        have HGB := Lib.hid hb
        clear hc hy hU1 HS hprev hb
        go_upto_region 14 with (first
          | refine wpList_load_in 40 37 (.tmp 36) rfl rfl rfl gb (go + k2 * 2) rfl (arV (y1, y2)) 2 strA rfl R1.out ?_
          | refine wpList_store_new 40 (.tmp 11) (.tmp 37) rfl rfl rfl _ wr rfl rfl (arA (y1, y2)) #[.int .u64 0, .int .u64 0] 2 rfl strA rfl rfl (arA_one _) rfl ?_)
        clear R1
        have HGB5 : Hid (gb < (wr.alloc (.cells (arA (y1, y2)) 40)).heap.size) := by show _ < _; have := HGB.out; simp; omega
        generalize wr.alloc (.cells (arA (y1, y2)) 40) = w5 at A5 HS5 HPREV HGB5 ⊢
        generalize wr.heap.size = b5 at A5 ⊢
        have HSD := Lib.hid (HS5.out.below ((Below.refl w5.heap.size w5).drew) (Nat.le_refl _))
        obtain ⟨v, hv⟩ : ∃ v, (g.countP fun a => a.2 == y1) = v := ⟨_, rfl⟩
        have HLK : Hid (∀ wz, Below w5.heap.size w5 wz → (Instr.lookup 41 (.map (some b)) (.int .u64 (y1 : Int)) false).run Try.prog wz = .ok (.int .i64 (v : Int)) wz) := fun wz hz => by
          obtain ⟨f, m1, m2⟩ := (HS5.out.below hz (Nat.le_refl _)).mp
          have h9 := m1.look keyT_u64 Try.underlying41 (Try.zeroValue3 wz) false HU1.out
          rw [m2 y1] at h9
          dsimp only at h9
          rw [hv] at h9
          exact h9
        have HV := Lib.hid hv
        clear hv
        by_cases h0 : v = 0
        · have e1 : ((v : Int) == 0) = true := by simp; omega
          have HV0 : Hid ((g.countP fun a => a.2 == g[k2].1) = 0) := by show _ = _; rw [HY.out, HV.out]; exact h0
          clear h0
          cases k2 with
          | zero =>
            clear HPREV
            refine wp_region_held_drew (S := Below w5.heap.size w5) (by kernel_rfl) ((Below.refl _ w5).drew) (fun hS => ?_)
            refine tk 0 hS ?_ (hy := by intro wz hz; have hk := HS5.out.below hz (Nat.le_refl _); have q0 : wz.cell? ⟨bM, 0, none⟩ = some (.map (some b)) := hk.bm.cell 0; have q1 : wz.cell? ⟨b5, 0, none⟩ = some (.int .u64 (y1 : Int)) := (A5.out.under hz A5.out.lt).cell 0; have q2 : wz.cell? ⟨bG, 0, none⟩ = some (.slice (some ⟨gb, go, none⟩) k cB) := hk.bg.cell 0; have q4 := HLK.out wz hz; go_simp <;> with_reducible rfl)
            refine tk 1 hS ?_
            refine tk 2 hS ?_ (hy := by intro wz hz; have hk := HS5.out.below hz (Nat.le_refl _); have q0 : wz.cell? ⟨bM, 0, none⟩ = some (.map (some b)) := hk.bm.cell 0; have q1 : wz.cell? ⟨b5, 0, none⟩ = some (.int .u64 (y1 : Int)) := (A5.out.under hz A5.out.lt).cell 0; have q2 : wz.cell? ⟨bG, 0, none⟩ = some (.slice (some ⟨gb, go, none⟩) k cB) := hk.bg.cell 0; have q4 := HLK.out wz hz; go_simp <;> with_reducible rfl)
            refine tk 3 hS ?_ (hy := by intro wz hz; have hk := HS5.out.below hz (Nat.le_refl _); have q0 : wz.cell? ⟨bM, 0, none⟩ = some (.map (some b)) := hk.bm.cell 0; have q1 : wz.cell? ⟨b5, 0, none⟩ = some (.int .u64 (y1 : Int)) := (A5.out.under hz A5.out.lt).cell 0; have q2 : wz.cell? ⟨bG, 0, none⟩ = some (.slice (some ⟨gb, go, none⟩) k cB) := hk.bg.cell 0; have q4 := HLK.out wz hz; go_simp <;> with_reducible rfl)
            refine tk 4 hS ?_
            refine tk 5 hS ?_
            refine tk 6 hS ?_
            refine tk 7 hS ?_
            refine tk 8 hS ?_
            refine sk 9 hS ?_
            refine sk 10 hS ?_
            refine sk 11 hS ?_
            refine sk 12 hS ?_
            refine sk 13 hS ?_
            refine sk 14 hS ?_
            refine sk 15 hS ?_
            refine sk 16 hS ?_
            refine sk 17 hS ?_
            refine tk 18 hS ?_
            refine tk 19 hS ?_
            refine wpAnyH_done (by kernel_rfl) ?_ _
            clear hS
            have p1w : w5.drew.cell? ⟨b5, 0, none⟩ = some (.int .u64 (y1 : Int)) := A5.out.cell 0
            generalize w5.drew = wd at HSD p1w ⊢
            obtain ⟨A2, nq, cq2, hbq2, hql2, hrow2, hzr2⟩ := HSD.out.ex
            dsimp only at hql2 hrow2
            have cQ2 : wd.cell? ⟨bQ, 0, none⟩ = some (.slice A2 nq cq2) := hbq2.cell 0
            have OWN : Hid ((wd.alloc (.cells #[.int .u64 (y1 : Int)] 23)).ownsRow w.heap.size 23 1 (.slice A2 nq cq2) nq (UC op)) := own_under hrow2 ((Below.refl _ wd).alloc (Nat.le_refl _) _) (Nat.le_refl _)
            have hqn : nq ≤ 2000 := by have := HOL.out; omega
            have HBQ2 := Lib.hid hbq2
            have HQL2 := Lib.hid hql2
            have HRW2 := Lib.hid hrow2
            have HZR2 := Lib.hid hzr2
            have HLW := Lib.hid HSD.out.low.size
            clear hbq2 hql2 hrow2 hzr2
            go_wp2_with (at_builtin; refine wpList_app2 _ rfl (.tmp 58) (.tmp 61) 25 rfl w.heap.size 23 i0 (.int .u64 0) 1 8 Try.underlying25 hi0 hz0 hz1 hz2 rfl (by omega) (.slice A2 nq cq2) nq (UC op) rfl OWN.out (wd.heap.size + 1) (some ⟨wd.heap.size, 0, none⟩) 1 1 [.int .u64 (y1 : Int)] rfl (lies_new wd _ _) (fun u hu => by simp at hu; rw [hu]; rfl) (by omega) (by simp only [maxLen]; omega) (by omega) (by have := HLW.out; simp; omega) ?_; intro v5 w6 ho5 hg5 hb5
                         obtain ⟨A6, c6, rfl, _⟩ := own_slice ho5
                         have HP := Lib.hid (HSD.out.push HBQ2.out HQL2.out HRW2.out HZR2.out ho5 hg5 hb5 (Nat.le_refl _) (Nat.le_refl _) HBQ.out (fun k hk => hk.elim))
                         have HQ5 : Hid (At w6 bQ 25 #[.slice A2 nq cq2]) := (HBQ2.out.alloc _).grown hg5 (own_ne OWN.out (HBQ2.out.alloc _) (by decide))
                         have fq5 : w6.frozen? ⟨bQ, 0, none⟩ = false := HQ5.out.frozen 0
                         have cq5 : w6.cell? ⟨bQ, 0, none⟩ = some (.slice A2 nq cq2) := HQ5.out.cell 0
                         clear ho5 hg5 hb5)
            exact ⟨⟨0 + 1, op ++ [y1], by omega, by go_num, Lib.hid HP.out.1, Lib.hid (by have h9 := HOP.out.add HGS.out.up hl HV0.out (.inl rfl); rw [HY.out] at h9; exact h9), Lib.hid (by have := HOL.out; show _ ≤ _; rw [List.length_append, List.length_singleton]; omega)⟩, by simp [intOf]; omega⟩
          | succ j =>
            obtain ⟨hj, hpc⟩ := HPREV.out j rfl
            obtain ⟨x1, hx1⟩ : ∃ x1, g[j].1 = x1 := ⟨_, rfl⟩
            have HPC : Hid (w5.cell? ⟨gb, go + j * 2, none⟩ = some (.int .u64 (x1 : Int))) := by show _ = _; rw [← hx1]; exact hpc
            have HX1 : Hid (g[j].1 = x1) := hx1
            have e2 : ((j : Int) + 1 == 0) = false := by simp; omega
            have hj0 : (0 : Int) ≤ (j : Int) := by omega
            have hjk : (j : Int) < (k : Int) := by omega
            have hwj : IntKind.i64.wrap (j : Int) = (j : Int) := by rw [IntKind.wrap_i64]; omega
            clear hpc hx1 HPREV
            by_cases h3 : x1 = y1
            · have e3 : ((x1 : Int) == (y1 : Int)) = true := by rw [nat_beq, h3, beq_self_eq_true]
              have e4 : ((x1 : Int) != (y1 : Int)) = false := by rw [bne, e3]; rfl
              have H3 : Hid (g[j + 1 - 1].1 = g[j + 1].1) := by show g[j].1 = _; rw [HX1.out, HY.out]; exact h3
              clear h3
              refine wp_region_held_drew (S := Below w5.heap.size w5) (by kernel_rfl) ((Below.refl _ w5).drew) (fun hS => ?_)
              refine tk 0 hS ?_ (hy := by intro wz hz; have hk := HS5.out.below hz (Nat.le_refl _); have q0 : wz.cell? ⟨bM, 0, none⟩ = some (.map (some b)) := hk.bm.cell 0; have q1 : wz.cell? ⟨b5, 0, none⟩ = some (.int .u64 (y1 : Int)) := (A5.out.under hz A5.out.lt).cell 0; have q2 : wz.cell? ⟨bG, 0, none⟩ = some (.slice (some ⟨gb, go, none⟩) k cB) := hk.bg.cell 0; have q4 := HLK.out wz hz; have q3 : wz.cell? ⟨gb, go + j * 2, none⟩ = some (.int .u64 (x1 : Int)) := (hz.cell (p := ⟨gb, go + j * 2, none⟩) HGB5.out).trans HPC.out; go_simp <;> with_reducible rfl)
              refine tk 1 hS ?_
              refine tk 2 hS ?_ (hy := by intro wz hz; have hk := HS5.out.below hz (Nat.le_refl _); have q0 : wz.cell? ⟨bM, 0, none⟩ = some (.map (some b)) := hk.bm.cell 0; have q1 : wz.cell? ⟨b5, 0, none⟩ = some (.int .u64 (y1 : Int)) := (A5.out.under hz A5.out.lt).cell 0; have q2 : wz.cell? ⟨bG, 0, none⟩ = some (.slice (some ⟨gb, go, none⟩) k cB) := hk.bg.cell 0; have q4 := HLK.out wz hz; have q3 : wz.cell? ⟨gb, go + j * 2, none⟩ = some (.int .u64 (x1 : Int)) := (hz.cell (p := ⟨gb, go + j * 2, none⟩) HGB5.out).trans HPC.out; go_simp <;> with_reducible rfl)
              refine tk 3 hS ?_ (hy := by intro wz hz; have hk := HS5.out.below hz (Nat.le_refl _); have q0 : wz.cell? ⟨bM, 0, none⟩ = some (.map (some b)) := hk.bm.cell 0; have q1 : wz.cell? ⟨b5, 0, none⟩ = some (.int .u64 (y1 : Int)) := (A5.out.under hz A5.out.lt).cell 0; have q2 : wz.cell? ⟨bG, 0, none⟩ = some (.slice (some ⟨gb, go, none⟩) k cB) := hk.bg.cell 0; have q4 := HLK.out wz hz; have q3 : wz.cell? ⟨gb, go + j * 2, none⟩ = some (.int .u64 (x1 : Int)) := (hz.cell (p := ⟨gb, go + j * 2, none⟩) HGB5.out).trans HPC.out; go_simp <;> with_reducible rfl)
              refine tk 4 hS ?_
              refine tk 5 hS ?_
              refine tk 6 hS ?_
              refine tk 7 hS ?_
              refine tk 8 hS ?_
              refine tk 9 hS ?_ (hy := by intro wz hz; have hk := HS5.out.below hz (Nat.le_refl _); have q0 : wz.cell? ⟨bM, 0, none⟩ = some (.map (some b)) := hk.bm.cell 0; have q1 : wz.cell? ⟨b5, 0, none⟩ = some (.int .u64 (y1 : Int)) := (A5.out.under hz A5.out.lt).cell 0; have q2 : wz.cell? ⟨bG, 0, none⟩ = some (.slice (some ⟨gb, go, none⟩) k cB) := hk.bg.cell 0; have q4 := HLK.out wz hz; have q3 : wz.cell? ⟨gb, go + j * 2, none⟩ = some (.int .u64 (x1 : Int)) := (hz.cell (p := ⟨gb, go + j * 2, none⟩) HGB5.out).trans HPC.out; go_simp <;> with_reducible rfl)
              refine tk 10 hS ?_
              refine tk 11 hS ?_
              refine tk 12 hS ?_
              refine tk 13 hS ?_
              refine tk 14 hS ?_ (hy := by intro wz hz; have hk := HS5.out.below hz (Nat.le_refl _); have q0 : wz.cell? ⟨bM, 0, none⟩ = some (.map (some b)) := hk.bm.cell 0; have q1 : wz.cell? ⟨b5, 0, none⟩ = some (.int .u64 (y1 : Int)) := (A5.out.under hz A5.out.lt).cell 0; have q2 : wz.cell? ⟨bG, 0, none⟩ = some (.slice (some ⟨gb, go, none⟩) k cB) := hk.bg.cell 0; have q4 := HLK.out wz hz; have q3 : wz.cell? ⟨gb, go + j * 2, none⟩ = some (.int .u64 (x1 : Int)) := (hz.cell (p := ⟨gb, go + j * 2, none⟩) HGB5.out).trans HPC.out; go_simp <;> with_reducible rfl)
              refine tk 15 hS ?_
              refine tk 16 hS ?_ (hy := by intro wz hz; have hk := HS5.out.below hz (Nat.le_refl _); have q0 : wz.cell? ⟨bM, 0, none⟩ = some (.map (some b)) := hk.bm.cell 0; have q1 : wz.cell? ⟨b5, 0, none⟩ = some (.int .u64 (y1 : Int)) := (A5.out.under hz A5.out.lt).cell 0; have q2 : wz.cell? ⟨bG, 0, none⟩ = some (.slice (some ⟨gb, go, none⟩) k cB) := hk.bg.cell 0; have q4 := HLK.out wz hz; have q3 : wz.cell? ⟨gb, go + j * 2, none⟩ = some (.int .u64 (x1 : Int)) := (hz.cell (p := ⟨gb, go + j * 2, none⟩) HGB5.out).trans HPC.out; go_simp <;> with_reducible rfl)
              refine tk 17 hS ?_
              refine tk 18 hS ?_
              refine tk 19 hS ?_
              refine wpAnyH_done (by kernel_rfl) ?_ _
              clear hS
              have p1w : w5.drew.cell? ⟨b5, 0, none⟩ = some (.int .u64 (y1 : Int)) := A5.out.cell 0
              generalize w5.drew = wd at HSD p1w ⊢
              go_wp2_with fail
              exact ⟨⟨j + 1 + 1, op, by omega, by go_num, HSD, Lib.hid (HOP.out.skip hl (.inr ⟨Nat.succ_pos j, H3.out⟩)), Lib.hid (by have := HOL.out; show _ ≤ _; omega)⟩, by simp [intOf]; omega⟩
            · have e3 : ((x1 : Int) == (y1 : Int)) = false := by rw [nat_beq]; simpa using h3
              have e4 : ((x1 : Int) != (y1 : Int)) = true := by rw [bne, e3]; rfl
              have H3 : Hid (g[j + 1 - 1].1 ≠ g[j + 1].1) := by show g[j].1 ≠ _; rw [HX1.out, HY.out]; exact h3
              clear h3
              refine wp_region_held_drew (S := Below w5.heap.size w5) (by kernel_rfl) ((Below.refl _ w5).drew) (fun hS => ?_)
              refine tk 0 hS ?_ (hy := by intro wz hz; have hk := HS5.out.below hz (Nat.le_refl _); have q0 : wz.cell? ⟨bM, 0, none⟩ = some (.map (some b)) := hk.bm.cell 0; have q1 : wz.cell? ⟨b5, 0, none⟩ = some (.int .u64 (y1 : Int)) := (A5.out.under hz A5.out.lt).cell 0; have q2 : wz.cell? ⟨bG, 0, none⟩ = some (.slice (some ⟨gb, go, none⟩) k cB) := hk.bg.cell 0; have q4 := HLK.out wz hz; have q3 : wz.cell? ⟨gb, go + j * 2, none⟩ = some (.int .u64 (x1 : Int)) := (hz.cell (p := ⟨gb, go + j * 2, none⟩) HGB5.out).trans HPC.out; go_simp <;> with_reducible rfl)
              refine tk 1 hS ?_
              refine tk 2 hS ?_ (hy := by intro wz hz; have hk := HS5.out.below hz (Nat.le_refl _); have q0 : wz.cell? ⟨bM, 0, none⟩ = some (.map (some b)) := hk.bm.cell 0; have q1 : wz.cell? ⟨b5, 0, none⟩ = some (.int .u64 (y1 : Int)) := (A5.out.under hz A5.out.lt).cell 0; have q2 : wz.cell? ⟨bG, 0, none⟩ = some (.slice (some ⟨gb, go, none⟩) k cB) := hk.bg.cell 0; have q4 := HLK.out wz hz; have q3 : wz.cell? ⟨gb, go + j * 2, none⟩ = some (.int .u64 (x1 : Int)) := (hz.cell (p := ⟨gb, go + j * 2, none⟩) HGB5.out).trans HPC.out; go_simp <;> with_reducible rfl)
              refine tk 3 hS ?_ (hy := by intro wz hz; have hk := HS5.out.below hz (Nat.le_refl _); have q0 : wz.cell? ⟨bM, 0, none⟩ = some (.map (some b)) := hk.bm.cell 0; have q1 : wz.cell? ⟨b5, 0, none⟩ = some (.int .u64 (y1 : Int)) := (A5.out.under hz A5.out.lt).cell 0; have q2 : wz.cell? ⟨bG, 0, none⟩ = some (.slice (some ⟨gb, go, none⟩) k cB) := hk.bg.cell 0; have q4 := HLK.out wz hz; have q3 : wz.cell? ⟨gb, go + j * 2, none⟩ = some (.int .u64 (x1 : Int)) := (hz.cell (p := ⟨gb, go + j * 2, none⟩) HGB5.out).trans HPC.out; go_simp <;> with_reducible rfl)
              refine tk 4 hS ?_
              refine tk 5 hS ?_
              refine tk 6 hS ?_
              refine tk 7 hS ?_
              refine tk 8 hS ?_
              refine tk 9 hS ?_ (hy := by intro wz hz; have hk := HS5.out.below hz (Nat.le_refl _); have q0 : wz.cell? ⟨bM, 0, none⟩ = some (.map (some b)) := hk.bm.cell 0; have q1 : wz.cell? ⟨b5, 0, none⟩ = some (.int .u64 (y1 : Int)) := (A5.out.under hz A5.out.lt).cell 0; have q2 : wz.cell? ⟨bG, 0, none⟩ = some (.slice (some ⟨gb, go, none⟩) k cB) := hk.bg.cell 0; have q4 := HLK.out wz hz; have q3 : wz.cell? ⟨gb, go + j * 2, none⟩ = some (.int .u64 (x1 : Int)) := (hz.cell (p := ⟨gb, go + j * 2, none⟩) HGB5.out).trans HPC.out; go_simp <;> with_reducible rfl)
              refine tk 10 hS ?_
              refine tk 11 hS ?_
              refine tk 12 hS ?_
              refine tk 13 hS ?_
              refine tk 14 hS ?_ (hy := by intro wz hz; have hk := HS5.out.below hz (Nat.le_refl _); have q0 : wz.cell? ⟨bM, 0, none⟩ = some (.map (some b)) := hk.bm.cell 0; have q1 : wz.cell? ⟨b5, 0, none⟩ = some (.int .u64 (y1 : Int)) := (A5.out.under hz A5.out.lt).cell 0; have q2 : wz.cell? ⟨bG, 0, none⟩ = some (.slice (some ⟨gb, go, none⟩) k cB) := hk.bg.cell 0; have q4 := HLK.out wz hz; have q3 : wz.cell? ⟨gb, go + j * 2, none⟩ = some (.int .u64 (x1 : Int)) := (hz.cell (p := ⟨gb, go + j * 2, none⟩) HGB5.out).trans HPC.out; go_simp <;> with_reducible rfl)
              refine tk 15 hS ?_
              refine tk 16 hS ?_ (hy := by intro wz hz; have hk := HS5.out.below hz (Nat.le_refl _); have q0 : wz.cell? ⟨bM, 0, none⟩ = some (.map (some b)) := hk.bm.cell 0; have q1 : wz.cell? ⟨b5, 0, none⟩ = some (.int .u64 (y1 : Int)) := (A5.out.under hz A5.out.lt).cell 0; have q2 : wz.cell? ⟨bG, 0, none⟩ = some (.slice (some ⟨gb, go, none⟩) k cB) := hk.bg.cell 0; have q4 := HLK.out wz hz; have q3 : wz.cell? ⟨gb, go + j * 2, none⟩ = some (.int .u64 (x1 : Int)) := (hz.cell (p := ⟨gb, go + j * 2, none⟩) HGB5.out).trans HPC.out; go_simp <;> with_reducible rfl)
              refine tk 17 hS ?_
              refine tk 18 hS ?_
              refine tk 19 hS ?_
              refine wpAnyH_done (by kernel_rfl) ?_ _
              clear hS
              have p1w : w5.drew.cell? ⟨b5, 0, none⟩ = some (.int .u64 (y1 : Int)) := A5.out.cell 0
              generalize w5.drew = wd at HSD p1w ⊢
              obtain ⟨A2, nq, cq2, hbq2, hql2, hrow2, hzr2⟩ := HSD.out.ex
              dsimp only at hql2 hrow2
              have cQ2 : wd.cell? ⟨bQ, 0, none⟩ = some (.slice A2 nq cq2) := hbq2.cell 0
              have OWN : Hid ((wd.alloc (.cells #[.int .u64 (y1 : Int)] 23)).ownsRow w.heap.size 23 1 (.slice A2 nq cq2) nq (UC op)) := own_under hrow2 ((Below.refl _ wd).alloc (Nat.le_refl _) _) (Nat.le_refl _)
              have hqn : nq ≤ 2000 := by have := HOL.out; omega
              have HBQ2 := Lib.hid hbq2
              have HQL2 := Lib.hid hql2
              have HRW2 := Lib.hid hrow2
              have HZR2 := Lib.hid hzr2
              have HLW := Lib.hid HSD.out.low.size
              clear hbq2 hql2 hrow2 hzr2
              go_wp2_with (at_builtin; refine wpList_app2 _ rfl (.tmp 58) (.tmp 61) 25 rfl w.heap.size 23 i0 (.int .u64 0) 1 8 Try.underlying25 hi0 hz0 hz1 hz2 rfl (by omega) (.slice A2 nq cq2) nq (UC op) rfl OWN.out (wd.heap.size + 1) (some ⟨wd.heap.size, 0, none⟩) 1 1 [.int .u64 (y1 : Int)] rfl (lies_new wd _ _) (fun u hu => by simp at hu; rw [hu]; rfl) (by omega) (by simp only [maxLen]; omega) (by omega) (by have := HLW.out; simp; omega) ?_; intro v5 w6 ho5 hg5 hb5
                           obtain ⟨A6, c6, rfl, _⟩ := own_slice ho5
                           have HP := Lib.hid (HSD.out.push HBQ2.out HQL2.out HRW2.out HZR2.out ho5 hg5 hb5 (Nat.le_refl _) (Nat.le_refl _) HBQ.out (fun k hk => hk.elim))
                           have HQ5 : Hid (At w6 bQ 25 #[.slice A2 nq cq2]) := (HBQ2.out.alloc _).grown hg5 (own_ne OWN.out (HBQ2.out.alloc _) (by decide))
                           have fq5 : w6.frozen? ⟨bQ, 0, none⟩ = false := HQ5.out.frozen 0
                           have cq5 : w6.cell? ⟨bQ, 0, none⟩ = some (.slice A2 nq cq2) := HQ5.out.cell 0
                           clear ho5 hg5 hb5)
              exact ⟨⟨j + 1 + 1, op ++ [y1], by omega, by go_num, Lib.hid HP.out.1, Lib.hid (by have h9 := HOP.out.add HGS.out.up hl HV0.out (.inr H3.out); rw [HY.out] at h9; exact h9), Lib.hid (by have := HOL.out; show _ ≤ _; rw [List.length_append, List.length_singleton]; omega)⟩, by simp [intOf]; omega⟩
        · have e1 : ((v : Int) == 0) = false := by simp; omega
          have HV0 : Hid ((g.countP fun a => a.2 == g[k2].1) ≠ 0) := by show _ ≠ _; rw [HY.out, HV.out]; exact h0
          clear h0 HPREV
          refine wp_region_held_drew (S := Below w5.heap.size w5) (by kernel_rfl) ((Below.refl _ w5).drew) (fun hS => ?_)
          refine tk 0 hS ?_ (hy := by intro wz hz; have hk := HS5.out.below hz (Nat.le_refl _); have q0 : wz.cell? ⟨bM, 0, none⟩ = some (.map (some b)) := hk.bm.cell 0; have q1 : wz.cell? ⟨b5, 0, none⟩ = some (.int .u64 (y1 : Int)) := (A5.out.under hz A5.out.lt).cell 0; have q2 : wz.cell? ⟨bG, 0, none⟩ = some (.slice (some ⟨gb, go, none⟩) k cB) := hk.bg.cell 0; have q4 := HLK.out wz hz; go_simp <;> with_reducible rfl)
          refine tk 1 hS ?_
          refine tk 2 hS ?_ (hy := by intro wz hz; have hk := HS5.out.below hz (Nat.le_refl _); have q0 : wz.cell? ⟨bM, 0, none⟩ = some (.map (some b)) := hk.bm.cell 0; have q1 : wz.cell? ⟨b5, 0, none⟩ = some (.int .u64 (y1 : Int)) := (A5.out.under hz A5.out.lt).cell 0; have q2 : wz.cell? ⟨bG, 0, none⟩ = some (.slice (some ⟨gb, go, none⟩) k cB) := hk.bg.cell 0; have q4 := HLK.out wz hz; go_simp <;> with_reducible rfl)
          refine tk 3 hS ?_ (hy := by intro wz hz; have hk := HS5.out.below hz (Nat.le_refl _); have q0 : wz.cell? ⟨bM, 0, none⟩ = some (.map (some b)) := hk.bm.cell 0; have q1 : wz.cell? ⟨b5, 0, none⟩ = some (.int .u64 (y1 : Int)) := (A5.out.under hz A5.out.lt).cell 0; have q2 : wz.cell? ⟨bG, 0, none⟩ = some (.slice (some ⟨gb, go, none⟩) k cB) := hk.bg.cell 0; have q4 := HLK.out wz hz; go_simp <;> with_reducible rfl)
          refine tk 4 hS ?_
          refine tk 5 hS ?_
          refine sk 6 hS ?_
          refine sk 7 hS ?_
          refine sk 8 hS ?_
          refine sk 9 hS ?_
          refine sk 10 hS ?_
          refine sk 11 hS ?_
          refine sk 12 hS ?_
          refine sk 13 hS ?_
          refine sk 14 hS ?_
          refine sk 15 hS ?_
          refine sk 16 hS ?_
          refine sk 17 hS ?_
          refine sk 18 hS ?_
          refine tk 19 hS ?_
          refine wpAnyH_done (by kernel_rfl) ?_ _
          clear hS
          have p1w : w5.drew.cell? ⟨b5, 0, none⟩ = some (.int .u64 (y1 : Int)) := A5.out.cell 0
          generalize w5.drew = wd at HSD p1w ⊢
          go_wp2_with fail
          exact ⟨⟨k2 + 1, op, by omega, by go_num, HSD, Lib.hid (HOP.out.skip hl (.inl HV0.out)), Lib.hid (by have := HOL.out; show _ ≤ _; omega)⟩, by simp [intOf]; omega⟩
      · obtain rfl : k2 = k := by omega
        have HKI : Hid (KI g 0 ⟨fun x => g.countP fun a => a.2 == x, g.length, op⟩) := KI.start (fun _ => rfl) (by have := HOP.out; rw [← HLN.out] at this; exact this)
        have HE : Hid (∀ x ∈ op, x ∈ ends g) := fun x hx => by
          obtain ⟨_, j, hj, _, e⟩ := (HOP.out.mem x).1 hx
          exact List.mem_append_left _ (List.mem_map.2 ⟨_, List.getElem_mem hj, e⟩)
        have HK3 : Hid (KrS w w.heap.size w.heap.size bG bL bM bQ b (fun _ => False) B k2 cB w.heap.size g (KS.z ⟨fun x => g.countP fun a => a.2 == x, g.length, op⟩) wr) := by
          have := HS.out
          show KrS _ _ _ _ _ _ _ _ _ _ _ _ _ _ ⟨_, (g.length : Int), op⟩ _
          rw [HLN.out]
          exact this
        clear HS HOP HOL
        go_wp2_with fail
        go_loopw [12] (fun vi wr => ∃ (i : Nat) (s : KS), i ≤ 2 * k2 ∧ vi = .int .i64 (i : Int) ∧ Hid (KrS w w.heap.size w.heap.size bG bL bM bQ b (fun _ => False) B k2 cB w.heap.size g s.z wr) ∧ Hid (KI g i s) ∧ Hid (∀ x ∈ s.op, x ∈ ends g)) (fun i _ => 2 * k2 + 1 - (intOf i).toNat)
        case atStart => exact ⟨0, _, Nat.zero_le _, rfl, HK3, HKI, HE⟩
        case round =>
          clear HK3 HKI HE
          obtain ⟨i, s, hi2, rfl, HS, HI, HE⟩ := hrel
          obtain ⟨A2, nq, cq2, hbq2, hql2, hrow2, hzr2⟩ := HS.out.ex
          have hql3 : s.op.length = nq := hql2
          have hol : s.op.length ≤ 2 * k2 := by
            have h1 := nodup_len HI.out.nd HE.out
            rw [ends_len, HLN.out] at h1
            exact h1
          have cQ2 : wr.cell? ⟨bQ, 0, none⟩ = some (.slice A2 nq cq2) := hbq2.cell 0
          have HRW2 := Lib.hid hrow2
          by_cases hlt3 : i < nq
          · obtain ⟨xb, xo, hkl, rfl, hb, hc⟩ := (Lz.of_own (X := fun _ => False) hrow2 (fun _ h => h.elim)).uc hlt3
            have hkl2 : i < s.op.length := hkl
            obtain ⟨y, hy⟩ : ∃ y, s.op[i] = y := ⟨_, rfl⟩
            rw [show s.z.op[i] = y from hy] at hc
            have hfit := HI.out.fit hkl2
            have hstep := HI.out.step hkl2 rfl
            rw [hy] at hfit hstep
            have hrz := remZ_is (sucI g y) s hfit.1 hfit.2
            have HRZ := Lib.hid hrz
            have HST := Lib.hid hstep
            have HEN : Hid (∀ x ∈ (remI (sucI g y) s).op, x ∈ ends g) := fun x hx => by
              rcases remI_op _ _ _ hx with h1 | h1
              · exact HE.out x h1
              · exact List.mem_append_right _ (List.mem_map.2 ⟨_, mem_suc.1 h1, rfl⟩)
            have HRM := Lib.hid (remove_any w w.heap.size w.heap.size bG bL bM bQ b B k2 cB w.heap.size g y s.z wr hn HGS.out.up (fun a ha => (HUG.out a ha).2) HS.out (by show s.op.length ≤ _; omega)
              (fun v => ⟨Int.natCast_nonneg _, by
                have h1 := HI.out.cnt v
                have h2 := List.countP_le_length (p := fun a : Ar => a.2 == v) (l := g.filter fun a => decide (a.1 ∉ s.op.take i))
                have h3 := List.length_filter_le (fun a : Ar => decide (a.1 ∉ s.op.take i)) g
                have h4 := HLN.out
                show (s.into v : Int) ≤ _
                omega⟩)
              ⟨Int.natCast_nonneg _, by
                have h1 := HI.out.left
                have h3 := List.length_filter_le (fun a : Ar => decide (a.1 ∉ s.op.take i)) g
                have h4 := HLN.out
                show (s.left : Int) ≤ _
                omega⟩ (Nat.le_refl _) ⟨HB.out.1, HBL.out, HBQ.out, Nat.le_refl _⟩ HS.out.low.size)
            clear hbq2 hql2 hrow2 hzr2 hy hfit hstep hrz hkl HS HI HE
            go_wp2_with fail
            refine HRM.out.mono ?_
            rintro e z2 ⟨rfl, hz⟩
            rw [HRZ.out] at hz
            have HZ := Lib.hid hz
            clear hz HRM
            go_wp2_with fail
            exact ⟨⟨i + 1, _, by omega, by go_num, HZ, HST, HEN⟩, by simp [intOf]; omega⟩
          · have HFR := Lib.hid (HI.out.free (by omega))
            have cL : wr.cell? ⟨bL, 0, none⟩ = some (.int .i64 (s.left : Int)) := HS.out.bl.cell 0
            have HNW := Lib.hid (noWay_congr (mem_perm HGS.out.perm))
            obtain ⟨r, hr⟩ : ∃ r, ((s.left : Int) == 0) = r := ⟨_, rfl⟩
            clear hbq2 hql2 hrow2 hzr2
            go_wp2_with fail
            go_ret
            refine ⟨r, rfl, ?_, HS.out.low⟩
            rw [← HNW.out, ← HFR.out, ← hr]
            simp
end Go.Proofs.Ytnkphpjnhjbokaa
