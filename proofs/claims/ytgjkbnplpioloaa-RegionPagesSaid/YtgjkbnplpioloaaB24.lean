/-
  Get.
  Conditions: what the given function answers is told by f, and it writes nothing that was there.
-/
import Derived.Test.YtgjkbnplpioloaaB23
namespace Go.Proofs.Ytgjkbnplpioloaa
open Go.RowKit
attribute [local go_sem] Oper.semAt_some
set_option maxRecDepth 20000

/-- What Get answers. -/
def RetGet (w : World) (f : Int → Pg × Bool) (bx : Bx) (first : Int) (e : Ending) (z : World) : Prop := Below w.heap.size w z ∧ ((∃ k, GetAt f first k ∧ ∃ AP cP AR cR, e = .returned (.tuple #[.agg (bkA bx (.slice AP (gPs f first k).length cP) (.slice AR (gRs f first k).length cR)), .bool true]) ∧
  z.ownsRow w.heap.size 3 1 (.slice AP (gPs f first k).length cP) (gPs f first k).length (ICs (gPs f first k)) ∧ z.ownsRow w.heap.size 50 4 (.slice AR (gRs f first k).length cR) (gRs f first k).length (rcsL (gRs f first k))) ∨
  ((¬ ∃ m, GetAt f first m) ∧ e = .returned (.tuple #[.agg zbk, .bool false])))
theorem equalIn_func (fn d : Nat) (lb : Array Value) (W : World) : (Op.equalIn (d + 1) 67 (.func (.func fn) #[] lb) .nilFunc).run Try.prog W = .ok false W := by
  simp [Op.equalIn, run_underlying Try.underlying67]
theorem eql_func (fn : Nat) (lb : Array Value) (W : World) : (binOp .eql 67 (.func (.func fn) #[] lb) .nilFunc).run Try.prog W = .ok (.bool false) W := by
  simp only [binOp]
  simp [Op.equal, Op.maxDepth, equalIn_func fn 9999 lb W]
theorem zbk_one : zbk.all (·.oneCell') = true := bkA_one _ _ _ _ _ _ _
def vlen : Value → Nat
  | .slice _ n _ => n
  | _ => 0
theorem vlen_own {w : World} {B n : Nat} {e : TypeId} {size : Nat} {v : Value} {xs : List Value} (h : w.ownsRow B e size v n xs) : vlen v = n := by
  obtain ⟨A, c, rfl, _, _⟩ := pl_own_slice h
  rfl
/-- The state of the chain behind k pages. -/
def GtS (w : World) (f : Int → Pg × Bool) (bx : Bx) (first : Int) (k : Nat) (v7 : Value) (y : World) : Prop := ∃ AP cP AR cR, G16 w (gIm f first k) v7 (gPs f first k) (.slice AP k cP) (gRs f first k) (.slice AR (gRs f first k).length cR) [] (.slice none 0 0) false (bkA bx (.slice AP k cP) (.slice AR (gRs f first k).length cR)) y
theorem putG_len (ps : List Int) (rs : List Rc) : (putG ps rs).length ≤ ps.length := by
  unfold putG
  split
  · simp [putI, putK]
  · simp
theorem gPs_length (f : Int → Pg × Bool) (first : Int) (k : Nat) : (gPs f first k).length = k := by simp [gPs]
theorem gIm_length (f : Int → Pg × Bool) (first : Int) (k : Nat) : (gIm f first k).length = k := by simp [gIm]
theorem GtS.mk2 {w y : World} {f : Int → Pg × Bool} {bx : Bx} {first nk : Int} {k : Nat} {p : Pg} {v8 : Value} {AP2 AR2 : Option Addr} {cP2 cR2 : Nat} {xr : List Rc} {X : Value} {lv : Bool} {B : Array Value} (hN : gN f first k = nk) (hp : (f (gN f first k)).1 = p)
    (h : G16 w (gIm f first k ++ [⟨nk, p⟩]) v8 (gPs f first k ++ [nk]) (.slice AP2 ((gPs f first k).length + 1) cP2) (gRs f first k ++ rdRecs p) (.slice AR2 ((gRs f first k).length + (rdRecs p).length) cR2) xr X lv B y)
    (hB : B = bkA bx (.slice AP2 ((gPs f first k).length + 1) cP2) (.slice AR2 ((gRs f first k).length + (rdRecs p).length) cR2) := by rfl) : GtS w f bx first (k + 1) v8 y := by
  subst hB
  have e1 : gIm f first (k + 1) = gIm f first k ++ [⟨nk, p⟩] := by rw [gIm_succ, hp, hN]
  have e2 : gPs f first (k + 1) = gPs f first k ++ [nk] := by rw [gPs_succ, hN]
  have e3 : gRs f first (k + 1) = gRs f first k ++ rdRecs p := by rw [gRs_succ, hp]
  have e5 : (gRs f first (k + 1)).length = (gRs f first k).length + (rdRecs p).length := by rw [e3, List.length_append]
  refine ⟨AP2, cP2, AR2, cR2, ?_⟩
  rw [e5, e1, e2, e3]
  rw [gPs_length] at h
  exact ⟨h.read, h.nums, h.recs, (fun e => by cases e), h.below, h.box4, h.box6⟩
set_option maxHeartbeats 12800000 in
theorem Get_any (fn : Nat) (lb : Array Value) (f : Int → Pg × Bool) (bx : Bx) (first : Int) (w : World) (eg : ∀ args w, (callFunc fn args).run Try.prog w = .ok (.enter fn args) w) (hf : AtF fn lb f w) :
    Calls Try.prog 27 #[.agg (bxA bx), .int .i64 first, .func (.func fn) #[] lb] w (RetGet w f bx first) := by
  have HF := Lib.hid hf
  clear hf
  have HX1 : Hid (At ((w.alloc (.cells (bxA bx) 23)).alloc (.cells zbk 44)) w.heap.size 23 (bxA bx)) := (At.new w 23 _).alloc _
  have HA4 : Hid (At ((w.alloc (.cells (bxA bx) 23)).alloc (.cells zbk 44)) (w.heap.size + 1) 44 zbk) := by
    have := At.new (w.alloc (.cells (bxA bx) 23)) 44 zbk
    rw [World.size_alloc] at this
    exact this
  have HB : Hid (Below w.heap.size w ((w.alloc (.cells (bxA bx) 23)).alloc (.cells zbk 44))) := ((Below.refl _ w).alloc (Nat.le_refl _) _).alloc (by simp) _
  have HS1 : Hid (((w.alloc (.cells (bxA bx) 23)).alloc (.cells zbk 44)).heap.size = w.heap.size + 2) := by show _ = _; rw [World.size_alloc, World.size_alloc]
  have hfn := eql_func fn lb
  have hzero := (zero_of_info pg_info).1
  go_enter Try.func27, Try.ntmps27
  go_upto_region 1 with fail
  have hz0 : (#[Value.int .i64 0, .int .i64 0, .int .i64 0, .int .i64 0, .slice none 0 0, .slice none 0 0] : Array Value) = zbk := rfl
  rw [hz0]
  clear hz0
  generalize ((w.alloc (.cells (bxA bx) 23)).alloc (.cells zbk 44)) = w1 at HX1 HA4 HB HS1 ⊢
  obtain ⟨pb, hpb⟩ : ∃ pb, pageB first = pb := ⟨_, rfl⟩
  have HPB := Lib.hid hpb
  clear hpb
  cases pb
  · have HNO : Hid (¬ ∃ m, GetAt f first m) := fun ⟨m, _, h, _⟩ => by rw [HPB.out] at h; cases h
    go_wp2_with (first | (refine wpList_store_at 44 (.tmp 6) (.tmp 22) rfl rfl rfl (w.heap.size + 1) rfl zbk zbk 6 rfl strBk rfl rfl zbk_one HA4.out ?_; intro w9 ha9 hg9; have A9 := Lib.hid ha9; have HB9 := Lib.hid (HB.out.grown hg9 HB.out.size (fun j e => by injection e with e; omega)); clear ha9 hg9) | (go_at_call 44; refine (isPage_any first w1).mono ?_; rintro e z ⟨rfl, rfl⟩; rw [HPB.out]))
    exact bodyPost_ret (results_at2 (g := w.heap.size + 1) rfl A9.out strBk rfl rfl rfl) rfl ⟨HB9.out, .inr ⟨HNO.out, rfl⟩⟩
  · go_upto_region 4 with (first
      | (go_at_call 44; refine (isPage_any first w1).mono ?_; rintro e z ⟨rfl, rfl⟩; rw [HPB.out])
      | (refine wpList_load_at 23 23 (.tmp 3) rfl rfl rfl w.heap.size rfl (bxA bx) 4 strX rfl HX1.out ?_)
      | (refine wpList_of_exec 24 (.agg (bkA bx (.slice none 0 0) (.slice none 0 0))) rfl rfl (exec_build_b0 (.tmp 23) rfl bx rfl) ?_)
      | (refine wpList_store_new 44 (.tmp 8) (.tmp 24) rfl rfl rfl z.heap.size z rfl rfl (bkA bx (.slice none 0 0) (.slice none 0 0)) _ 6 rfl strBk rfl rfl (bkA_one _ _ _ _ _ _ _) rfl ?_))
    have HA6 : Hid (At (z.alloc (.cells (bkA bx (.slice none 0 0) (.slice none 0 0)) 44)) (w.heap.size + 2) 44 (bkA bx (.slice none 0 0) (.slice none 0 0))) := by
      have := At.new z 44 (bkA bx (.slice none 0 0) (.slice none 0 0))
      rw [HS1.out] at this
      exact this
    have HP0 : Hid (GtS w f bx first 0 (.slice none 0 0) (z.alloc (.cells (bkA bx (.slice none 0 0) (.slice none 0 0)) 44))) := ⟨none, 0, none, 0, World.ownsRow_nil _ _ _ _, World.ownsRow_nil _ _ _ _, World.ownsRow_nil _ _ _ _, (fun e => by cases e), HB.out.alloc HB.out.size _, HA4.out.alloc _, HA6.out⟩
    rw [HS1.out]
    clear HA6 HX1
    generalize (z.alloc (.cells (bkA bx (.slice none 0 0) (.slice none 0 0)) 44)) = w2 at HP0 ⊢
    go_wp2_with fail
    go_loopw [9, 10] (fun v n wr => ∃ k : Nat, k ≤ 6 ∧ n = .int .i64 (gN f first k) ∧ Hid (fine f first k) ∧ Hid (GtS w f bx first k v wr)) (fun v _ _ => 6 - vlen v)
    case atStart => exact ⟨0, by omega, rfl, Lib.hid (fun j hj => absurd hj (Nat.not_lt_zero _)), HP0⟩
    case round =>
      obtain ⟨k, hk8, rfl, HFI, HG⟩ := hrel
      obtain ⟨AP, cP, AR, cR, hG⟩ := HG.out
      have hvl : vlen u9 = k := by rw [vlen_own hG.read, gIm_length]
      have hrl := gRs_len f first k
      obtain ⟨rn, hrn⟩ : ∃ rn, (gRs f first k).length = rn := ⟨_, rfl⟩
      have HRN := Lib.hid hrn
      have hr9 : rn ≤ 1530 := by omega
      obtain ⟨A7, c7, rfl, hc7, hm7⟩ := pl_own_slice hG.read
      rw [gIm_length] at hvl hG ⊢
      rw [hrn] at hG
      have HGG := Lib.hid hG
      clear hG hrl hrn
      obtain ⟨nk, hnk⟩ : ∃ nk, gN f first k = nk := ⟨_, rfl⟩
      rw [hnk]
      have HNK := Lib.hid hnk
      clear hnk
      by_cases h0 : nk = 0
      · subst h0
        have HBK : Hid (BkL wr AP k AR rn (gPs f first k) (gRs f first k)) := ⟨Lz.of_own (by have := HGG.out.nums; rw [gPs_length] at this; exact this) (fun _ h => h.elim), Lz.of_own (by have := HGG.out.recs; rw [HRN.out] at this; exact this) (fun _ h => h.elim)⟩
        have HLI : Hid (LI wr wr.heap.size A7 k (gIm f first k)) := LI.of_own (by have := HGG.out.read; rw [gIm_length] at this; exact this)
        have hrc : rn ≤ cR := by
          obtain ⟨A, c, e, h1, _⟩ := pl_own_slice HGG.out.recs
          injection e with _ e1 e2
          omega
        by_cases hE : putG (gPs f first k) (gRs f first k) = gIm f first k
        · have HE := Lib.hid hE
          clear hE
          go_wp2_with (first
            | (refine wpList_load_at 44 68 (.tmp 8) rfl rfl rfl (w.heap.size + 2) rfl (bkA bx (.slice AP k cP) (.slice AR rn cR)) 6 strBk rfl HGG.out.box6 ?_)
            | (go_at_call 25; refine (putG_any bx AP k cP AR rn cR (gPs f first k) (gRs f first k) wr HBK.out gRs_ok (by omega) (by omega) hrc).mono ?_; rintro e z3 ⟨A3, n3, c3, rfl, hl3, hb3⟩; have HL3 := Lib.hid hl3; have HB3 := Lib.hid hb3; clear hl3 hb3)
            | (go_at_call 46; refine (EqI_any A3 A7 n3 k c3 c7 _ _ z3 HL3.out ((HLI.out.under HB3.out).up HB3.out.size) (by have := HL3.out.len; have := putG_len (gPs f first k) (gRs f first k); rw [gPs_length] at this; omega) (by omega)).mono ?_; rintro e z4 ⟨q, rfl, hq, hb4⟩; obtain rfl := hq.2 HE.out; have HG4 := Lib.hid (HGG.out.call (HB3.out.trans (hb4.mono HB3.out.size))); clear hq hb4)
            | (refine wpList_load_at 44 74 (.tmp 8) rfl rfl rfl (w.heap.size + 2) rfl (bkA bx (.slice AP k cP) (.slice AR rn cR)) 6 strBk rfl HG4.out.box6 ?_)
            | (refine wpList_store_at 44 (.tmp 6) (.tmp 74) rfl rfl rfl (w.heap.size + 1) rfl (bkA bx (.slice AP k cP) (.slice AR rn cR)) zbk 6 rfl strBk rfl rfl (bkA_one _ _ _ _ _ _ _) HG4.out.box4 ?_; intro w9 ha9 hg9; have A9 := Lib.hid ha9; have G9 := Lib.hid hg9; clear ha9 hg9)
            )
          have HB9 := Lib.hid (HG4.out.below.grown G9.out HG4.out.below.size (fun j e => by injection e with e; omega))
          have k1 := HG4.out.nums.kept G9.out (by cases hv : Value.ownBlock (.slice AP k cP) with | none => exact .inl rfl | some j => exact .inr (fun e1 => own_ne HG4.out.nums HG4.out.box4 (by decide) (by rw [hv, e1])))
          have k2 := HG4.out.recs.kept G9.out (by cases hv : Value.ownBlock (.slice AR rn cR) with | none => exact .inl rfl | some j => exact .inr (fun e1 => own_ne HG4.out.recs HG4.out.box4 (by decide) (by rw [hv, e1])))
          refine bodyPost_ret (results_at2 (g := w.heap.size + 1) rfl A9.out strBk rfl rfl rfl) rfl ⟨HB9.out, .inl ⟨k, ⟨hk8, HPB.out, HFI.out, HNK.out, HE.out⟩, AP, cP, AR, cR, ?_, ?_, ?_⟩⟩
          · rw [gPs_length, HRN.out]; rfl
          · rw [gPs_length] at k1 ⊢; exact k1
          · rw [HRN.out] at k2 ⊢; exact k2
        · have HNO : Hid (¬ ∃ m, GetAt f first m) := fun ⟨m, hm⟩ => by
            obtain rfl := hm.one HFI.out HNK.out
            exact hE hm.2.2.2.2
          have HE := Lib.hid hE
          clear hE
          go_wp2_with (first
            | (refine wpList_load_at 44 68 (.tmp 8) rfl rfl rfl (w.heap.size + 2) rfl (bkA bx (.slice AP k cP) (.slice AR rn cR)) 6 strBk rfl HGG.out.box6 ?_)
            | (go_at_call 25; refine (putG_any bx AP k cP AR rn cR (gPs f first k) (gRs f first k) wr HBK.out gRs_ok (by omega) (by omega) hrc).mono ?_; rintro e z3 ⟨A3, n3, c3, rfl, hl3, hb3⟩; have HL3 := Lib.hid hl3; have HB3 := Lib.hid hb3; clear hl3 hb3)
            | (go_at_call 46; refine (EqI_any A3 A7 n3 k c3 c7 _ _ z3 HL3.out ((HLI.out.under HB3.out).up HB3.out.size) (by have := HL3.out.len; have := putG_len (gPs f first k) (gRs f first k); rw [gPs_length] at this; omega) (by omega)).mono ?_; rintro e z4 ⟨q, rfl, hq, hb4⟩; obtain rfl : q = false := (by cases q with | false => rfl | true => exact absurd (hq.1 rfl) HE.out); have HG4 := Lib.hid (HGG.out.call (HB3.out.trans (hb4.mono HB3.out.size))); clear hq hb4)
            | (refine wpList_store_at 44 (.tmp 6) (.tmp 73) rfl rfl rfl (w.heap.size + 1) rfl zbk zbk 6 rfl strBk rfl rfl zbk_one HG4.out.box4 ?_; intro w9 ha9 hg9; have A9 := Lib.hid ha9; have G9 := Lib.hid hg9; clear ha9 hg9)
            )
          have HB9 := Lib.hid (HG4.out.below.grown G9.out HG4.out.below.size (fun j e => by injection e with e; omega))
          exact bodyPost_ret (results_at2 (g := w.heap.size + 1) rfl A9.out strBk rfl rfl rfl) rfl ⟨HB9.out, .inr ⟨HNO.out, rfl⟩⟩
      · have hnk0 : ¬ gN f first k = 0 := by rw [HNK.out]; exact h0
        have HN0 := Lib.hid hnk0
        clear hnk0
        by_cases h8 : k = 6
        · subst h8
          have HNO : Hid (¬ ∃ m, GetAt f first m) := no_get HFI.out HN0.out (.inr (.inr (Nat.le_refl _)))
          go_wp2_with (first | (refine wpList_store_at 44 (.tmp 6) (.tmp 31) rfl rfl rfl (w.heap.size + 1) rfl zbk zbk 6 rfl strBk rfl rfl zbk_one HGG.out.box4 ?_; intro w9 ha9 hg9; have A9 := Lib.hid ha9; have HB9 := Lib.hid (HGG.out.below.grown hg9 HGG.out.below.size (fun j e => by injection e with e; omega)); clear ha9 hg9) )
          exact bodyPost_ret (results_at2 (g := w.heap.size + 1) rfl A9.out strBk rfl rfl rfl) rfl ⟨HB9.out, .inr ⟨HNO.out, rfl⟩⟩
        · obtain ⟨p, hp⟩ : ∃ p, (f nk).1 = p := ⟨_, rfl⟩
          obtain ⟨b, hb⟩ : ∃ b, (f nk).2 = b := ⟨_, rfl⟩
          have hC := HF.out wr nk HGG.out.below
          rw [hp, hb] at hC
          have HC := Lib.hid hC
          have HPP : Hid ((f (gN f first k)).1 = p) := by show _ = _; rw [HNK.out, hp]
          have HBB : Hid ((f (gN f first k)).2 = b) := by show _ = _; rw [HNK.out, hb]
          clear hC hp hb
          cases b
          · have HNO : Hid (¬ ∃ m, GetAt f first m) := no_get HFI.out HN0.out (.inl HBB.out)
            go_wp2_with (first | (refine wpList_store_at 44 (.tmp 6) (.tmp 40) rfl rfl rfl (w.heap.size + 1) rfl zbk zbk 6 rfl strBk rfl rfl zbk_one HG5.out.box4 ?_; intro w9 ha9 hg9; have A9 := Lib.hid ha9; have HB9 := Lib.hid (HG5.out.below.grown hg9 HG5.out.below.size (fun j e => by injection e with e; omega)); clear ha9 hg9) | (go_at_fn fn; refine HC.out.mono ?_; rintro e z3 ⟨rfl, hb3⟩; have HG3 := Lib.hid (HGG.out.call hb3); clear hb3) | (refine wpList_store_new 62 (.tmp 11) (.tmp 36) rfl rfl rfl z3.heap.size z3 rfl rfl (pgA p) _ 224 rfl str49 (pgA_size _) (pgA_size _) (pgA_one _) rfl ?_; have HA9p := Lib.hid (At.new z3 62 (pgA p)); have HG5 := Lib.hid (HG3.out.call ((Below.refl z3.heap.size z3).alloc (Nat.le_refl _) (.cells (pgA p) 62))); generalize z3.alloc (.cells (pgA p) 62) = z5 at HA9p HG5 ⊢))
            exact bodyPost_ret (results_at2 (g := w.heap.size + 1) rfl A9.out strBk rfl rfl rfl) rfl ⟨HB9.out, .inr ⟨HNO.out, rfl⟩⟩
          · obtain ⟨q, hq⟩ : ∃ q, rdOk p = q := ⟨_, rfl⟩
            cases q
            · have HNO : Hid (¬ ∃ m, GetAt f first m) := no_get HFI.out HN0.out (.inr (.inl (by rw [HPP.out]; exact hq)))
              have HRP := Lib.hid (readPg_no hq)
              clear hq
              go_wp2_with (first | (refine wpList_store_at 44 (.tmp 6) (.tmp 49) rfl rfl rfl (w.heap.size + 1) rfl zbk zbk 6 rfl strBk rfl rfl zbk_one HG6.out.box4 ?_; intro w9 ha9 hg9; have A9 := Lib.hid ha9; have HB9 := Lib.hid (HG6.out.below.grown hg9 HG6.out.below.size (fun j e => by injection e with e; omega)); clear ha9 hg9) | (go_at_fn fn; refine HC.out.mono ?_; rintro e z3 ⟨rfl, hb3⟩; have HG3 := Lib.hid (HGG.out.call hb3); clear hb3) | (refine wpList_store_new 62 (.tmp 11) (.tmp 36) rfl rfl rfl z3.heap.size z3 rfl rfl (pgA p) _ 224 rfl str49 (pgA_size _) (pgA_size _) (pgA_one _) rfl ?_; have HA9p := Lib.hid (At.new z3 62 (pgA p)); have HG5 := Lib.hid (HG3.out.call ((Below.refl z3.heap.size z3).alloc (Nat.le_refl _) (.cells (pgA p) 62))); generalize z3.alloc (.cells (pgA p) 62) = z5 at HA9p HG5 ⊢) | (refine wpList_load_at 62 42 (.tmp 11) rfl rfl rfl z3.heap.size rfl (pgA p) 224 str49 (pgA_size _) HA9p.out ?_) | (go_at_call 45; refine (HRP.out _).mono ?_; rintro e z6 ⟨rfl, hb6⟩; have HG6 := Lib.hid (HG5.out.call hb6); clear hb6))
              exact bodyPost_ret (results_at2 (g := w.heap.size + 1) rfl A9.out strBk rfl rfl rfl) rfl ⟨HB9.out, .inr ⟨HNO.out, rfl⟩⟩
            · have HFS : Hid (fine f first (k + 1)) := HFI.out.succ HN0.out HBB.out (by rw [HPP.out]; exact hq)
              have HRP := Lib.hid (readPg_yes hq)
              have HXL := Lib.hid (rdRecs_len p)
              clear hq
              have HNX : Hid (gN f first (k + 1) = (rdNext p : Int)) := by show (rdNext (f (gN f first k)).1 : Int) = _; rw [HPP.out]
              obtain ⟨i0, hi0, hx0, hx1, hx2⟩ := rc_info
              obtain ⟨i1, hi1, hy0, hy1, hy2⟩ := int_info
              obtain ⟨i2, hi2, hw0, hw1, hw2⟩ := im_info
              go_upto_region 16 with (first
                | (go_at_fn fn; refine HC.out.mono ?_; rintro e z3 ⟨rfl, hb3⟩; have HG3 := Lib.hid (HGG.out.call hb3); clear hb3)
                | (refine wpList_store_new 62 (.tmp 11) (.tmp 36) rfl rfl rfl z3.heap.size z3 rfl rfl (pgA p) _ 224 rfl str49 (pgA_size _) (pgA_size _) (pgA_one _) rfl ?_; have HA9p := Lib.hid (At.new z3 62 (pgA p)); have HG5 := Lib.hid (HG3.out.call ((Below.refl z3.heap.size z3).alloc (Nat.le_refl _) (.cells (pgA p) 62))); generalize z3.alloc (.cells (pgA p) 62) = z5 at HA9p HG5 ⊢)
                | (refine wpList_load_at 62 42 (.tmp 11) rfl rfl rfl z3.heap.size rfl (pgA p) 224 str49 (pgA_size _) HA9p.out ?_)
                | (refine wpList_load_at 62 52 (.tmp 11) rfl rfl rfl z3.heap.size rfl (pgA p) 224 str49 (pgA_size _) HA9p.out ?_)
                | (go_at_call 45; refine (HRP.out _).mono ?_; rintro e z6 ⟨AX, cX, rfl, hx6, hb6⟩; have HG6 := Lib.hid ((HG5.out.call hb6).setX hx6); have HA9p := Lib.hid (HA9p.out.under hb6 HA9p.out.lt); clear hx6 hb6)
                | (refine wpList_build_im 53 (.tmp 51) (.tmp 52) rfl rfl rfl nk p rfl rfl ?_)
                | (refine wpList_lit1 rfl (.tmp 53) 60 64 225 (.agg (imA ⟨0, zpg⟩)) (imA ⟨nk, p⟩) rfl rfl Try.underlying60 im_zero (by decide) (by decide) (imA_size _) ?_; have HG7 := Lib.hid (HG6.out.call ((Below.refl z6.heap.size z6).alloc (Nat.le_refl _) (.cells (imA ⟨nk, p⟩) 64))))
                | (at_builtin; refine pl_wpList_app _ rfl (.tmp 50) (.tmp 54) _ rfl w.heap.size 64 i2 _ 225 232 Try.underlying60 hi2 hw0 hw1 hw2 (imA_size _) (by omega) _ _ _ rfl HG7.out.read _ 1 1 (imL ⟨nk, p⟩) rfl (by rw [imL_length]) (fun j u hu => by rw [add_plain, Nat.zero_add]; exact new_im ⟨nk, p⟩ hu) (imL_one _) (by rw [gIm_length]; simp only [maxLen]; omega) (by rw [gIm_length]; omega) HG7.out.below.size ?_; intro v8 z8 ho8 hg8; obtain ⟨A8, c8, rfl, _, _⟩ := pl_own_slice ho8; have HG8 := Lib.hid (HG7.out.putI ho8 hg8); clear ho8 hg8)
                )
              have HMS : Hid (6 - vlen (.slice A8 ((gIm f first k).length + 1) c8) < 6 - vlen (.slice A7 k c7)) := by show 6 - ((gIm f first k).length + 1) < 6 - k; rw [gIm_length]; omega
              have HY0 := Lib.hid (HG8.out.call (Below.refl _ z8).drew)
              refine wp_region_held_drew (S := fun _ => True) (by kernel_rfl) trivial (fun hS => ?_)
              generalize z8.drew = y0 at HY0 ⊢
              refine tkS 0 hS ?_
              refine tkS 2 hS ?_
              refine tkS 5 hS ?_
              refine tkS 7 hS ?_
              refine wpAnyH_ready (rs := [1, 3, 6]) (by kernel_rfl) (by simp) ?_
              refine AllReadyH.cons rfl (fun K hK => ?_) (AllReadyH.cons rfl (fun K hK => ?_) (AllReadyH.cons rfl (fun K hK => ?_) AllReadyH.nil))
              · have q1 : y0.cell? ⟨w.heap.size + 2, 4, none⟩ = some (.slice AP k cP) := HY0.out.box6.cell 4
                go_simp
                refine hK.out _ _ (trivial) (fun hT => ?_)
                clear hK hS
                have hS := hT
                clear hT
                clear q1
                refine wpAnyH_ready (rs := [3, 6]) (by kernel_rfl) (by simp) ?_
                refine AllReadyH.cons rfl (fun K hK => ?_) (AllReadyH.cons rfl (fun K hK => ?_) AllReadyH.nil)
                · rw [if_pos (by rfl)]
                  refine wp_lit1i 59 (.tmp 58) rfl rfl nk rfl ?_
                  have HL2 := Lib.hid (At.new y0 3 #[.int .i64 nk])
                  have HY2 := Lib.hid (HY0.out.call ((Below.refl _ y0).alloc (Nat.le_refl _) (.cells #[.int .i64 nk] 3)))
                  generalize y0.alloc (.cells #[.int .i64 nk] 3) = y2 at HL2 HY2 ⊢
                  generalize y0.heap.size = gl at HL2 ⊢
                  dsimp only [Act.put]
                  simp only [List.setIfInBounds_toArray, List.set_cons_zero, List.set_cons_succ]
                  refine hK.out _ _ (trivial) (fun hT => ?_)
                  clear hK hS
                  have hS := hT
                  clear hT
                  refine wpAnyH_ready (rs := [4, 6]) (by kernel_rfl) (by simp) ?_
                  refine AllReadyH.cons rfl (fun K hK => ?_) (AllReadyH.cons rfl (fun K hK => ?_) AllReadyH.nil)
                  · rw [if_pos (by rfl)]
                    refine wp_app 60 (.tmp 57) (.tmp 59) 42 rfl rfl w.heap.size 3 i1 _ 1 8 Try.underlying42 hi1 hy0 hy1 hy2 rfl (by omega) _ _ _ rfl HY2.out.nums _ 1 1 (ICs [nk]) rfl rfl (fun j u hu => by rw [add_plain, Nat.zero_add, HL2.out.cell j]; simpa [ICs] using hu) (ICs_cell _) (by rw [gPs_length]; simp only [maxLen]; omega) (by rw [gPs_length]; omega) HY2.out.below.size ?_
                    intro v60 y3 ho hg
                    obtain ⟨AP2, cP2, rfl, _, _⟩ := pl_own_slice ho
                    have HY3 := Lib.hid (HY2.out.putP ho hg)
                    clear ho hg
                    dsimp only [Act.put]
                    simp only [List.setIfInBounds_toArray, List.set_cons_zero, List.set_cons_succ]
                    refine hK.out _ _ (trivial) (fun hT => ?_)
                    clear hK hS
                    have hS := hT
                    clear hT
                    refine wpAnyH_ready (rs := [6]) (by kernel_rfl) (by simp) ?_
                    refine AllReadyH.cons rfl (fun K hK => ?_) AllReadyH.nil
                    have q6 : y3.cell? ⟨w.heap.size + 2, 5, none⟩ = some (.slice AR rn cR) := HY3.out.box6.cell 5
                    go_simp
                    refine hK.out _ _ (trivial) (fun hT => ?_)
                    clear hK hS
                    have hS := hT
                    clear hT
                    clear q6
                    refine tkS 9 hS ?_
                    refine wpAnyH_ready (rs := [8]) (by kernel_rfl) (by simp) ?_
                    refine AllReadyH.cons rfl (fun K hK => ?_) AllReadyH.nil
                    rw [if_pos (by rfl)]
                    obtain ⟨bX, hX⟩ := HY3.out.x rfl
                    refine wp_appL 64 (.tmp 62) (.tmp 63) 40 rfl rfl w.heap.size 50 i0 _ 4 24 Try.underlying40 hi0 hx0 hx1 hx2 rfl (by omega) _ _ _ rfl HY3.out.recs _ AX (rdRecs p).length cX (rcsL (rdRecs p)) rfl (Lies.of_own hX) (rcsL_cell _) (by rw [HRN.out]; have := HXL.out; simp only [maxLen]; omega) (by rw [HRN.out]; have := HXL.out; omega) HY3.out.below.size ?_
                    intro v64 y5 ho hg
                    obtain ⟨AR2, cR2, rfl, _, _⟩ := pl_own_slice ho
                    have HY5 := Lib.hid (HY3.out.putR ho hg)
                    clear ho hg hX
                    dsimp only [Act.put]
                    simp only [List.setIfInBounds_toArray, List.set_cons_zero, List.set_cons_succ]
                    refine hK.out _ _ (trivial) (fun hT => ?_)
                    clear hK hS
                    have hS := hT
                    clear hT
                    refine wpAnyH_ready (rs := [10]) (by kernel_rfl) (by simp) ?_
                    refine AllReadyH.cons rfl (fun K hK => ?_) AllReadyH.nil
                    have q10 : y5.cell? ⟨w.heap.size + 2, 4, none⟩ = some (.slice AP k cP) := HY5.out.box6.cell 4
                    have f10 : y5.frozen? ⟨w.heap.size + 2, 4, none⟩ = false := HY5.out.box6.frozen 4
                    go_simp
                    have HY6 := Lib.hid (HY5.out.setB 4 (.slice AP2 ((gPs f first k).length + 1) cP2))
                    clear q10 f10
                    generalize y5.setCell ⟨w.heap.size + 2, 4, none⟩ (.slice AP2 ((gPs f first k).length + 1) cP2) = y6 at HY6 ⊢
                    refine hK.out _ _ (trivial) (fun hT => ?_)
                    clear hK hS
                    have hS := hT
                    clear hT
                    refine tkS 11 hS ?_
                    refine wpAnyH_ready (rs := [12]) (by kernel_rfl) (by simp) ?_
                    refine AllReadyH.cons rfl (fun K hK => ?_) AllReadyH.nil
                    have q12 : y6.cell? ⟨w.heap.size + 2, 5, none⟩ = some (.slice AR rn cR) := HY6.out.box6.cell 5
                    have f12 : y6.frozen? ⟨w.heap.size + 2, 5, none⟩ = false := HY6.out.box6.frozen 5
                    go_simp
                    have HGT : Hid (GtS w f bx first (k + 1) (.slice A8 ((gIm f first k).length + 1) c8) (y6.setCell ⟨w.heap.size + 2, 5, none⟩ (.slice AR2 ((gRs f first k).length + (rdRecs p).length) cR2))) := GtS.mk2 HNK.out HPP.out (HY6.out.setB 5 (.slice AR2 ((gRs f first k).length + (rdRecs p).length) cR2))
                    clear q12 f12
                    generalize y6.setCell ⟨w.heap.size + 2, 5, none⟩ (.slice AR2 ((gRs f first k).length + (rdRecs p).length) cR2) = y7 at HGT ⊢
                    refine hK.out _ _ (trivial) (fun hT => ?_)
                    clear hK hS
                    have hS := hT
                    clear hT
                    refine wpAnyH_done (by kernel_rfl) ?_ _
                    clear hS
                    go_wp2_with fail
                    go_round
                    case rel => exact ⟨k + 1, by omega, by rw [HNX.out], HFS, HGT⟩
                    case measure => exact HMS.out
                  · have q6 : y2.cell? ⟨w.heap.size + 2, 5, none⟩ = some (.slice AR rn cR) := HY2.out.box6.cell 5
                    go_simp
                    refine hK.out _ _ (trivial) (fun hT => ?_)
                    clear hK hS
                    have hS := hT
                    clear hT
                    clear q6
                    refine wpAnyH_ready (rs := [4]) (by kernel_rfl) (by simp) ?_
                    refine AllReadyH.cons rfl (fun K hK => ?_) AllReadyH.nil
                    rw [if_pos (by rfl)]
                    refine wp_app 60 (.tmp 57) (.tmp 59) 42 rfl rfl w.heap.size 3 i1 _ 1 8 Try.underlying42 hi1 hy0 hy1 hy2 rfl (by omega) _ _ _ rfl HY2.out.nums _ 1 1 (ICs [nk]) rfl rfl (fun j u hu => by rw [add_plain, Nat.zero_add, HL2.out.cell j]; simpa [ICs] using hu) (ICs_cell _) (by rw [gPs_length]; simp only [maxLen]; omega) (by rw [gPs_length]; omega) HY2.out.below.size ?_
                    intro v60 y4 ho hg
                    obtain ⟨AP2, cP2, rfl, _, _⟩ := pl_own_slice ho
                    have HY4 := Lib.hid (HY2.out.putP ho hg)
                    clear ho hg
                    dsimp only [Act.put]
                    simp only [List.setIfInBounds_toArray, List.set_cons_zero, List.set_cons_succ]
                    refine hK.out _ _ (trivial) (fun hT => ?_)
                    clear hK hS
                    have hS := hT
                    clear hT
                    refine tkS 9 hS ?_
                    refine wpAnyH_ready (rs := [8]) (by kernel_rfl) (by simp) ?_
                    refine AllReadyH.cons rfl (fun K hK => ?_) AllReadyH.nil
                    rw [if_pos (by rfl)]
                    obtain ⟨bX, hX⟩ := HY4.out.x rfl
                    refine wp_appL 64 (.tmp 62) (.tmp 63) 40 rfl rfl w.heap.size 50 i0 _ 4 24 Try.underlying40 hi0 hx0 hx1 hx2 rfl (by omega) _ _ _ rfl HY4.out.recs _ AX (rdRecs p).length cX (rcsL (rdRecs p)) rfl (Lies.of_own hX) (rcsL_cell _) (by rw [HRN.out]; have := HXL.out; simp only [maxLen]; omega) (by rw [HRN.out]; have := HXL.out; omega) HY4.out.below.size ?_
                    intro v64 y5 ho hg
                    obtain ⟨AR2, cR2, rfl, _, _⟩ := pl_own_slice ho
                    have HY5 := Lib.hid (HY4.out.putR ho hg)
                    clear ho hg hX
                    dsimp only [Act.put]
                    simp only [List.setIfInBounds_toArray, List.set_cons_zero, List.set_cons_succ]
                    refine hK.out _ _ (trivial) (fun hT => ?_)
                    clear hK hS
                    have hS := hT
                    clear hT
                    refine wpAnyH_ready (rs := [10]) (by kernel_rfl) (by simp) ?_
                    refine AllReadyH.cons rfl (fun K hK => ?_) AllReadyH.nil
                    have q10 : y5.cell? ⟨w.heap.size + 2, 4, none⟩ = some (.slice AP k cP) := HY5.out.box6.cell 4
                    have f10 : y5.frozen? ⟨w.heap.size + 2, 4, none⟩ = false := HY5.out.box6.frozen 4
                    go_simp
                    have HY6 := Lib.hid (HY5.out.setB 4 (.slice AP2 ((gPs f first k).length + 1) cP2))
                    clear q10 f10
                    generalize y5.setCell ⟨w.heap.size + 2, 4, none⟩ (.slice AP2 ((gPs f first k).length + 1) cP2) = y6 at HY6 ⊢
                    refine hK.out _ _ (trivial) (fun hT => ?_)
                    clear hK hS
                    have hS := hT
                    clear hT
                    refine tkS 11 hS ?_
                    refine wpAnyH_ready (rs := [12]) (by kernel_rfl) (by simp) ?_
                    refine AllReadyH.cons rfl (fun K hK => ?_) AllReadyH.nil
                    have q12 : y6.cell? ⟨w.heap.size + 2, 5, none⟩ = some (.slice AR rn cR) := HY6.out.box6.cell 5
                    have f12 : y6.frozen? ⟨w.heap.size + 2, 5, none⟩ = false := HY6.out.box6.frozen 5
                    go_simp
                    have HGT : Hid (GtS w f bx first (k + 1) (.slice A8 ((gIm f first k).length + 1) c8) (y6.setCell ⟨w.heap.size + 2, 5, none⟩ (.slice AR2 ((gRs f first k).length + (rdRecs p).length) cR2))) := GtS.mk2 HNK.out HPP.out (HY6.out.setB 5 (.slice AR2 ((gRs f first k).length + (rdRecs p).length) cR2))
                    clear q12 f12
                    generalize y6.setCell ⟨w.heap.size + 2, 5, none⟩ (.slice AR2 ((gRs f first k).length + (rdRecs p).length) cR2) = y7 at HGT ⊢
                    refine hK.out _ _ (trivial) (fun hT => ?_)
                    clear hK hS
                    have hS := hT
                    clear hT
                    refine wpAnyH_done (by kernel_rfl) ?_ _
                    clear hS
                    go_wp2_with fail
                    go_round
                    case rel => exact ⟨k + 1, by omega, by rw [HNX.out], HFS, HGT⟩
                    case measure => exact HMS.out
                · have q6 : y0.cell? ⟨w.heap.size + 2, 5, none⟩ = some (.slice AR rn cR) := HY0.out.box6.cell 5
                  go_simp
                  refine hK.out _ _ (trivial) (fun hT => ?_)
                  clear hK hS
                  have hS := hT
                  clear hT
                  clear q6
                  refine wpAnyH_ready (rs := [3]) (by kernel_rfl) (by simp) ?_
                  refine AllReadyH.cons rfl (fun K hK => ?_) AllReadyH.nil
                  rw [if_pos (by rfl)]
                  refine wp_lit1i 59 (.tmp 58) rfl rfl nk rfl ?_
                  have HL3 := Lib.hid (At.new y0 3 #[.int .i64 nk])
                  have HY3 := Lib.hid (HY0.out.call ((Below.refl _ y0).alloc (Nat.le_refl _) (.cells #[.int .i64 nk] 3)))
                  generalize y0.alloc (.cells #[.int .i64 nk] 3) = y3 at HL3 HY3 ⊢
                  generalize y0.heap.size = gl at HL3 ⊢
                  dsimp only [Act.put]
                  simp only [List.setIfInBounds_toArray, List.set_cons_zero, List.set_cons_succ]
                  refine hK.out _ _ (trivial) (fun hT => ?_)
                  clear hK hS
                  have hS := hT
                  clear hT
                  refine wpAnyH_ready (rs := [4]) (by kernel_rfl) (by simp) ?_
                  refine AllReadyH.cons rfl (fun K hK => ?_) AllReadyH.nil
                  rw [if_pos (by rfl)]
                  refine wp_app 60 (.tmp 57) (.tmp 59) 42 rfl rfl w.heap.size 3 i1 _ 1 8 Try.underlying42 hi1 hy0 hy1 hy2 rfl (by omega) _ _ _ rfl HY3.out.nums _ 1 1 (ICs [nk]) rfl rfl (fun j u hu => by rw [add_plain, Nat.zero_add, HL3.out.cell j]; simpa [ICs] using hu) (ICs_cell _) (by rw [gPs_length]; simp only [maxLen]; omega) (by rw [gPs_length]; omega) HY3.out.below.size ?_
                  intro v60 y4 ho hg
                  obtain ⟨AP2, cP2, rfl, _, _⟩ := pl_own_slice ho
                  have HY4 := Lib.hid (HY3.out.putP ho hg)
                  clear ho hg
                  dsimp only [Act.put]
                  simp only [List.setIfInBounds_toArray, List.set_cons_zero, List.set_cons_succ]
                  refine hK.out _ _ (trivial) (fun hT => ?_)
                  clear hK hS
                  have hS := hT
                  clear hT
                  refine tkS 9 hS ?_
                  refine wpAnyH_ready (rs := [8]) (by kernel_rfl) (by simp) ?_
                  refine AllReadyH.cons rfl (fun K hK => ?_) AllReadyH.nil
                  rw [if_pos (by rfl)]
                  obtain ⟨bX, hX⟩ := HY4.out.x rfl
                  refine wp_appL 64 (.tmp 62) (.tmp 63) 40 rfl rfl w.heap.size 50 i0 _ 4 24 Try.underlying40 hi0 hx0 hx1 hx2 rfl (by omega) _ _ _ rfl HY4.out.recs _ AX (rdRecs p).length cX (rcsL (rdRecs p)) rfl (Lies.of_own hX) (rcsL_cell _) (by rw [HRN.out]; have := HXL.out; simp only [maxLen]; omega) (by rw [HRN.out]; have := HXL.out; omega) HY4.out.below.size ?_
                  intro v64 y5 ho hg
                  obtain ⟨AR2, cR2, rfl, _, _⟩ := pl_own_slice ho
                  have HY5 := Lib.hid (HY4.out.putR ho hg)
                  clear ho hg hX
                  dsimp only [Act.put]
                  simp only [List.setIfInBounds_toArray, List.set_cons_zero, List.set_cons_succ]
                  refine hK.out _ _ (trivial) (fun hT => ?_)
                  clear hK hS
                  have hS := hT
                  clear hT
                  refine wpAnyH_ready (rs := [10]) (by kernel_rfl) (by simp) ?_
                  refine AllReadyH.cons rfl (fun K hK => ?_) AllReadyH.nil
                  have q10 : y5.cell? ⟨w.heap.size + 2, 4, none⟩ = some (.slice AP k cP) := HY5.out.box6.cell 4
                  have f10 : y5.frozen? ⟨w.heap.size + 2, 4, none⟩ = false := HY5.out.box6.frozen 4
                  go_simp
                  have HY6 := Lib.hid (HY5.out.setB 4 (.slice AP2 ((gPs f first k).length + 1) cP2))
                  clear q10 f10
                  generalize y5.setCell ⟨w.heap.size + 2, 4, none⟩ (.slice AP2 ((gPs f first k).length + 1) cP2) = y6 at HY6 ⊢
                  refine hK.out _ _ (trivial) (fun hT => ?_)
                  clear hK hS
                  have hS := hT
                  clear hT
                  refine tkS 11 hS ?_
                  refine wpAnyH_ready (rs := [12]) (by kernel_rfl) (by simp) ?_
                  refine AllReadyH.cons rfl (fun K hK => ?_) AllReadyH.nil
                  have q12 : y6.cell? ⟨w.heap.size + 2, 5, none⟩ = some (.slice AR rn cR) := HY6.out.box6.cell 5
                  have f12 : y6.frozen? ⟨w.heap.size + 2, 5, none⟩ = false := HY6.out.box6.frozen 5
                  go_simp
                  have HGT : Hid (GtS w f bx first (k + 1) (.slice A8 ((gIm f first k).length + 1) c8) (y6.setCell ⟨w.heap.size + 2, 5, none⟩ (.slice AR2 ((gRs f first k).length + (rdRecs p).length) cR2))) := GtS.mk2 HNK.out HPP.out (HY6.out.setB 5 (.slice AR2 ((gRs f first k).length + (rdRecs p).length) cR2))
                  clear q12 f12
                  generalize y6.setCell ⟨w.heap.size + 2, 5, none⟩ (.slice AR2 ((gRs f first k).length + (rdRecs p).length) cR2) = y7 at HGT ⊢
                  refine hK.out _ _ (trivial) (fun hT => ?_)
                  clear hK hS
                  have hS := hT
                  clear hT
                  refine wpAnyH_done (by kernel_rfl) ?_ _
                  clear hS
                  go_wp2_with fail
                  go_round
                  case rel => exact ⟨k + 1, by omega, by rw [HNX.out], HFS, HGT⟩
                  case measure => exact HMS.out
              · rw [if_pos (by rfl)]
                refine wp_lit1i 59 (.tmp 58) rfl rfl nk rfl ?_
                have HL1 := Lib.hid (At.new y0 3 #[.int .i64 nk])
                have HY1 := Lib.hid (HY0.out.call ((Below.refl _ y0).alloc (Nat.le_refl _) (.cells #[.int .i64 nk] 3)))
                generalize y0.alloc (.cells #[.int .i64 nk] 3) = y1 at HL1 HY1 ⊢
                generalize y0.heap.size = gl at HL1 ⊢
                dsimp only [Act.put]
                simp only [List.setIfInBounds_toArray, List.set_cons_zero, List.set_cons_succ]
                refine hK.out _ _ (trivial) (fun hT => ?_)
                clear hK hS
                have hS := hT
                clear hT
                refine wpAnyH_ready (rs := [1, 6]) (by kernel_rfl) (by simp) ?_
                refine AllReadyH.cons rfl (fun K hK => ?_) (AllReadyH.cons rfl (fun K hK => ?_) AllReadyH.nil)
                · have q1 : y1.cell? ⟨w.heap.size + 2, 4, none⟩ = some (.slice AP k cP) := HY1.out.box6.cell 4
                  go_simp
                  refine hK.out _ _ (trivial) (fun hT => ?_)
                  clear hK hS
                  have hS := hT
                  clear hT
                  clear q1
                  refine wpAnyH_ready (rs := [4, 6]) (by kernel_rfl) (by simp) ?_
                  refine AllReadyH.cons rfl (fun K hK => ?_) (AllReadyH.cons rfl (fun K hK => ?_) AllReadyH.nil)
                  · rw [if_pos (by rfl)]
                    refine wp_app 60 (.tmp 57) (.tmp 59) 42 rfl rfl w.heap.size 3 i1 _ 1 8 Try.underlying42 hi1 hy0 hy1 hy2 rfl (by omega) _ _ _ rfl HY1.out.nums _ 1 1 (ICs [nk]) rfl rfl (fun j u hu => by rw [add_plain, Nat.zero_add, HL1.out.cell j]; simpa [ICs] using hu) (ICs_cell _) (by rw [gPs_length]; simp only [maxLen]; omega) (by rw [gPs_length]; omega) HY1.out.below.size ?_
                    intro v60 y3 ho hg
                    obtain ⟨AP2, cP2, rfl, _, _⟩ := pl_own_slice ho
                    have HY3 := Lib.hid (HY1.out.putP ho hg)
                    clear ho hg
                    dsimp only [Act.put]
                    simp only [List.setIfInBounds_toArray, List.set_cons_zero, List.set_cons_succ]
                    refine hK.out _ _ (trivial) (fun hT => ?_)
                    clear hK hS
                    have hS := hT
                    clear hT
                    refine wpAnyH_ready (rs := [6]) (by kernel_rfl) (by simp) ?_
                    refine AllReadyH.cons rfl (fun K hK => ?_) AllReadyH.nil
                    have q6 : y3.cell? ⟨w.heap.size + 2, 5, none⟩ = some (.slice AR rn cR) := HY3.out.box6.cell 5
                    go_simp
                    refine hK.out _ _ (trivial) (fun hT => ?_)
                    clear hK hS
                    have hS := hT
                    clear hT
                    clear q6
                    refine tkS 9 hS ?_
                    refine wpAnyH_ready (rs := [8]) (by kernel_rfl) (by simp) ?_
                    refine AllReadyH.cons rfl (fun K hK => ?_) AllReadyH.nil
                    rw [if_pos (by rfl)]
                    obtain ⟨bX, hX⟩ := HY3.out.x rfl
                    refine wp_appL 64 (.tmp 62) (.tmp 63) 40 rfl rfl w.heap.size 50 i0 _ 4 24 Try.underlying40 hi0 hx0 hx1 hx2 rfl (by omega) _ _ _ rfl HY3.out.recs _ AX (rdRecs p).length cX (rcsL (rdRecs p)) rfl (Lies.of_own hX) (rcsL_cell _) (by rw [HRN.out]; have := HXL.out; simp only [maxLen]; omega) (by rw [HRN.out]; have := HXL.out; omega) HY3.out.below.size ?_
                    intro v64 y5 ho hg
                    obtain ⟨AR2, cR2, rfl, _, _⟩ := pl_own_slice ho
                    have HY5 := Lib.hid (HY3.out.putR ho hg)
                    clear ho hg hX
                    dsimp only [Act.put]
                    simp only [List.setIfInBounds_toArray, List.set_cons_zero, List.set_cons_succ]
                    refine hK.out _ _ (trivial) (fun hT => ?_)
                    clear hK hS
                    have hS := hT
                    clear hT
                    refine wpAnyH_ready (rs := [10]) (by kernel_rfl) (by simp) ?_
                    refine AllReadyH.cons rfl (fun K hK => ?_) AllReadyH.nil
                    have q10 : y5.cell? ⟨w.heap.size + 2, 4, none⟩ = some (.slice AP k cP) := HY5.out.box6.cell 4
                    have f10 : y5.frozen? ⟨w.heap.size + 2, 4, none⟩ = false := HY5.out.box6.frozen 4
                    go_simp
                    have HY6 := Lib.hid (HY5.out.setB 4 (.slice AP2 ((gPs f first k).length + 1) cP2))
                    clear q10 f10
                    generalize y5.setCell ⟨w.heap.size + 2, 4, none⟩ (.slice AP2 ((gPs f first k).length + 1) cP2) = y6 at HY6 ⊢
                    refine hK.out _ _ (trivial) (fun hT => ?_)
                    clear hK hS
                    have hS := hT
                    clear hT
                    refine tkS 11 hS ?_
                    refine wpAnyH_ready (rs := [12]) (by kernel_rfl) (by simp) ?_
                    refine AllReadyH.cons rfl (fun K hK => ?_) AllReadyH.nil
                    have q12 : y6.cell? ⟨w.heap.size + 2, 5, none⟩ = some (.slice AR rn cR) := HY6.out.box6.cell 5
                    have f12 : y6.frozen? ⟨w.heap.size + 2, 5, none⟩ = false := HY6.out.box6.frozen 5
                    go_simp
                    have HGT : Hid (GtS w f bx first (k + 1) (.slice A8 ((gIm f first k).length + 1) c8) (y6.setCell ⟨w.heap.size + 2, 5, none⟩ (.slice AR2 ((gRs f first k).length + (rdRecs p).length) cR2))) := GtS.mk2 HNK.out HPP.out (HY6.out.setB 5 (.slice AR2 ((gRs f first k).length + (rdRecs p).length) cR2))
                    clear q12 f12
                    generalize y6.setCell ⟨w.heap.size + 2, 5, none⟩ (.slice AR2 ((gRs f first k).length + (rdRecs p).length) cR2) = y7 at HGT ⊢
                    refine hK.out _ _ (trivial) (fun hT => ?_)
                    clear hK hS
                    have hS := hT
                    clear hT
                    refine wpAnyH_done (by kernel_rfl) ?_ _
                    clear hS
                    go_wp2_with fail
                    go_round
                    case rel => exact ⟨k + 1, by omega, by rw [HNX.out], HFS, HGT⟩
                    case measure => exact HMS.out
                  · have q6 : y1.cell? ⟨w.heap.size + 2, 5, none⟩ = some (.slice AR rn cR) := HY1.out.box6.cell 5
                    go_simp
                    refine hK.out _ _ (trivial) (fun hT => ?_)
                    clear hK hS
                    have hS := hT
                    clear hT
                    clear q6
                    refine wpAnyH_ready (rs := [4]) (by kernel_rfl) (by simp) ?_
                    refine AllReadyH.cons rfl (fun K hK => ?_) AllReadyH.nil
                    rw [if_pos (by rfl)]
                    refine wp_app 60 (.tmp 57) (.tmp 59) 42 rfl rfl w.heap.size 3 i1 _ 1 8 Try.underlying42 hi1 hy0 hy1 hy2 rfl (by omega) _ _ _ rfl HY1.out.nums _ 1 1 (ICs [nk]) rfl rfl (fun j u hu => by rw [add_plain, Nat.zero_add, HL1.out.cell j]; simpa [ICs] using hu) (ICs_cell _) (by rw [gPs_length]; simp only [maxLen]; omega) (by rw [gPs_length]; omega) HY1.out.below.size ?_
                    intro v60 y4 ho hg
                    obtain ⟨AP2, cP2, rfl, _, _⟩ := pl_own_slice ho
                    have HY4 := Lib.hid (HY1.out.putP ho hg)
                    clear ho hg
                    dsimp only [Act.put]
                    simp only [List.setIfInBounds_toArray, List.set_cons_zero, List.set_cons_succ]
                    refine hK.out _ _ (trivial) (fun hT => ?_)
                    clear hK hS
                    have hS := hT
                    clear hT
                    refine tkS 9 hS ?_
                    refine wpAnyH_ready (rs := [8]) (by kernel_rfl) (by simp) ?_
                    refine AllReadyH.cons rfl (fun K hK => ?_) AllReadyH.nil
                    rw [if_pos (by rfl)]
                    obtain ⟨bX, hX⟩ := HY4.out.x rfl
                    refine wp_appL 64 (.tmp 62) (.tmp 63) 40 rfl rfl w.heap.size 50 i0 _ 4 24 Try.underlying40 hi0 hx0 hx1 hx2 rfl (by omega) _ _ _ rfl HY4.out.recs _ AX (rdRecs p).length cX (rcsL (rdRecs p)) rfl (Lies.of_own hX) (rcsL_cell _) (by rw [HRN.out]; have := HXL.out; simp only [maxLen]; omega) (by rw [HRN.out]; have := HXL.out; omega) HY4.out.below.size ?_
                    intro v64 y5 ho hg
                    obtain ⟨AR2, cR2, rfl, _, _⟩ := pl_own_slice ho
                    have HY5 := Lib.hid (HY4.out.putR ho hg)
                    clear ho hg hX
                    dsimp only [Act.put]
                    simp only [List.setIfInBounds_toArray, List.set_cons_zero, List.set_cons_succ]
                    refine hK.out _ _ (trivial) (fun hT => ?_)
                    clear hK hS
                    have hS := hT
                    clear hT
                    refine wpAnyH_ready (rs := [10]) (by kernel_rfl) (by simp) ?_
                    refine AllReadyH.cons rfl (fun K hK => ?_) AllReadyH.nil
                    have q10 : y5.cell? ⟨w.heap.size + 2, 4, none⟩ = some (.slice AP k cP) := HY5.out.box6.cell 4
                    have f10 : y5.frozen? ⟨w.heap.size + 2, 4, none⟩ = false := HY5.out.box6.frozen 4
                    go_simp
                    have HY6 := Lib.hid (HY5.out.setB 4 (.slice AP2 ((gPs f first k).length + 1) cP2))
                    clear q10 f10
                    generalize y5.setCell ⟨w.heap.size + 2, 4, none⟩ (.slice AP2 ((gPs f first k).length + 1) cP2) = y6 at HY6 ⊢
                    refine hK.out _ _ (trivial) (fun hT => ?_)
                    clear hK hS
                    have hS := hT
                    clear hT
                    refine tkS 11 hS ?_
                    refine wpAnyH_ready (rs := [12]) (by kernel_rfl) (by simp) ?_
                    refine AllReadyH.cons rfl (fun K hK => ?_) AllReadyH.nil
                    have q12 : y6.cell? ⟨w.heap.size + 2, 5, none⟩ = some (.slice AR rn cR) := HY6.out.box6.cell 5
                    have f12 : y6.frozen? ⟨w.heap.size + 2, 5, none⟩ = false := HY6.out.box6.frozen 5
                    go_simp
                    have HGT : Hid (GtS w f bx first (k + 1) (.slice A8 ((gIm f first k).length + 1) c8) (y6.setCell ⟨w.heap.size + 2, 5, none⟩ (.slice AR2 ((gRs f first k).length + (rdRecs p).length) cR2))) := GtS.mk2 HNK.out HPP.out (HY6.out.setB 5 (.slice AR2 ((gRs f first k).length + (rdRecs p).length) cR2))
                    clear q12 f12
                    generalize y6.setCell ⟨w.heap.size + 2, 5, none⟩ (.slice AR2 ((gRs f first k).length + (rdRecs p).length) cR2) = y7 at HGT ⊢
                    refine hK.out _ _ (trivial) (fun hT => ?_)
                    clear hK hS
                    have hS := hT
                    clear hT
                    refine wpAnyH_done (by kernel_rfl) ?_ _
                    clear hS
                    go_wp2_with fail
                    go_round
                    case rel => exact ⟨k + 1, by omega, by rw [HNX.out], HFS, HGT⟩
                    case measure => exact HMS.out
                · have q6 : y1.cell? ⟨w.heap.size + 2, 5, none⟩ = some (.slice AR rn cR) := HY1.out.box6.cell 5
                  go_simp
                  refine hK.out _ _ (trivial) (fun hT => ?_)
                  clear hK hS
                  have hS := hT
                  clear hT
                  clear q6
                  refine wpAnyH_ready (rs := [1]) (by kernel_rfl) (by simp) ?_
                  refine AllReadyH.cons rfl (fun K hK => ?_) AllReadyH.nil
                  have q1 : y1.cell? ⟨w.heap.size + 2, 4, none⟩ = some (.slice AP k cP) := HY1.out.box6.cell 4
                  go_simp
                  refine hK.out _ _ (trivial) (fun hT => ?_)
                  clear hK hS
                  have hS := hT
                  clear hT
                  clear q1
                  refine wpAnyH_ready (rs := [4]) (by kernel_rfl) (by simp) ?_
                  refine AllReadyH.cons rfl (fun K hK => ?_) AllReadyH.nil
                  rw [if_pos (by rfl)]
                  refine wp_app 60 (.tmp 57) (.tmp 59) 42 rfl rfl w.heap.size 3 i1 _ 1 8 Try.underlying42 hi1 hy0 hy1 hy2 rfl (by omega) _ _ _ rfl HY1.out.nums _ 1 1 (ICs [nk]) rfl rfl (fun j u hu => by rw [add_plain, Nat.zero_add, HL1.out.cell j]; simpa [ICs] using hu) (ICs_cell _) (by rw [gPs_length]; simp only [maxLen]; omega) (by rw [gPs_length]; omega) HY1.out.below.size ?_
                  intro v60 y4 ho hg
                  obtain ⟨AP2, cP2, rfl, _, _⟩ := pl_own_slice ho
                  have HY4 := Lib.hid (HY1.out.putP ho hg)
                  clear ho hg
                  dsimp only [Act.put]
                  simp only [List.setIfInBounds_toArray, List.set_cons_zero, List.set_cons_succ]
                  refine hK.out _ _ (trivial) (fun hT => ?_)
                  clear hK hS
                  have hS := hT
                  clear hT
                  refine tkS 9 hS ?_
                  refine wpAnyH_ready (rs := [8]) (by kernel_rfl) (by simp) ?_
                  refine AllReadyH.cons rfl (fun K hK => ?_) AllReadyH.nil
                  rw [if_pos (by rfl)]
                  obtain ⟨bX, hX⟩ := HY4.out.x rfl
                  refine wp_appL 64 (.tmp 62) (.tmp 63) 40 rfl rfl w.heap.size 50 i0 _ 4 24 Try.underlying40 hi0 hx0 hx1 hx2 rfl (by omega) _ _ _ rfl HY4.out.recs _ AX (rdRecs p).length cX (rcsL (rdRecs p)) rfl (Lies.of_own hX) (rcsL_cell _) (by rw [HRN.out]; have := HXL.out; simp only [maxLen]; omega) (by rw [HRN.out]; have := HXL.out; omega) HY4.out.below.size ?_
                  intro v64 y5 ho hg
                  obtain ⟨AR2, cR2, rfl, _, _⟩ := pl_own_slice ho
                  have HY5 := Lib.hid (HY4.out.putR ho hg)
                  clear ho hg hX
                  dsimp only [Act.put]
                  simp only [List.setIfInBounds_toArray, List.set_cons_zero, List.set_cons_succ]
                  refine hK.out _ _ (trivial) (fun hT => ?_)
                  clear hK hS
                  have hS := hT
                  clear hT
                  refine wpAnyH_ready (rs := [10]) (by kernel_rfl) (by simp) ?_
                  refine AllReadyH.cons rfl (fun K hK => ?_) AllReadyH.nil
                  have q10 : y5.cell? ⟨w.heap.size + 2, 4, none⟩ = some (.slice AP k cP) := HY5.out.box6.cell 4
                  have f10 : y5.frozen? ⟨w.heap.size + 2, 4, none⟩ = false := HY5.out.box6.frozen 4
                  go_simp
                  have HY6 := Lib.hid (HY5.out.setB 4 (.slice AP2 ((gPs f first k).length + 1) cP2))
                  clear q10 f10
                  generalize y5.setCell ⟨w.heap.size + 2, 4, none⟩ (.slice AP2 ((gPs f first k).length + 1) cP2) = y6 at HY6 ⊢
                  refine hK.out _ _ (trivial) (fun hT => ?_)
                  clear hK hS
                  have hS := hT
                  clear hT
                  refine tkS 11 hS ?_
                  refine wpAnyH_ready (rs := [12]) (by kernel_rfl) (by simp) ?_
                  refine AllReadyH.cons rfl (fun K hK => ?_) AllReadyH.nil
                  have q12 : y6.cell? ⟨w.heap.size + 2, 5, none⟩ = some (.slice AR rn cR) := HY6.out.box6.cell 5
                  have f12 : y6.frozen? ⟨w.heap.size + 2, 5, none⟩ = false := HY6.out.box6.frozen 5
                  go_simp
                  have HGT : Hid (GtS w f bx first (k + 1) (.slice A8 ((gIm f first k).length + 1) c8) (y6.setCell ⟨w.heap.size + 2, 5, none⟩ (.slice AR2 ((gRs f first k).length + (rdRecs p).length) cR2))) := GtS.mk2 HNK.out HPP.out (HY6.out.setB 5 (.slice AR2 ((gRs f first k).length + (rdRecs p).length) cR2))
                  clear q12 f12
                  generalize y6.setCell ⟨w.heap.size + 2, 5, none⟩ (.slice AR2 ((gRs f first k).length + (rdRecs p).length) cR2) = y7 at HGT ⊢
                  refine hK.out _ _ (trivial) (fun hT => ?_)
                  clear hK hS
                  have hS := hT
                  clear hT
                  refine wpAnyH_done (by kernel_rfl) ?_ _
                  clear hS
                  go_wp2_with fail
                  go_round
                  case rel => exact ⟨k + 1, by omega, by rw [HNX.out], HFS, HGT⟩
                  case measure => exact HMS.out
              · have q6 : y0.cell? ⟨w.heap.size + 2, 5, none⟩ = some (.slice AR rn cR) := HY0.out.box6.cell 5
                go_simp
                refine hK.out _ _ (trivial) (fun hT => ?_)
                clear hK hS
                have hS := hT
                clear hT
                clear q6
                refine wpAnyH_ready (rs := [1, 3]) (by kernel_rfl) (by simp) ?_
                refine AllReadyH.cons rfl (fun K hK => ?_) (AllReadyH.cons rfl (fun K hK => ?_) AllReadyH.nil)
                · have q1 : y0.cell? ⟨w.heap.size + 2, 4, none⟩ = some (.slice AP k cP) := HY0.out.box6.cell 4
                  go_simp
                  refine hK.out _ _ (trivial) (fun hT => ?_)
                  clear hK hS
                  have hS := hT
                  clear hT
                  clear q1
                  refine wpAnyH_ready (rs := [3]) (by kernel_rfl) (by simp) ?_
                  refine AllReadyH.cons rfl (fun K hK => ?_) AllReadyH.nil
                  rw [if_pos (by rfl)]
                  refine wp_lit1i 59 (.tmp 58) rfl rfl nk rfl ?_
                  have HL3 := Lib.hid (At.new y0 3 #[.int .i64 nk])
                  have HY3 := Lib.hid (HY0.out.call ((Below.refl _ y0).alloc (Nat.le_refl _) (.cells #[.int .i64 nk] 3)))
                  generalize y0.alloc (.cells #[.int .i64 nk] 3) = y3 at HL3 HY3 ⊢
                  generalize y0.heap.size = gl at HL3 ⊢
                  dsimp only [Act.put]
                  simp only [List.setIfInBounds_toArray, List.set_cons_zero, List.set_cons_succ]
                  refine hK.out _ _ (trivial) (fun hT => ?_)
                  clear hK hS
                  have hS := hT
                  clear hT
                  refine wpAnyH_ready (rs := [4]) (by kernel_rfl) (by simp) ?_
                  refine AllReadyH.cons rfl (fun K hK => ?_) AllReadyH.nil
                  rw [if_pos (by rfl)]
                  refine wp_app 60 (.tmp 57) (.tmp 59) 42 rfl rfl w.heap.size 3 i1 _ 1 8 Try.underlying42 hi1 hy0 hy1 hy2 rfl (by omega) _ _ _ rfl HY3.out.nums _ 1 1 (ICs [nk]) rfl rfl (fun j u hu => by rw [add_plain, Nat.zero_add, HL3.out.cell j]; simpa [ICs] using hu) (ICs_cell _) (by rw [gPs_length]; simp only [maxLen]; omega) (by rw [gPs_length]; omega) HY3.out.below.size ?_
                  intro v60 y4 ho hg
                  obtain ⟨AP2, cP2, rfl, _, _⟩ := pl_own_slice ho
                  have HY4 := Lib.hid (HY3.out.putP ho hg)
                  clear ho hg
                  dsimp only [Act.put]
                  simp only [List.setIfInBounds_toArray, List.set_cons_zero, List.set_cons_succ]
                  refine hK.out _ _ (trivial) (fun hT => ?_)
                  clear hK hS
                  have hS := hT
                  clear hT
                  refine tkS 9 hS ?_
                  refine wpAnyH_ready (rs := [8]) (by kernel_rfl) (by simp) ?_
                  refine AllReadyH.cons rfl (fun K hK => ?_) AllReadyH.nil
                  rw [if_pos (by rfl)]
                  obtain ⟨bX, hX⟩ := HY4.out.x rfl
                  refine wp_appL 64 (.tmp 62) (.tmp 63) 40 rfl rfl w.heap.size 50 i0 _ 4 24 Try.underlying40 hi0 hx0 hx1 hx2 rfl (by omega) _ _ _ rfl HY4.out.recs _ AX (rdRecs p).length cX (rcsL (rdRecs p)) rfl (Lies.of_own hX) (rcsL_cell _) (by rw [HRN.out]; have := HXL.out; simp only [maxLen]; omega) (by rw [HRN.out]; have := HXL.out; omega) HY4.out.below.size ?_
                  intro v64 y5 ho hg
                  obtain ⟨AR2, cR2, rfl, _, _⟩ := pl_own_slice ho
                  have HY5 := Lib.hid (HY4.out.putR ho hg)
                  clear ho hg hX
                  dsimp only [Act.put]
                  simp only [List.setIfInBounds_toArray, List.set_cons_zero, List.set_cons_succ]
                  refine hK.out _ _ (trivial) (fun hT => ?_)
                  clear hK hS
                  have hS := hT
                  clear hT
                  refine wpAnyH_ready (rs := [10]) (by kernel_rfl) (by simp) ?_
                  refine AllReadyH.cons rfl (fun K hK => ?_) AllReadyH.nil
                  have q10 : y5.cell? ⟨w.heap.size + 2, 4, none⟩ = some (.slice AP k cP) := HY5.out.box6.cell 4
                  have f10 : y5.frozen? ⟨w.heap.size + 2, 4, none⟩ = false := HY5.out.box6.frozen 4
                  go_simp
                  have HY6 := Lib.hid (HY5.out.setB 4 (.slice AP2 ((gPs f first k).length + 1) cP2))
                  clear q10 f10
                  generalize y5.setCell ⟨w.heap.size + 2, 4, none⟩ (.slice AP2 ((gPs f first k).length + 1) cP2) = y6 at HY6 ⊢
                  refine hK.out _ _ (trivial) (fun hT => ?_)
                  clear hK hS
                  have hS := hT
                  clear hT
                  refine tkS 11 hS ?_
                  refine wpAnyH_ready (rs := [12]) (by kernel_rfl) (by simp) ?_
                  refine AllReadyH.cons rfl (fun K hK => ?_) AllReadyH.nil
                  have q12 : y6.cell? ⟨w.heap.size + 2, 5, none⟩ = some (.slice AR rn cR) := HY6.out.box6.cell 5
                  have f12 : y6.frozen? ⟨w.heap.size + 2, 5, none⟩ = false := HY6.out.box6.frozen 5
                  go_simp
                  have HGT : Hid (GtS w f bx first (k + 1) (.slice A8 ((gIm f first k).length + 1) c8) (y6.setCell ⟨w.heap.size + 2, 5, none⟩ (.slice AR2 ((gRs f first k).length + (rdRecs p).length) cR2))) := GtS.mk2 HNK.out HPP.out (HY6.out.setB 5 (.slice AR2 ((gRs f first k).length + (rdRecs p).length) cR2))
                  clear q12 f12
                  generalize y6.setCell ⟨w.heap.size + 2, 5, none⟩ (.slice AR2 ((gRs f first k).length + (rdRecs p).length) cR2) = y7 at HGT ⊢
                  refine hK.out _ _ (trivial) (fun hT => ?_)
                  clear hK hS
                  have hS := hT
                  clear hT
                  refine wpAnyH_done (by kernel_rfl) ?_ _
                  clear hS
                  go_wp2_with fail
                  go_round
                  case rel => exact ⟨k + 1, by omega, by rw [HNX.out], HFS, HGT⟩
                  case measure => exact HMS.out
                · rw [if_pos (by rfl)]
                  refine wp_lit1i 59 (.tmp 58) rfl rfl nk rfl ?_
                  have HL2 := Lib.hid (At.new y0 3 #[.int .i64 nk])
                  have HY2 := Lib.hid (HY0.out.call ((Below.refl _ y0).alloc (Nat.le_refl _) (.cells #[.int .i64 nk] 3)))
                  generalize y0.alloc (.cells #[.int .i64 nk] 3) = y2 at HL2 HY2 ⊢
                  generalize y0.heap.size = gl at HL2 ⊢
                  dsimp only [Act.put]
                  simp only [List.setIfInBounds_toArray, List.set_cons_zero, List.set_cons_succ]
                  refine hK.out _ _ (trivial) (fun hT => ?_)
                  clear hK hS
                  have hS := hT
                  clear hT
                  refine wpAnyH_ready (rs := [1]) (by kernel_rfl) (by simp) ?_
                  refine AllReadyH.cons rfl (fun K hK => ?_) AllReadyH.nil
                  have q1 : y2.cell? ⟨w.heap.size + 2, 4, none⟩ = some (.slice AP k cP) := HY2.out.box6.cell 4
                  go_simp
                  refine hK.out _ _ (trivial) (fun hT => ?_)
                  clear hK hS
                  have hS := hT
                  clear hT
                  clear q1
                  refine wpAnyH_ready (rs := [4]) (by kernel_rfl) (by simp) ?_
                  refine AllReadyH.cons rfl (fun K hK => ?_) AllReadyH.nil
                  rw [if_pos (by rfl)]
                  refine wp_app 60 (.tmp 57) (.tmp 59) 42 rfl rfl w.heap.size 3 i1 _ 1 8 Try.underlying42 hi1 hy0 hy1 hy2 rfl (by omega) _ _ _ rfl HY2.out.nums _ 1 1 (ICs [nk]) rfl rfl (fun j u hu => by rw [add_plain, Nat.zero_add, HL2.out.cell j]; simpa [ICs] using hu) (ICs_cell _) (by rw [gPs_length]; simp only [maxLen]; omega) (by rw [gPs_length]; omega) HY2.out.below.size ?_
                  intro v60 y4 ho hg
                  obtain ⟨AP2, cP2, rfl, _, _⟩ := pl_own_slice ho
                  have HY4 := Lib.hid (HY2.out.putP ho hg)
                  clear ho hg
                  dsimp only [Act.put]
                  simp only [List.setIfInBounds_toArray, List.set_cons_zero, List.set_cons_succ]
                  refine hK.out _ _ (trivial) (fun hT => ?_)
                  clear hK hS
                  have hS := hT
                  clear hT
                  refine tkS 9 hS ?_
                  refine wpAnyH_ready (rs := [8]) (by kernel_rfl) (by simp) ?_
                  refine AllReadyH.cons rfl (fun K hK => ?_) AllReadyH.nil
                  rw [if_pos (by rfl)]
                  obtain ⟨bX, hX⟩ := HY4.out.x rfl
                  refine wp_appL 64 (.tmp 62) (.tmp 63) 40 rfl rfl w.heap.size 50 i0 _ 4 24 Try.underlying40 hi0 hx0 hx1 hx2 rfl (by omega) _ _ _ rfl HY4.out.recs _ AX (rdRecs p).length cX (rcsL (rdRecs p)) rfl (Lies.of_own hX) (rcsL_cell _) (by rw [HRN.out]; have := HXL.out; simp only [maxLen]; omega) (by rw [HRN.out]; have := HXL.out; omega) HY4.out.below.size ?_
                  intro v64 y5 ho hg
                  obtain ⟨AR2, cR2, rfl, _, _⟩ := pl_own_slice ho
                  have HY5 := Lib.hid (HY4.out.putR ho hg)
                  clear ho hg hX
                  dsimp only [Act.put]
                  simp only [List.setIfInBounds_toArray, List.set_cons_zero, List.set_cons_succ]
                  refine hK.out _ _ (trivial) (fun hT => ?_)
                  clear hK hS
                  have hS := hT
                  clear hT
                  refine wpAnyH_ready (rs := [10]) (by kernel_rfl) (by simp) ?_
                  refine AllReadyH.cons rfl (fun K hK => ?_) AllReadyH.nil
                  have q10 : y5.cell? ⟨w.heap.size + 2, 4, none⟩ = some (.slice AP k cP) := HY5.out.box6.cell 4
                  have f10 : y5.frozen? ⟨w.heap.size + 2, 4, none⟩ = false := HY5.out.box6.frozen 4
                  go_simp
                  have HY6 := Lib.hid (HY5.out.setB 4 (.slice AP2 ((gPs f first k).length + 1) cP2))
                  clear q10 f10
                  generalize y5.setCell ⟨w.heap.size + 2, 4, none⟩ (.slice AP2 ((gPs f first k).length + 1) cP2) = y6 at HY6 ⊢
                  refine hK.out _ _ (trivial) (fun hT => ?_)
                  clear hK hS
                  have hS := hT
                  clear hT
                  refine tkS 11 hS ?_
                  refine wpAnyH_ready (rs := [12]) (by kernel_rfl) (by simp) ?_
                  refine AllReadyH.cons rfl (fun K hK => ?_) AllReadyH.nil
                  have q12 : y6.cell? ⟨w.heap.size + 2, 5, none⟩ = some (.slice AR rn cR) := HY6.out.box6.cell 5
                  have f12 : y6.frozen? ⟨w.heap.size + 2, 5, none⟩ = false := HY6.out.box6.frozen 5
                  go_simp
                  have HGT : Hid (GtS w f bx first (k + 1) (.slice A8 ((gIm f first k).length + 1) c8) (y6.setCell ⟨w.heap.size + 2, 5, none⟩ (.slice AR2 ((gRs f first k).length + (rdRecs p).length) cR2))) := GtS.mk2 HNK.out HPP.out (HY6.out.setB 5 (.slice AR2 ((gRs f first k).length + (rdRecs p).length) cR2))
                  clear q12 f12
                  generalize y6.setCell ⟨w.heap.size + 2, 5, none⟩ (.slice AR2 ((gRs f first k).length + (rdRecs p).length) cR2) = y7 at HGT ⊢
                  refine hK.out _ _ (trivial) (fun hT => ?_)
                  clear hK hS
                  have hS := hT
                  clear hT
                  refine wpAnyH_done (by kernel_rfl) ?_ _
                  clear hS
                  go_wp2_with fail
                  go_round
                  case rel => exact ⟨k + 1, by omega, by rw [HNX.out], HFS, HGT⟩
                  case measure => exact HMS.out
end Go.Proofs.Ytgjkbnplpioloaa
