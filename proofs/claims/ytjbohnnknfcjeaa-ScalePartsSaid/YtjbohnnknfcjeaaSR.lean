/-
  ScaleEnds where it runs.
  Conditions: the numbers are of 32 bits.
-/
import Derived.Test.YtjbohnnknfcjeaaSQ
namespace Go.Proofs.Ytjbohnnknfcjeaa
open Go.RowKit
attribute [local go_sem] Oper.semAt_some
set_option maxRecDepth 20000

theorem eight {cs : Array Value} (h : cs.size = 8) : ∃ v0 v1 v2 v3 v4 v5 v6 v7, cs = #[v0, v1, v2, v3, v4, v5, v6, v7] := by
  obtain ⟨l⟩ := cs
  match l, h with
  | [v0, v1, v2, v3, v4, v5, v6, v7], _ => exact ⟨v0, v1, v2, v3, v4, v5, v6, v7, rfl⟩
theorem cells8 {z : World} {g : Nat} {t : TypeId} {v0 v1 v2 v3 v4 v5 v6 v7 : Value} (h : At z g t #[v0, v1, v2, v3, v4, v5, v6, v7]) :
    z.cell? ⟨g, 0, none⟩ = some v0 ∧ z.cell? ⟨g, 1, none⟩ = some v1 ∧ z.cell? ⟨g, 2, none⟩ = some v2 ∧ z.cell? ⟨g, 3, none⟩ = some v3 ∧ z.cell? ⟨g, 4, none⟩ = some v4 ∧ z.cell? ⟨g, 5, none⟩ = some v5 ∧ z.cell? ⟨g, 6, none⟩ = some v6 ∧ z.cell? ⟨g, 7, none⟩ = some v7 :=
  ⟨h.cell 0, h.cell 1, h.cell 2, h.cell 3, h.cell 4, h.cell 5, h.cell 6, h.cell 7⟩
theorem gd_of {l : List Nat} (h : okB l = true) (hU : ∀ x ∈ l, U32 x) : Gd l := ⟨(okB_true.1 h).1, (okB_true.1 h).2, hU⟩
theorem wrap_u32 {k : Nat} (h : k < 4294967296) : IntKind.u32.wrap (k : Int) = (k : Int) := by
  rw [IntKind.wrap_u32]
  omega
set_option maxHeartbeats 25600000 in
theorem ends_any (A : Option Addr) (n0 c : Nat) (l : List Nat) (x : Nat) (i : Int) (w : World) (h : Lz (fun _ => False) w 1 A n0 (UC l)) (hU : ∀ x ∈ l, U32 x) (hx : U32 x) :
    Calls Try.prog 4 #[.slice A n0 c, .int .u32 (x : Int), .int .i64 i] w (RetB w (.bool true)) := by
  have HOF := Lib.hid (Of_any A n0 c l w h)
  have hz0 : (#[.int .i64 0, .int .u32 0, .int .u32 0, .int .u32 0, .int .u32 0, .int .u32 0, .int .u32 0, .int .u32 0] : Array Value) = zS := rfl
  clear h
  cases hok : okB l with
  | false =>
    have HV := Lib.hid (ofV_no hok)
    rw [HV.out] at HOF
    go_enter Try.func4, Try.ntmps4
    go_wp2_with fail
    refine HOF.out.mono ?_
    rintro e z ⟨rfl, hb⟩
    have HB0 := Lib.hid hb
    clear hb HOF
    go_upto_region 2 with (refine wpList_store_new 27 (.tmp 7) (.tmp 18) rfl rfl rfl z.heap.size z rfl rfl zS zS 8 rfl strS zS_size zS_size zS_one rfl ?_)
    have HB := Lib.hid (HB0.out.alloc HB0.out.size (.cells zS 27))
    generalize z.alloc (.cells zS 27) = z1 at HB ⊢
    go_wp2_with (go_at_call 7; refine (works_from _ HB.out).mono ?_; rintro e z ⟨rfl, hb⟩)
    go_ret
    exact ⟨rfl, hb⟩
  | true =>
    have HG := Lib.hid (gd_of hok hU)
    rw [ofV_yes hok] at HOF
    obtain ⟨n, hn⟩ : ∃ n, l.length = n := ⟨_, rfl⟩
    have HN := Lib.hid hn
    have hn7 : n ≤ 7 := by have := HG.out.len; omega
    have hs8 := scA_size HG.out.len
    have h1 := scA_one l
    obtain ⟨v0, v1, v2, v3, v4, v5, v6, v7, hv⟩ := eight hs8
    obtain ⟨n1, hn1⟩ : ∃ n1, n + 1 = n1 := ⟨_, rfl⟩
    have HLEN := Lib.hid (fun W => sLen_any l HG.out.len W)
    have HAT := Lib.hid (fun W y => sAt_any l HG.out y W)
    have HENS := Lib.hid (fun (k : Nat) (hk : k ≤ l.length) W => sEnds_any l HG.out k hk W)
    have HENO := Lib.hid (fun (i : Int) (hi : i < 0 ∨ (l.length : Int) < i) W => sEnds_no l i hi W)
    rw [hv] at HOF HLEN HAT HENS HENO h1
    rw [hn, hn1] at HLEN
    have en1 : (n1 : Int) - 1 = (n : Int) := by omega
    have wn := wrap_nat (k := n) (by omega)
    have H1 := Lib.hid h1
    clear hn hs8 hv h1 hok
    go_enter Try.func4, Try.ntmps4
    go_wp2_with fail
    refine HOF.out.mono ?_
    rintro e z ⟨rfl, hb⟩
    have HB0 := Lib.hid hb
    clear hb HOF
    go_upto_region 2 with (refine wpList_store_new 27 (.tmp 7) (.tmp 18) rfl rfl rfl z.heap.size z rfl rfl #[v0, v1, v2, v3, v4, v5, v6, v7] zS 8 rfl strS rfl zS_size H1.out rfl ?_)
    have HB := Lib.hid (HB0.out.alloc HB0.out.size (.cells #[v0, v1, v2, v3, v4, v5, v6, v7] 27))
    have HA : Hid (At (z.alloc (.cells #[v0, v1, v2, v3, v4, v5, v6, v7] 27)) z.heap.size 27 #[v0, v1, v2, v3, v4, v5, v6, v7]) := At.new z _ _
    generalize z.alloc (.cells #[v0, v1, v2, v3, v4, v5, v6, v7] 27) = z1 at HB HA ⊢
    generalize z.heap.size = g at HA ⊢
    clear HB0 hz0
    go_wp2_with fail
    go_loopw [6, 9, 10, 11, 12] (fun v6' vw vk vl vh wr => ∃ (k a : Nat), k ≤ n1 ∧ v6' = .bool false ∧ vw = .int .u32 (a : Int) ∧ vk = .int .i64 (k : Int) ∧ (Hid (leastN l k = a) ∨ k = n1) ∧ Hid (At wr g 27 #[v0, v1, v2, v3, v4, v5, v6, v7]) ∧ Hid (Below w.heap.size w wr)) (fun _ _ k _ _ _ => n1 + 1 - (intOf k).toNat)
    case atStart => exact ⟨0, 0, Nat.zero_le _, rfl, rfl, by go_num, .inl (Lib.hid rfl), HA, HB⟩
    case round =>
      clear HA HB
      obtain ⟨k, a, hk, rfl, rfl, rfl, HAA, HA, HB⟩ := hrel
      obtain ⟨p0, p1, p2, p3, p4, p5, p6, p7⟩ := cells8 HA.out
      by_cases hlt : k < n1
      · have hkl : k ≤ l.length := by rw [HN.out]; omega
        have ha : leastN l k = a := by
          rcases HAA with h | h
          · exact h.out
          · omega
        obtain ⟨b, hbm⟩ : ∃ b, mostN l k = b := ⟨_, rfl⟩
        have HBB := Lib.hid hbm
        have HEN := Lib.hid (fun W => HENS.out k hkl W)
        rw [ha, hbm] at HEN
        have hlm := least_most HG.out hkl
        have hex := ends_at HG.out hkl hx
        have hlo := (ends_at HG.out hkl hlm.2.1).1 ⟨Nat.le_refl _, hlm.1⟩
        have hhi := (ends_at HG.out hkl hlm.2.2).1 ⟨hlm.1, Nat.le_refl _⟩
        rw [ha, hbm] at hlm hex
        rw [ha] at hlo
        rw [hbm] at hhi
        have d0 : decide ((b : Int) < (a : Int)) = false := decide_eq_false (by omega)
        have d0n : decide (b < a) = false := decide_eq_false (by omega)
        have eaa : ((a : Int) != (a : Int)) = false := by rw [nat_bne]; simp
        clear ha hbm hlm
        by_cases hc1 : a ≤ x
        · by_cases hc2 : x ≤ b
          ·
            have d1 : decide ((a : Int) ≤ (x : Int)) = true := by simpa using hc1
            have d1n : decide (a ≤ x) = true := by simpa using hc1
            have d2 : decide ((x : Int) ≤ (b : Int)) = true := by simpa using hc2
            have d2n : decide (x ≤ b) = true := by simpa using hc2
            have hax0 : atN l x = k := hex.1 ⟨hc1, hc2⟩
            have d3 : ((atN l x : Int) == (k : Int)) = true := by rw [nat_beq]; simpa using hax0
            clear hc1 hax0 hex hc2
            obtain ⟨ax, hax⟩ : ∃ ax, atN l x = ax := ⟨_, rfl⟩
            rw [hax] at d3
            by_cases hkn : k = n
            · have e1 : ((k : Int) == (n : Int)) = true := by rw [hkn]; exact beq_self_eq_true _
              have hb4 : b = 4294967295 := by rw [← HBB.out, hkn, ← HN.out]; exact most_last l
              have eb : ((b : Int) != 4294967295) = false := by rw [hb4]; rfl
              clear hb4
              have HKN := Lib.hid hkn
              clear hkn
              go_wp2_with (first | (go_at_call 15; refine (HAT.out _ _).mono ?_; rintro e z ⟨rfl, hb⟩; replace HB := Lib.hid (HB.out.trans (hb.mono HB.out.size)); replace HA := Lib.hid (HA.out.under hb HA.out.lt); clear hb p0 p1 p2 p3 p4 p5 p6 p7; obtain ⟨p0, p1, p2, p3, p4, p5, p6, p7⟩ := cells8 HA.out) | (go_at_call 10; refine (HLEN.out _).mono ?_; rintro e z ⟨rfl, hb⟩; replace HB := Lib.hid (HB.out.trans (hb.mono HB.out.size)); replace HA := Lib.hid (HA.out.under hb HA.out.lt); clear hb p0 p1 p2 p3 p4 p5 p6 p7; obtain ⟨p0, p1, p2, p3, p4, p5, p6, p7⟩ := cells8 HA.out) | (go_at_call 17; refine (HEN.out _).mono ?_; rintro e z ⟨rfl, hb⟩; replace HB := Lib.hid (HB.out.trans (hb.mono HB.out.size)); replace HA := Lib.hid (HA.out.under hb HA.out.lt); clear hb p0 p1 p2 p3 p4 p5 p6 p7; obtain ⟨p0, p1, p2, p3, p4, p5, p6, p7⟩ := cells8 HA.out))
              exact ⟨⟨k + 1, a, by omega, rfl, rfl, by go_num, .inr (by have := HKN.out; omega), HA, HB⟩, by simp [intOf]; omega⟩
            · have e1 : ((k : Int) == (n : Int)) = false := by rw [nat_beq]; simpa using hkn
              have hkl2 : k < l.length := by rw [HN.out]; omega
              have hmn := most_next HG.out.asc hkl2
              rw [HBB.out] at hmn
              obtain ⟨a2, ha2⟩ : ∃ a2, leastN l (k + 1) = a2 := ⟨_, rfl⟩
              have hu2 := (least_most HG.out (k := k + 1) (by omega)).2.1
              rw [ha2] at hmn hu2
              have ew : (b : Int) + 1 = (a2 : Int) := by omega
              have ww := wrap_u32 (k := a2) hu2
              have HA2 := Lib.hid ha2
              clear ha2 hmn hu2 hkl2 hkn
              go_wp2_with (first | (go_at_call 15; refine (HAT.out _ _).mono ?_; rintro e z ⟨rfl, hb⟩; replace HB := Lib.hid (HB.out.trans (hb.mono HB.out.size)); replace HA := Lib.hid (HA.out.under hb HA.out.lt); clear hb p0 p1 p2 p3 p4 p5 p6 p7; obtain ⟨p0, p1, p2, p3, p4, p5, p6, p7⟩ := cells8 HA.out) | (go_at_call 10; refine (HLEN.out _).mono ?_; rintro e z ⟨rfl, hb⟩; replace HB := Lib.hid (HB.out.trans (hb.mono HB.out.size)); replace HA := Lib.hid (HA.out.under hb HA.out.lt); clear hb p0 p1 p2 p3 p4 p5 p6 p7; obtain ⟨p0, p1, p2, p3, p4, p5, p6, p7⟩ := cells8 HA.out) | (go_at_call 17; refine (HEN.out _).mono ?_; rintro e z ⟨rfl, hb⟩; replace HB := Lib.hid (HB.out.trans (hb.mono HB.out.size)); replace HA := Lib.hid (HA.out.under hb HA.out.lt); clear hb p0 p1 p2 p3 p4 p5 p6 p7; obtain ⟨p0, p1, p2, p3, p4, p5, p6, p7⟩ := cells8 HA.out))
              exact ⟨⟨k + 1, a2, by omega, rfl, rfl, by go_num, .inl HA2, HA, HB⟩, by simp [intOf]; omega⟩
          ·
            have d1 : decide ((a : Int) ≤ (x : Int)) = true := by simpa using hc1
            have d1n : decide (a ≤ x) = true := by simpa using hc1
            have d2 : decide ((x : Int) ≤ (b : Int)) = false := by simpa using hc2
            have d2n : decide (x ≤ b) = false := by simpa using hc2
            have hax0 : atN l x ≠ k := fun h => hc2 (hex.2 h).2
            have d3 : ((atN l x : Int) == (k : Int)) = false := by rw [nat_beq]; simpa using hax0
            clear hc1 hax0 hex hc2
            obtain ⟨ax, hax⟩ : ∃ ax, atN l x = ax := ⟨_, rfl⟩
            rw [hax] at d3
            by_cases hkn : k = n
            · have e1 : ((k : Int) == (n : Int)) = true := by rw [hkn]; exact beq_self_eq_true _
              have hb4 : b = 4294967295 := by rw [← HBB.out, hkn, ← HN.out]; exact most_last l
              have eb : ((b : Int) != 4294967295) = false := by rw [hb4]; rfl
              clear hb4
              have HKN := Lib.hid hkn
              clear hkn
              go_wp2_with (first | (go_at_call 15; refine (HAT.out _ _).mono ?_; rintro e z ⟨rfl, hb⟩; replace HB := Lib.hid (HB.out.trans (hb.mono HB.out.size)); replace HA := Lib.hid (HA.out.under hb HA.out.lt); clear hb p0 p1 p2 p3 p4 p5 p6 p7; obtain ⟨p0, p1, p2, p3, p4, p5, p6, p7⟩ := cells8 HA.out) | (go_at_call 10; refine (HLEN.out _).mono ?_; rintro e z ⟨rfl, hb⟩; replace HB := Lib.hid (HB.out.trans (hb.mono HB.out.size)); replace HA := Lib.hid (HA.out.under hb HA.out.lt); clear hb p0 p1 p2 p3 p4 p5 p6 p7; obtain ⟨p0, p1, p2, p3, p4, p5, p6, p7⟩ := cells8 HA.out) | (go_at_call 17; refine (HEN.out _).mono ?_; rintro e z ⟨rfl, hb⟩; replace HB := Lib.hid (HB.out.trans (hb.mono HB.out.size)); replace HA := Lib.hid (HA.out.under hb HA.out.lt); clear hb p0 p1 p2 p3 p4 p5 p6 p7; obtain ⟨p0, p1, p2, p3, p4, p5, p6, p7⟩ := cells8 HA.out))
              exact ⟨⟨k + 1, a, by omega, rfl, rfl, by go_num, .inr (by have := HKN.out; omega), HA, HB⟩, by simp [intOf]; omega⟩
            · have e1 : ((k : Int) == (n : Int)) = false := by rw [nat_beq]; simpa using hkn
              have hkl2 : k < l.length := by rw [HN.out]; omega
              have hmn := most_next HG.out.asc hkl2
              rw [HBB.out] at hmn
              obtain ⟨a2, ha2⟩ : ∃ a2, leastN l (k + 1) = a2 := ⟨_, rfl⟩
              have hu2 := (least_most HG.out (k := k + 1) (by omega)).2.1
              rw [ha2] at hmn hu2
              have ew : (b : Int) + 1 = (a2 : Int) := by omega
              have ww := wrap_u32 (k := a2) hu2
              have HA2 := Lib.hid ha2
              clear ha2 hmn hu2 hkl2 hkn
              go_wp2_with (first | (go_at_call 15; refine (HAT.out _ _).mono ?_; rintro e z ⟨rfl, hb⟩; replace HB := Lib.hid (HB.out.trans (hb.mono HB.out.size)); replace HA := Lib.hid (HA.out.under hb HA.out.lt); clear hb p0 p1 p2 p3 p4 p5 p6 p7; obtain ⟨p0, p1, p2, p3, p4, p5, p6, p7⟩ := cells8 HA.out) | (go_at_call 10; refine (HLEN.out _).mono ?_; rintro e z ⟨rfl, hb⟩; replace HB := Lib.hid (HB.out.trans (hb.mono HB.out.size)); replace HA := Lib.hid (HA.out.under hb HA.out.lt); clear hb p0 p1 p2 p3 p4 p5 p6 p7; obtain ⟨p0, p1, p2, p3, p4, p5, p6, p7⟩ := cells8 HA.out) | (go_at_call 17; refine (HEN.out _).mono ?_; rintro e z ⟨rfl, hb⟩; replace HB := Lib.hid (HB.out.trans (hb.mono HB.out.size)); replace HA := Lib.hid (HA.out.under hb HA.out.lt); clear hb p0 p1 p2 p3 p4 p5 p6 p7; obtain ⟨p0, p1, p2, p3, p4, p5, p6, p7⟩ := cells8 HA.out))
              exact ⟨⟨k + 1, a2, by omega, rfl, rfl, by go_num, .inl HA2, HA, HB⟩, by simp [intOf]; omega⟩
        ·
          have d1 : decide ((a : Int) ≤ (x : Int)) = false := by simpa using hc1
          have d1n : decide (a ≤ x) = false := by simpa using hc1
          have hax0 : atN l x ≠ k := fun h => hc1 (hex.2 h).1
          have d3 : ((atN l x : Int) == (k : Int)) = false := by rw [nat_beq]; simpa using hax0
          clear hc1 hax0 hex
          obtain ⟨ax, hax⟩ : ∃ ax, atN l x = ax := ⟨_, rfl⟩
          rw [hax] at d3
          by_cases hkn : k = n
          · have e1 : ((k : Int) == (n : Int)) = true := by rw [hkn]; exact beq_self_eq_true _
            have hb4 : b = 4294967295 := by rw [← HBB.out, hkn, ← HN.out]; exact most_last l
            have eb : ((b : Int) != 4294967295) = false := by rw [hb4]; rfl
            clear hb4
            have HKN := Lib.hid hkn
            clear hkn
            go_wp2_with (first | (go_at_call 15; refine (HAT.out _ _).mono ?_; rintro e z ⟨rfl, hb⟩; replace HB := Lib.hid (HB.out.trans (hb.mono HB.out.size)); replace HA := Lib.hid (HA.out.under hb HA.out.lt); clear hb p0 p1 p2 p3 p4 p5 p6 p7; obtain ⟨p0, p1, p2, p3, p4, p5, p6, p7⟩ := cells8 HA.out) | (go_at_call 10; refine (HLEN.out _).mono ?_; rintro e z ⟨rfl, hb⟩; replace HB := Lib.hid (HB.out.trans (hb.mono HB.out.size)); replace HA := Lib.hid (HA.out.under hb HA.out.lt); clear hb p0 p1 p2 p3 p4 p5 p6 p7; obtain ⟨p0, p1, p2, p3, p4, p5, p6, p7⟩ := cells8 HA.out) | (go_at_call 17; refine (HEN.out _).mono ?_; rintro e z ⟨rfl, hb⟩; replace HB := Lib.hid (HB.out.trans (hb.mono HB.out.size)); replace HA := Lib.hid (HA.out.under hb HA.out.lt); clear hb p0 p1 p2 p3 p4 p5 p6 p7; obtain ⟨p0, p1, p2, p3, p4, p5, p6, p7⟩ := cells8 HA.out))
            exact ⟨⟨k + 1, a, by omega, rfl, rfl, by go_num, .inr (by have := HKN.out; omega), HA, HB⟩, by simp [intOf]; omega⟩
          · have e1 : ((k : Int) == (n : Int)) = false := by rw [nat_beq]; simpa using hkn
            have hkl2 : k < l.length := by rw [HN.out]; omega
            have hmn := most_next HG.out.asc hkl2
            rw [HBB.out] at hmn
            obtain ⟨a2, ha2⟩ : ∃ a2, leastN l (k + 1) = a2 := ⟨_, rfl⟩
            have hu2 := (least_most HG.out (k := k + 1) (by omega)).2.1
            rw [ha2] at hmn hu2
            have ew : (b : Int) + 1 = (a2 : Int) := by omega
            have ww := wrap_u32 (k := a2) hu2
            have HA2 := Lib.hid ha2
            clear ha2 hmn hu2 hkl2 hkn
            go_wp2_with (first | (go_at_call 15; refine (HAT.out _ _).mono ?_; rintro e z ⟨rfl, hb⟩; replace HB := Lib.hid (HB.out.trans (hb.mono HB.out.size)); replace HA := Lib.hid (HA.out.under hb HA.out.lt); clear hb p0 p1 p2 p3 p4 p5 p6 p7; obtain ⟨p0, p1, p2, p3, p4, p5, p6, p7⟩ := cells8 HA.out) | (go_at_call 10; refine (HLEN.out _).mono ?_; rintro e z ⟨rfl, hb⟩; replace HB := Lib.hid (HB.out.trans (hb.mono HB.out.size)); replace HA := Lib.hid (HA.out.under hb HA.out.lt); clear hb p0 p1 p2 p3 p4 p5 p6 p7; obtain ⟨p0, p1, p2, p3, p4, p5, p6, p7⟩ := cells8 HA.out) | (go_at_call 17; refine (HEN.out _).mono ?_; rintro e z ⟨rfl, hb⟩; replace HB := Lib.hid (HB.out.trans (hb.mono HB.out.size)); replace HA := Lib.hid (HA.out.under hb HA.out.lt); clear hb p0 p1 p2 p3 p4 p5 p6 p7; obtain ⟨p0, p1, p2, p3, p4, p5, p6, p7⟩ := cells8 HA.out))
            exact ⟨⟨k + 1, a2, by omega, rfl, rfl, by go_num, .inl HA2, HA, HB⟩, by simp [intOf]; omega⟩
      · obtain rfl : k = n1 := by omega
        clear HAA
        by_cases hin : 0 ≤ i ∧ i ≤ (n : Int)
        · obtain ⟨j, rfl⟩ : ∃ j : Nat, i = (j : Int) := ⟨i.toNat, by omega⟩
          have hjl : j ≤ l.length := by rw [HN.out]; omega
          have HEN := Lib.hid (fun W => HENS.out j hjl W)
          have hlm := (least_most HG.out hjl).1
          obtain ⟨a3, ha3⟩ : ∃ a3, leastN l j = a3 := ⟨_, rfl⟩
          obtain ⟨b3, hb3⟩ : ∃ b3, mostN l j = b3 := ⟨_, rfl⟩
          rw [ha3, hb3] at HEN hlm
          have d0 : decide ((b3 : Int) < (a3 : Int)) = false := decide_eq_false (by omega)
          have d0n : decide (b3 < a3) = false := decide_eq_false (by omega)
          have d1 : decide ((j : Int) < 0) = false := decide_eq_false (by omega)
          have d2 : decide ((k : Int) ≤ (j : Int)) = false := decide_eq_false (by omega)
          have d2n : decide (k ≤ j) = false := decide_eq_false (by omega)
          clear ha3 hb3 hlm hin hlt
          go_wp2_with (first | (go_at_call 10; refine (HLEN.out _).mono ?_; rintro e z ⟨rfl, hb⟩; replace HB := Lib.hid (HB.out.trans (hb.mono HB.out.size)); replace HA := Lib.hid (HA.out.under hb HA.out.lt); clear hb p0 p1 p2 p3 p4 p5 p6 p7; obtain ⟨p0, p1, p2, p3, p4, p5, p6, p7⟩ := cells8 HA.out) | (go_at_call 17; refine (HEN.out _).mono ?_; rintro e z ⟨rfl, hb⟩; replace HB := Lib.hid (HB.out.trans (hb.mono HB.out.size)); replace HA := Lib.hid (HA.out.under hb HA.out.lt); clear hb p0 p1 p2 p3 p4 p5 p6 p7; obtain ⟨p0, p1, p2, p3, p4, p5, p6, p7⟩ := cells8 HA.out) | (go_at_call 7; refine (works_from _ HB.out).mono ?_; rintro e z ⟨rfl, hb⟩))
          go_ret
          exact ⟨rfl, hb⟩
        · have HEN := Lib.hid (fun W => HENO.out i (by rw [HN.out]; omega) W)
          by_cases hi0 : i < 0
          · have d1 : decide (i < 0) = true := decide_eq_true hi0
            clear hin hlt hi0
            go_wp2_with (first | (go_at_call 10; refine (HLEN.out _).mono ?_; rintro e z ⟨rfl, hb⟩; replace HB := Lib.hid (HB.out.trans (hb.mono HB.out.size)); replace HA := Lib.hid (HA.out.under hb HA.out.lt); clear hb p0 p1 p2 p3 p4 p5 p6 p7; obtain ⟨p0, p1, p2, p3, p4, p5, p6, p7⟩ := cells8 HA.out) | (go_at_call 17; refine (HEN.out _).mono ?_; rintro e z ⟨rfl, hb⟩; replace HB := Lib.hid (HB.out.trans (hb.mono HB.out.size)); replace HA := Lib.hid (HA.out.under hb HA.out.lt); clear hb p0 p1 p2 p3 p4 p5 p6 p7; obtain ⟨p0, p1, p2, p3, p4, p5, p6, p7⟩ := cells8 HA.out) | (go_at_call 7; refine (works_from _ HB.out).mono ?_; rintro e z ⟨rfl, hb⟩))
            go_ret
            exact ⟨rfl, hb⟩
          · have d1 : decide (i < 0) = false := decide_eq_false hi0
            have d2 : decide ((k : Int) ≤ i) = true := decide_eq_true (by omega)
            clear hin hlt hi0
            go_wp2_with (first | (go_at_call 10; refine (HLEN.out _).mono ?_; rintro e z ⟨rfl, hb⟩; replace HB := Lib.hid (HB.out.trans (hb.mono HB.out.size)); replace HA := Lib.hid (HA.out.under hb HA.out.lt); clear hb p0 p1 p2 p3 p4 p5 p6 p7; obtain ⟨p0, p1, p2, p3, p4, p5, p6, p7⟩ := cells8 HA.out) | (go_at_call 17; refine (HEN.out _).mono ?_; rintro e z ⟨rfl, hb⟩; replace HB := Lib.hid (HB.out.trans (hb.mono HB.out.size)); replace HA := Lib.hid (HA.out.under hb HA.out.lt); clear hb p0 p1 p2 p3 p4 p5 p6 p7; obtain ⟨p0, p1, p2, p3, p4, p5, p6, p7⟩ := cells8 HA.out) | (go_at_call 7; refine (works_from _ HB.out).mono ?_; rintro e z ⟨rfl, hb⟩))
            go_ret
            exact ⟨rfl, hb⟩
/-- The law as the frame wants it. -/
theorem ends_law (A : Option Addr) (n c : Nat) (z : List Int) (x i : Int) (w : World) (h : IsRow .u32 w A n c z) (hx : (Lit.int .u32 x).wf = true) :
    Calls Try.prog 4 #[.slice A n c, .int .u32 x, .int .i64 i] w fun e w' => e = .returned (.bool true) ∧ Below w.heap.size w w' := by
  obtain ⟨L, hL, hU⟩ := nums_of_row h
  obtain ⟨y, rfl, hy⟩ := nat_of_wf hx
  exact ends_any A n c L y i w hL hU hy
end Go.Proofs.Ytjbohnnknfcjeaa
