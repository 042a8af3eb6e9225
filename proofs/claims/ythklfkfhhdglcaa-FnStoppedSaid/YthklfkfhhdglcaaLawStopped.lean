/-
  The best step has a loss which no other one is less than, and losses are stopped at the first one behind which so many have not become less. Conditions: none.
-/
import Derived.Test.YthklfkfhhdglcaaStic
import Derived.ChangeOld
import Derived.Below
namespace Go.Proofs.Ythklfkfhhdglcaa.fnStopped
open Go.ChangeShapes Go.WideShapes Go.ChangeAt Go.RowKit
open Go.ChangeMaps (open_string shut_string)
set_option linter.unusedVariables false

def NumRel (z : List Nat) (n : Nat) (W : World) (s i : Value) (wr : World) : Prop := ∃ k m : Nat, k ≤ n ∧ i = .int .i64 k ∧ s = .bool (someNum (fun j => z.getD j 0) k) ∧ wr = W.drewN m
def BestRel (n : Nat) (W : World) (i : Value) (wr : World) : Prop := ∃ k m : Nat, k ≤ n ∧ i = .int .i64 k ∧ wr = W.drewN m
def StopL (z : List Nat) (p N : Nat) (Z : Option Nat) (W : World) (iv : Value) (wr : World) : Prop :=
  ∃ a m : Nat, a ≤ N ∧ iv = .int .i64 ((p : Int) + (a : Int)) ∧ stopF (fun j => z.getD j 0) p (N - a) (a + 1) = Z ∧ wr = W.drewN m
def FreshL (z : List Nat) (p a : Nat) (W : World) (fv kv : Value) (wr : World) : Prop :=
  ∃ d m : Nat, d ≤ p ∧ kv = .int .i64 ((a : Int) + 1 + (d : Int)) ∧ fv = .bool (freshUp (fun j => z.getD j 0) (a + 1) d) ∧ wr = W.drewN m
def LessL (z : List Nat) (a x : Nat) (W : World) (lv jv : Value) (wr : World) : Prop :=
  ∃ j m : Nat, j ≤ a + 1 ∧ jv = .int .i64 j ∧ lv = .bool (lessAll (fun j => z.getD j 0) x j) ∧ wr = W.drewN m
def ListRel (n : Nat) (W : World) (v : Value) (wx : World) : Prop := ∃ (a : Option Addr) (c : Nat) (zs : List Nat), v = .slice a n c ∧ zs.length = n ∧ IsFloats .f32 wx a n c zs ∧ Below W.heap.size W wx
def endBest : Option Nat → Int
  | none => 0
  | some b => b
theorem endB_1 (o : Option Nat) : (endB o).1 = endBest o := by cases o <;> rfl
theorem endB_2 (o : Option Nat) : (endB o).2 = o.isSome := by cases o <;> rfl

set_option maxRecDepth 20000 in
set_option maxHeartbeats 4000000 in
theorem walk (a0 : Option Addr) (len0 cap0 : Nat) (z0 : List Int) (a1 : Option Addr) (len1 cap1 : Nat) (z1 : List Int) (w : World) (w0 : IsRow .u8 w a0 len0 cap0 z0) (w1 : IsRow .u8 w a1 len1 cap1 z1) :
    Calls Try.prog 4 #[.slice a0 len0 cap0, .slice a1 len1 cap1] w fun e w' => e = .returned (.bool true) ∧ Below w.heap.size w w' := by
  obtain ⟨hm0, hm1, rfl⟩ : len0 ≤ cap0 ∧ cap0 ≤ maxLen ∧ z0.length = len0 := ⟨w0.1, w0.2.1, w0.2.2.1⟩
  obtain ⟨hn0, hn1, rfl⟩ : len1 ≤ cap1 ∧ cap1 ≤ maxLen ∧ z1.length = len1 := ⟨w1.1, w1.2.1, w1.2.2.1⟩
  have HI0 := Lib.hid w0
  have HI1 := Lib.hid w1
  clear hm0 hm1 hn0 hn1 w0 w1
  by_cases hL : 1048576 < z0.length ∨ 1048576 < z1.length
  · have HL := Lib.hid hL
    clear hL
    go_enter Try.func4, Try.ntmps4
    go_wp2_with fail
    refine (c_b10Long_yes _ _ _ _ _ _ HL.out _).mono ?_
    rintro e w' ⟨rfl, rfl⟩
    go_wp2_with fail
    go_ret
    exact ⟨rfl, Below.refl _ _⟩
  · have HL0 := Lib.hid (show z0.length ≤ 1048576 by omega)
    have HL1 := Lib.hid (show z1.length ≤ 1048576 by omega)
    clear hL
    go_enter Try.func4, Try.ntmps4
    go_wp2_with fail
    refine (c_b10Long_no _ _ _ _ _ _ HL0.out HL1.out _).mono ?_
    rintro e w' ⟨rfl, rfl⟩
    go_wp2_with fail
    refine (c_b10At _ _ _ z0 0 12 _ HI0.out (by decide) (by decide) (by decide)).mono ?_
    rintro e w3 ⟨v0, p0, p1, rfl, rfl⟩
    obtain ⟨n', rfl⟩ := Int.eq_ofNat_of_zero_le p0
    have hn' : n' ≤ 11 := by omega
    clear p0 p1
    obtain ⟨n, hn⟩ : ∃ n, 1 + n' = n := ⟨_, rfl⟩
    have hn2 : (1 : Int) + (n' : Int) = (n : Int) := by omega
    have n1 : 1 ≤ n := by omega
    have n12 : n ≤ 12 := by omega
    have hn1I : (1 : Int) ≤ (n : Int) := by omega
    clear hn
    go_wp2_with fail
    refine (c_B10Whole n (by omega) _ _ _ z0 _ HI0.out HL0.out).mono ?_
    rintro e w2 ⟨la, lc, zs, hz, rfl, ho, hb, _⟩
    have HZ := Lib.hid hz
    have HLI := Lib.hid ho.isFloats
    have HB := Lib.hid hb
    rw [hz]
    clear hz ho hb
    have HI0' := Lib.hid (HI0.out.kept HB.out)
    have HI1' := Lib.hid (HI1.out.kept HB.out)
    go_wp2_with fail
    refine (c_b10At _ _ _ z1 0 3 _ HI1'.out (by decide) (by decide) (by decide)).mono ?_
    rintro e w3 ⟨v1, p0, p1, rfl, rfl⟩
    go_upto_if 31 with fail
    go_cut [6] (fun v wx => ListRel n w v wx)
    case first =>
      by_cases hv : v1 = 0
      · have hvb : (v1 == 0) = true := by simp [hv]
        go_wp2_with fail
        refine (c_B10Numbers n (by omega) _ _ _ z0 _ HI0'.out HL0.out).mono ?_
        rintro e w5 ⟨lb, lbc, zb, hzb, rfl, hob, hbb⟩
        rw [hzb]
        have HLB := Lib.hid hob.isFloats
        have HBB := Lib.hid (Below.next HB.out hbb)
        have HZB := Lib.hid hzb
        clear hob hbb hzb
        go_wp2_with fail
        go_meet
        exact ⟨lb, lbc, zb, rfl, HZB.out, by have := HLB.out; rw [HZB.out] at this; exact this, HBB.out⟩
      · have hvb : (v1 == 0) = false := by simp [hv]
        go_wp2_with fail
        go_meet
        exact ⟨la, lc, zs, rfl, HZ.out, by have := HLI.out; rw [HZ.out] at this; exact this, HB.out⟩
    case rest =>
    obtain ⟨xa, xc, xs, rfl, hxl, hxf, hxb⟩ := hcut
    have HXL := Lib.hid hxl
    have HXF := Lib.hid hxf
    have HXB := Lib.hid hxb
    clear hxl hxf hxb HLI HB HI0' HI1' HZ p0 p1
    go_wp2_with fail
    refine (c_b10At _ _ _ z1 1 4 _ (HI1.out.kept HXB.out) (by decide) (by decide) (by decide)).mono ?_
    rintro e w3 ⟨v2, p0, p1, rfl, hwc⟩
    subst hwc
    obtain ⟨p', rfl⟩ := Int.eq_ofNat_of_zero_le p0
    have hp' : p' ≤ 3 := by omega
    clear p0 p1
    obtain ⟨p, hp⟩ : ∃ n, 1 + p' = n := ⟨_, rfl⟩
    have hp2 : (1 : Int) + (p' : Int) = (p : Int) := by omega
    have pp1 : 1 ≤ p := by omega
    have pp4 : p ≤ 4 := by omega
    have hpI : (1 : Int) ≤ (p : Int) := by omega
    have hpI4 : (p : Int) ≤ 4 := by omega
    clear hp
    have hx256 : xs.length ≤ 256 := by rw [HXL.out]; omega
    have HCB := Lib.hid (fun w h => c_iBestC xs xa xc w h)
    rw [vBestStep_few hx256] at HCB
    have HCS := Lib.hid (fun w h => c_iStopC xs (p : Int) xa xc w h)
    rw [vStopAt_yes (by simp [okStop, hx256]; omega)] at HCS
    simp only [endB_1, endB_2] at HCB HCS
    rw [HXL.out] at HCB HCS
    have HSB := Lib.hid (someNum_best (fun j => xs.getD j 0) n)
    have hxlt : ∀ j, xs.getD j 0 < 4294967296 := fun j => by
      by_cases h : j < xs.length
      · exact HXF.out.2.2.2.1 _ (by simp [List.getD, h])
      · simp [List.getD, h]
    have HBS := Lib.hid (fun b h => bestF_some (f := fun j => xs.getD j 0) hxlt (k := n) (b := b) h)
    have HBL := Lib.hid (fun b h => bestF_lt (f := fun j => xs.getD j 0) (k := n) (b := b) h)
    obtain ⟨B, hB⟩ : ∃ B, bestF (fun j => xs.getD j 0) n = B := ⟨_, rfl⟩
    obtain ⟨N, hN⟩ : ∃ N, n - p = N := ⟨_, rfl⟩
    have HN := Lib.hid hN
    obtain ⟨Z, hZ⟩ : ∃ Z, stopF (fun j => xs.getD j 0) p (n - p) 1 = Z := ⟨_, rfl⟩
    have HZ := Lib.hid hZ
    rw [hB] at HCB HSB
    simp only [hB] at HBS HBL
    rw [hZ] at HCS
    rw [hN] at HZ
    clear hx256 hxlt hB hN hZ
    obtain ⟨w5, hw5⟩ : ∃ x : World, x = wc := ⟨_, rfl⟩
    subst hw5
    go_wp2_with fail
    refine (HCB.out _ HXF.out).mono ?_
    rintro e w6 ⟨rfl, hb⟩
    have HXB6 := Lib.hid (Below.next HXB.out hb)
    have HXF6 := Lib.hid (HXF.out.kept hb)
    clear hb HXB HXF
    go_wp2_with fail
    refine (HCS.out _ HXF6.out).mono ?_
    rintro e w7 ⟨rfl, hb⟩
    have HXB7 := Lib.hid (Below.next HXB6.out hb)
    have HXF7 := Lib.hid (HXF6.out.kept hb)
    clear hb HXB6 HXF6
    rcases HXF7.out.2.2.2.2 with h0 | ⟨b0, off, rfl, hb0, hcc⟩
    · omega
    have HCC := Lib.hid hcc
    clear hcc hb0
    go_wp2_with fail
    go_loopw [12, 13] (fun s i wr => NumRel xs n w7 s i wr) (fun _ i _ => n - (intOf i).toNat)
    case atStart => exact ⟨0, 0, Nat.zero_le _, rfl, rfl, rfl⟩
    case round =>
      obtain ⟨k, m, hk, rfl, rfl, rfl⟩ := hrel
      have hk0 : (0 : Int) ≤ (k : Int) := by omega
      by_cases hlt : k < n
      · have hlt' : (k : Int) < (n : Int) := by omega
        have c1 := HCC.out k hlt
        have hq := eq_self (xs.getD k 0)
        have HS1 := Lib.hid (someNum_succ (fun j => xs.getD j 0) k)
        obtain ⟨x, hx⟩ : ∃ x, xs.getD k 0 = x := ⟨_, rfl⟩
        rw [hx] at c1 hq
        have HXX := Lib.hid hx
        clear hx
        cases hs : someNum (fun j => xs.getD j 0) k with
        | true =>
          have HS2 := Lib.hid (show someNum (fun j => xs.getD j 0) (k + 1) = true by rw [HS1.out, hs]; rfl)
          clear hs
          go_wp2_with fail
          go_quiet (fail)
          go_wp2_with fail
          go_roundw
          case rel => exact ⟨k + 1, _, hlt, by go_num, by rw [HS2.out], rfl⟩
          case measure => simp [intOf]; omega
        | false =>
          have HS2 := Lib.hid (show someNum (fun j => xs.getD j 0) (k + 1) = !isNan .f32 x by rw [HS1.out, hs, HXX.out]; rfl)
          clear hs
          obtain ⟨bn, hbn⟩ : ∃ bn, (!isNan .f32 x) = bn := ⟨_, rfl⟩
          rw [hbn] at hq HS2
          clear hbn
          go_wp2_with fail
          go_quiet (fail)
          go_wp2_with fail
          go_roundw
          case rel => exact ⟨k + 1, _, hlt, by go_num, by rw [HS2.out], rfl⟩
          case measure => simp [intOf]; omega
      · obtain rfl : k = n := by omega
        rw [HSB.out]
        cases B with
        | none =>
          have hs0 : (none : Option Nat).isSome = false := rfl
          rw [hs0]
          go_wp2_with fail
          refine wp_loop_rounds 1 ?_
          rw [rounds_succ]
          go_wp2_with fail
          go_loopw [15] (fun iv wr => StopL xs p N Z w7 iv wr) (fun iv _ => k - (intOf iv).toNat)
          case atStart => exact ⟨0, m, Nat.zero_le _, by simp, HZ.out, rfl⟩
          case round =>
            obtain ⟨c, ms, hc, rfl, hst, rfl⟩ := hrel
            have HST := Lib.hid hst
            have hcI : (c : Int) ≤ 12 := by have := HN.out; omega
            clear hst
            by_cases hlt : p + c < k
            · have hlt' : (p : Int) + (c : Int) < (k : Int) := by omega
              have e1 : (p : Int) + (c : Int) - (p : Int) + 1 = (c : Int) + 1 := by omega
              have e2 : (p : Int) + (c : Int) - (p : Int) = (c : Int) := by omega
              go_wp2_with fail
              go_loopw [16, 17] (fun fv kv wr' => FreshL xs p c w7 fv kv wr') (fun _ kv _ => k - (intOf kv).toNat)
              case atStart => exact ⟨0, ms, Nat.zero_le _, by simp, rfl, rfl⟩
              case round =>
                obtain ⟨d, md, hd, rfl, rfl, rfl⟩ := hrel
                obtain ⟨F, hF⟩ : ∃ F, freshUp (fun j => xs.getD j 0) (c + 1) d = F := ⟨_, rfl⟩
                have HFU := Lib.hid hF
                rw [hF]
                clear hF
                by_cases hld : d < p
                · have hld' : (c : Int) + 1 + (d : Int) ≤ (p : Int) + (c : Int) := by omega
                  have cX := HCC.out (c + 1 + d) (by omega)
                  obtain ⟨X, hX⟩ : ∃ X, xs.getD (c + 1 + d) 0 = X := ⟨_, rfl⟩
                  have HXX := Lib.hid hX
                  rw [hX] at cX
                  clear hX
                  go_wp2_with fail
                  go_loopw [18, 19] (fun lv jv wr' => LessL xs c X w7 lv jv wr') (fun _ jv _ => c + 1 - (intOf jv).toNat)
                  case atStart => exact ⟨0, md, Nat.zero_le _, rfl, rfl, rfl⟩
                  case round =>
                    obtain ⟨j, mj, hj, rfl, rfl, rfl⟩ := hrel
                    have hj0 : (0 : Int) ≤ (j : Int) := by omega
                    have hd0 : (0 : Int) ≤ (c : Int) + 1 + (d : Int) := by omega
                    by_cases hjl : j ≤ c
                    · have hjl' : (j : Int) ≤ (c : Int) := by omega
                      have hjn : (j : Int) < (k : Int) := by omega
                      have hkn : (c : Int) + 1 + (d : Int) < (k : Int) := by omega
                      have HS := Lib.hid (lessAll_succ (fun j => xs.getD j 0) X j)
                      cases hl : lessAll (fun j => xs.getD j 0) X j with
                      | false =>
                        have HS2 := Lib.hid (show lessAll (fun j => xs.getD j 0) X (j + 1) = false by rw [HS.out, hl]; rfl)
                        clear hl
                        go_wp2_with fail
                        go_quiet (fail)
                        go_wp2_with fail
                        go_roundw
                        case rel => exact ⟨j + 1, _, by omega, by go_num, by rw [HS2.out], rfl⟩
                        case measure => simp [intOf]; omega
                      | true =>
                        have c2 := HCC.out j (by omega)
                        obtain ⟨y2, hy2⟩ : ∃ x, xs.getD j 0 = x := ⟨_, rfl⟩
                        rw [hy2] at c2
                        have hS3 : lessAll (fun j => xs.getD j 0) X (j + 1) = (FloatKind.f32.format.order X y2 == some .lt) := by rw [HS.out, hl, hy2]; rfl
                        obtain ⟨L, hL⟩ : ∃ L, (FloatKind.f32.format.order X y2 == some .lt) = L := ⟨_, rfl⟩
                        rw [hL] at hS3
                        have HS3 := Lib.hid hS3
                        clear hS3 hy2 hl
                        go_wp2_with fail
                        go_quiet (fail)
                        go_wp2_with fail
                        go_roundw
                        case rel => exact ⟨j + 1, _, by omega, by go_num, by rw [HS3.out], rfl⟩
                        case measure => simp [intOf]; omega
                    · obtain rfl : j = c + 1 := by omega
                      have hjl' : (c : Int) < ((c + 1 : Nat) : Int) := by omega
                      obtain ⟨L, hL⟩ : ∃ L, lessAll (fun j => xs.getD j 0) X (c + 1) = L := ⟨_, rfl⟩
                      have HFS := Lib.hid (show freshUp (fun j => xs.getD j 0) (c + 1) (d + 1) = (F || L) by rw [freshUp_succ, HFU.out, ← hL, ← HXX.out])
                      rw [hL]
                      clear hL
                      cases F with
                      | true =>
                        go_wp2_with fail
                        go_roundw
                        case rel => exact ⟨d + 1, _, by omega, by go_num, by rw [HFS.out]; rfl, rfl⟩
                        case measure => simp [intOf]; omega
                      | false =>
                        go_wp2_with fail
                        go_roundw
                        case rel => exact ⟨d + 1, _, by omega, by go_num, by rw [HFS.out]; rfl, rfl⟩
                        case measure => simp [intOf]; omega
                · obtain rfl : d = p := by omega
                  have hld' : (d : Int) + (c : Int) < (c : Int) + 1 + (d : Int) := by omega
                  obtain ⟨t, ht⟩ : ∃ t, N - c = t + 1 := ⟨N - c - 1, by have := HN.out; omega⟩
                  cases F with
                  | true =>
                    have HST2 := Lib.hid (show stopF (fun j => xs.getD j 0) d (N - (c + 1)) (c + 1 + 1) = Z by
                      have h1 := HST.out
                      rw [ht, stopF_yes HFU.out] at h1
                      rw [show N - (c + 1) = t by omega]
                      exact h1)
                    go_wp2_with fail
                    go_roundw
                    case rel => exact ⟨c + 1, _, by omega, by go_num, HST2.out, rfl⟩
                    case measure => simp [intOf]; omega
                  | false =>
                    have hz : some (c + 1 + d - 1) = Z := by
                      have h1 := HST.out
                      rw [ht, stopF_no HFU.out] at h1
                      exact h1
                    have hz1 : Z.isSome = true := by rw [← hz]; rfl
                    have hz2 : endBest Z = (d : Int) + (c : Int) := by rw [← hz]; simp [endBest]; omega
                    clear hz
                    go_wp2_with fail
                    go_ret
                    exact ⟨by simp, below_drewN HXB7.out _⟩
            · have hlt' : (k : Int) ≤ (p : Int) + (c : Int) := by omega
              have hz : none = Z := by
                have h1 := HST.out
                rw [show N - c = 0 by have := HN.out; omega] at h1
                exact h1
              have hz1 : Z.isSome = false := by rw [← hz]; rfl
              clear hz
              go_wp2_with fail
              go_ret
              exact ⟨by simp, below_drewN HXB7.out _⟩
        | some b =>
          have hs0 : (some b : Option Nat).isSome = true := rfl
          have he0 : endBest (some b) = (b : Int) := rfl
          rw [hs0, he0]
          obtain ⟨hbn, hbz⟩ := HBS.out b rfl
          have hbl : b < k := HBL.out b rfl
          have HBZ := Lib.hid hbz
          have hb0 : (0 : Int) ≤ (b : Int) := by omega
          have hbI : (b : Int) < (k : Int) := by omega
          have hd1 : decide ((b : Int) < 0) = false := by simp
          have hd2 : decide (k ≤ b) = false := by simp; omega
          have hd2' : decide ((k : Int) ≤ (b : Int)) = false := by simp; omega
          have cb := HCC.out b hbl
          have hqb := eq_self (xs.getD b 0)
          rw [hbn] at hqb
          have hqb2 := order_self_ne .f32 (xs.getD b 0)
          rw [hbn] at hqb2
          obtain ⟨y, hy⟩ : ∃ y, xs.getD b 0 = y := ⟨_, rfl⟩
          rw [hy] at cb hqb hqb2
          have HYY := Lib.hid hy
          clear hbz hbn hy
          go_wp2_with fail
          go_loopw [14] (fun i wr => BestRel k w7 i wr) (fun i _ => k - (intOf i).toNat)
          case atStart => exact ⟨0, m, Nat.zero_le _, rfl, rfl⟩
          case round =>
            obtain ⟨i, m2, hi, rfl, rfl⟩ := hrel
            have hi0 : (0 : Int) ≤ (i : Int) := by omega
            by_cases hlt2 : i < k
            · have hlt2' : (i : Int) < (k : Int) := by omega
              have hlt2b : decide ((i : Int) < (k : Int)) = true := by simp; omega
              have ci := HCC.out i hlt2
              obtain ⟨hz1, hz2⟩ := HBZ.out i hlt2
              rw [HYY.out] at hz1 hz2
              obtain ⟨x, hx⟩ : ∃ x, xs.getD i 0 = x := ⟨_, rfl⟩
              rw [hx] at ci hz1 hz2
              have hz1' : (FloatKind.f32.format.order x y == some .lt) = false := hz1
              have HZ2 := Lib.hid hz2
              clear hx hz1 hz2
              by_cases hib : i < b
              · have hz3 := HZ2.out hib
                have hibd : decide (i < b) = true := by simp [hib]
                have hibd' : decide ((i : Int) < (b : Int)) = true := by simp; omega
                clear hib
                go_wp2_with fail
                go_quiet (fail)
                go_wp2_with fail
                go_roundw
                case rel => exact ⟨i + 1, _, hlt2, by go_num, rfl⟩
                case measure => simp [intOf]; omega
              · have hibd : decide (i < b) = false := by simp; omega
                have hibd' : decide ((i : Int) < (b : Int)) = false := by simp; omega
                clear hib
                go_wp2_with fail
                go_quiet (fail)
                go_wp2_with fail
                go_roundw
                case rel => exact ⟨i + 1, _, hlt2, by go_num, rfl⟩
                case measure => simp [intOf]; omega
            · obtain rfl : i = k := by omega
              have hlt2b : decide ((i : Int) < (i : Int)) = false := by simp
              go_wp2_with fail
              go_loopw [15] (fun iv wr => StopL xs p N Z w7 iv wr) (fun iv _ => i - (intOf iv).toNat)
              case atStart => exact ⟨0, m2, Nat.zero_le _, by simp, HZ.out, rfl⟩
              case round =>
                obtain ⟨c, ms, hc, rfl, hst, rfl⟩ := hrel
                have HST := Lib.hid hst
                have hcI : (c : Int) ≤ 12 := by have := HN.out; omega
                clear hst
                by_cases hlt : p + c < i
                · have hlt' : (p : Int) + (c : Int) < (i : Int) := by omega
                  have e1 : (p : Int) + (c : Int) - (p : Int) + 1 = (c : Int) + 1 := by omega
                  have e2 : (p : Int) + (c : Int) - (p : Int) = (c : Int) := by omega
                  go_wp2_with fail
                  go_loopw [16, 17] (fun fv kv wr' => FreshL xs p c w7 fv kv wr') (fun _ kv _ => i - (intOf kv).toNat)
                  case atStart => exact ⟨0, ms, Nat.zero_le _, by simp, rfl, rfl⟩
                  case round =>
                    obtain ⟨d, md, hd, rfl, rfl, rfl⟩ := hrel
                    obtain ⟨F, hF⟩ : ∃ F, freshUp (fun j => xs.getD j 0) (c + 1) d = F := ⟨_, rfl⟩
                    have HFU := Lib.hid hF
                    rw [hF]
                    clear hF
                    by_cases hld : d < p
                    · have hld' : (c : Int) + 1 + (d : Int) ≤ (p : Int) + (c : Int) := by omega
                      have cX := HCC.out (c + 1 + d) (by omega)
                      obtain ⟨X, hX⟩ : ∃ X, xs.getD (c + 1 + d) 0 = X := ⟨_, rfl⟩
                      have HXX := Lib.hid hX
                      rw [hX] at cX
                      clear hX
                      go_wp2_with fail
                      go_loopw [18, 19] (fun lv jv wr' => LessL xs c X w7 lv jv wr') (fun _ jv _ => c + 1 - (intOf jv).toNat)
                      case atStart => exact ⟨0, md, Nat.zero_le _, rfl, rfl, rfl⟩
                      case round =>
                        obtain ⟨j, mj, hj, rfl, rfl, rfl⟩ := hrel
                        have hj0 : (0 : Int) ≤ (j : Int) := by omega
                        have hd0 : (0 : Int) ≤ (c : Int) + 1 + (d : Int) := by omega
                        by_cases hjl : j ≤ c
                        · have hjl' : (j : Int) ≤ (c : Int) := by omega
                          have hjn : (j : Int) < (i : Int) := by omega
                          have hkn : (c : Int) + 1 + (d : Int) < (i : Int) := by omega
                          have HS := Lib.hid (lessAll_succ (fun j => xs.getD j 0) X j)
                          cases hl : lessAll (fun j => xs.getD j 0) X j with
                          | false =>
                            have HS2 := Lib.hid (show lessAll (fun j => xs.getD j 0) X (j + 1) = false by rw [HS.out, hl]; rfl)
                            clear hl
                            go_wp2_with fail
                            go_quiet (fail)
                            go_wp2_with fail
                            go_roundw
                            case rel => exact ⟨j + 1, _, by omega, by go_num, by rw [HS2.out], rfl⟩
                            case measure => simp [intOf]; omega
                          | true =>
                            have c2 := HCC.out j (by omega)
                            obtain ⟨y2, hy2⟩ : ∃ x, xs.getD j 0 = x := ⟨_, rfl⟩
                            rw [hy2] at c2
                            have hS3 : lessAll (fun j => xs.getD j 0) X (j + 1) = (FloatKind.f32.format.order X y2 == some .lt) := by rw [HS.out, hl, hy2]; rfl
                            obtain ⟨L, hL⟩ : ∃ L, (FloatKind.f32.format.order X y2 == some .lt) = L := ⟨_, rfl⟩
                            rw [hL] at hS3
                            have HS3 := Lib.hid hS3
                            clear hS3 hy2 hl
                            go_wp2_with fail
                            go_quiet (fail)
                            go_wp2_with fail
                            go_roundw
                            case rel => exact ⟨j + 1, _, by omega, by go_num, by rw [HS3.out], rfl⟩
                            case measure => simp [intOf]; omega
                        · obtain rfl : j = c + 1 := by omega
                          have hjl' : (c : Int) < ((c + 1 : Nat) : Int) := by omega
                          obtain ⟨L, hL⟩ : ∃ L, lessAll (fun j => xs.getD j 0) X (c + 1) = L := ⟨_, rfl⟩
                          have HFS := Lib.hid (show freshUp (fun j => xs.getD j 0) (c + 1) (d + 1) = (F || L) by rw [freshUp_succ, HFU.out, ← hL, ← HXX.out])
                          rw [hL]
                          clear hL
                          cases F with
                          | true =>
                            go_wp2_with fail
                            go_roundw
                            case rel => exact ⟨d + 1, _, by omega, by go_num, by rw [HFS.out]; rfl, rfl⟩
                            case measure => simp [intOf]; omega
                          | false =>
                            go_wp2_with fail
                            go_roundw
                            case rel => exact ⟨d + 1, _, by omega, by go_num, by rw [HFS.out]; rfl, rfl⟩
                            case measure => simp [intOf]; omega
                    · obtain rfl : d = p := by omega
                      have hld' : (d : Int) + (c : Int) < (c : Int) + 1 + (d : Int) := by omega
                      obtain ⟨t, ht⟩ : ∃ t, N - c = t + 1 := ⟨N - c - 1, by have := HN.out; omega⟩
                      cases F with
                      | true =>
                        have HST2 := Lib.hid (show stopF (fun j => xs.getD j 0) d (N - (c + 1)) (c + 1 + 1) = Z by
                          have h1 := HST.out
                          rw [ht, stopF_yes HFU.out] at h1
                          rw [show N - (c + 1) = t by omega]
                          exact h1)
                        go_wp2_with fail
                        go_roundw
                        case rel => exact ⟨c + 1, _, by omega, by go_num, HST2.out, rfl⟩
                        case measure => simp [intOf]; omega
                      | false =>
                        have hz : some (c + 1 + d - 1) = Z := by
                          have h1 := HST.out
                          rw [ht, stopF_no HFU.out] at h1
                          exact h1
                        have hz1 : Z.isSome = true := by rw [← hz]; rfl
                        have hz2 : endBest Z = (d : Int) + (c : Int) := by rw [← hz]; simp [endBest]; omega
                        clear hz
                        go_wp2_with fail
                        go_ret
                        exact ⟨by simp, below_drewN HXB7.out _⟩
                · have hlt' : (i : Int) ≤ (p : Int) + (c : Int) := by omega
                  have hz : none = Z := by
                    have h1 := HST.out
                    rw [show N - c = 0 by have := HN.out; omega] at h1
                    exact h1
                  have hz1 : Z.isSome = false := by rw [← hz]; rfl
                  clear hz
                  go_wp2_with fail
                  go_ret
                  exact ⟨by simp, below_drewN HXB7.out _⟩

/-! the row's step -/
set_option maxRecDepth 100000 in
theorem lifted (os : Os) (started : os.Started) (H : Type) (enc : TypeId × Value → H) :
    ReturnsInHanded {} Try.checked os 4 .any (Rows.fnStoppedSpec.pre6 enc Try.prog Try.f4 Rows.fnStoppedRow.domain false) (Rows.fnStoppedSpec.post enc Try.prog Try.f4 false true false false) := by
  refine returnsInHanded_of_change (C := Try.checked) own started (by kernel_rfl) Try.func4
    (ChangeSpec.witness6 (enc := enc) (C := Try.checked) false ⟨#[], #[.slice none 0 0, .slice none 0 0], []⟩ 8 (by kernel_rfl) (by kernel_rfl) (by kernel_rfl) (by kernel_rfl)) ?_
  intro W base args ds gs before hval0 hW hcnd _
  have hval : ∀ (j : Nat) t v, Try.f4.params[j]? = some t → args[j]? = some v → Value.okWide Try.prog W .any base t v := hval0
  have hW' := hW
  obtain ⟨p, q, hA0, hV, rfl, hfz, hnd⟩ := hW
  have hA : DataW.TrodAll enc Try.prog W 0 (fun _ => true) true Try.f4.params.toList args.toList ds p := hA0
  rw [Try.params4] at hA hval
  obtain ⟨v0, vs0, d0, ds0, p0, q0, hargs, rfl, rfl, h0, rest0⟩ := trodAll_cons hA
  obtain ⟨v1, vs1, d1, ds1, p1, q1, rfl, rfl, rfl, h1, rest1⟩ := trodAll_cons rest0
  obtain ⟨rfl, rfl, rfl⟩ := trodAll_nil rest1
  obtain rfl : args = #[v0, v1] := by cases args; simp_all
  obtain ⟨rfl, rfl⟩ := trodVars_none hV
  obtain ⟨a0, len0, cap0, rfl⟩ := okWide_slice Try.underlying22 (hval 0 22 v0 rfl rfl)
  have k0 := h0
  have lt0 : ∀ x ∈ p0, x.block < W.heap.size := by obtain ⟨m, hm⟩ := k0; exact DataW.trod_lt m _ _ _ hm
  obtain ⟨z0, w0⟩ := isRow_of (k := .u8) Try.underlying22 Try.underlying5 (by kernel_rfl) h0
  obtain ⟨a1, len1, cap1, rfl⟩ := okWide_slice Try.underlying22 (hval 1 22 v1 rfl rfl)
  have k1 := h1
  have lt1 : ∀ x ∈ p1, x.block < W.heap.size := by obtain ⟨m, hm⟩ := k1; exact DataW.trod_lt m _ _ _ hm
  obtain ⟨z1, w1⟩ := isRow_of (k := .u8) Try.underlying22 Try.underlying5 (by kernel_rfl) h1
  clear hA0 hval0
  refine (walk a0 len0 cap0 z0 a1 len1 cap1 z1 W w0 w1).mono fun e W' ⟨he, bel⟩ => ?_
  subst he
  exact ⟨_, rfl, _, _, _, [], _, [], hW', trodAll_mk1 (shut_bool Try.underlying4 _), (trodAll_cons_mk (Below.trod laidOut (by kernel_rfl) (of_decide_eq_true (by kernel_rfl)) k0 bel lt0) (trodAll_cons_mk (Below.trod laidOut (by kernel_rfl) (of_decide_eq_true (by kernel_rfl)) k1 bel lt1) trodAll_mk0)), rfl, bel.frame _, fun h => by cases h⟩

theorem over : Rows.fnStoppedRow.holds Try.pinned (OpenSpec.ofChange Rows.fnStoppedSpec) :=
  OpenClaim.holds_of_wide 4 Try.f4 rfl rfl rfl rfl rfl rfl rfl ⟨rfl, rfl, rfl, rfl, rfl⟩ rfl rfl rfl rfl rfl (by kernel_rfl) Try.func4 (by kernel_rfl)
    (of_decide_eq_true (by kernel_rfl)) (by unfold Func.isWrapper; first | (rw [if_pos (by decide +kernel)]; kernel_rfl) | (rw [if_neg (by decide +kernel)]; exact ⟨rfl, rfl⟩))
    (fun os started H enc _ => lifted os started H enc)

/-- the statement -/
theorem proved : Rows.FnStoppedSaid := over
end Go.Proofs.Ythklfkfhhdglcaa.fnStopped
