/-
  Which tensors are valid, and which are the same, as the program and its model say it. Conditions: the numbers can be read.
-/
import Derived.Test.YtlddonneccihiaaLike
namespace Go.Proofs.Ytlddonneccihiaa
open Go.RowKit
set_option linter.unusedVariables false

def vValidTensor (r c : Int) (z : List Nat) : Bool := vokB r c z.length

def sameB (xs ys : List Nat) : Bool := decide (xs.map (canon .f32) = ys.map (canon .f32))
theorem sameB_true {xs ys : List Nat} (h : xs.map (canon .f32) = ys.map (canon .f32)) : sameB xs ys = true := decide_eq_true h
theorem sameB_false {xs ys : List Nat} {k : Nat} (hl : xs.length = ys.length) (hk : k < xs.length) (h : canon .f32 (xs.getD k 0) ≠ canon .f32 (ys.getD k 0)) : sameB xs ys = false :=
  decide_eq_false fun e => h (map_getD e k)
theorem take_same {xs ys : List Nat} {k : Nat} (hk : k < xs.length) (hk' : k < ys.length) (h : (xs.take k).map (canon .f32) = (ys.take k).map (canon .f32)) (he : canon .f32 (xs.getD k 0) = canon .f32 (ys.getD k 0)) : (xs.take (k + 1)).map (canon .f32) = (ys.take (k + 1)).map (canon .f32) := by
  rw [take_snoc xs k hk, take_snoc ys k hk', List.map_append, List.map_append, h]
  simp only [List.map_cons, List.map_nil, he]
def SameRel (xs ys : List Nat) (n : Nat) (w : World) (i : Value) (wr : World) : Prop := ∃ k m : Nat, k ≤ n ∧ i = .int .i64 k ∧ (xs.take k).map (canon .f32) = (ys.take k).map (canon .f32) ∧ wr = w.drewN m
def SameRel0 (xs ys : List Nat) (n : Nat) (i : Value) : Prop := ∃ k : Nat, k ≤ n ∧ i = .int .i64 k ∧ (xs.take k).map (canon .f32) = (ys.take k).map (canon .f32)
theorem fl_lt {w : World} {a : Option Addr} {n cap : Nat} {xs : List Nat} (h : IsFloats .f32 w a n cap xs) (k : Nat) (hk : k < n) : xs.getD k 0 < 4294967296 := by
  have hk' : k < xs.length := by rw [h.2.2.1]; exact hk
  have := h.2.2.2.1 (xs.getD k 0) (by simp [List.getD, hk'])
  exact this
set_option maxHeartbeats 1000000 in
theorem c_l01SameAll (a b : Option Addr) (ca cb : Nat) (xs ys : List Nat) (n : Nat) (w : World) (ha : IsFloats .f32 w a n ca xs) (hb : IsFloats .f32 w b n cb ys) : Calls Try.prog 52 #[.slice a n ca, .slice b n cb] w fun e w' => e = .returned (.bool (sameB xs ys)) ∧ Drawn w w' := by
  have hmax : n ≤ 9223372036854775807 := by have := ha.2.1; have := ha.1; unfold maxLen at *; omega
  have LX := Lib.hid ha.2.2.1
  have LY := Lib.hid hb.2.2.1
  have A := Lib.hid ha
  have B := Lib.hid hb
  obtain ⟨s, hs⟩ : ∃ s, sameB xs ys = s := ⟨_, rfl⟩
  have HS := Lib.hid hs
  rw [hs]
  clear ha hb hs
  go_enter Try.func52, Try.ntmps52
  go_wp2
  go_loopw [5] (fun i wr => SameRel xs ys n w i wr) (fun i _ => n - (intOf i).toNat)
  case atStart => exact ⟨0, 0, Nat.zero_le _, rfl, rfl, rfl⟩
  case round =>
    obtain ⟨k, m, hk, rfl, he, rfl⟩ := hrel
    have HE := Lib.hid he
    clear he
    by_cases hlt : k < n
    · rcases A.out.2.2.2.2 with h0 | ⟨p, off, rfl, _, hca⟩
      · omega
      · rcases B.out.2.2.2.2 with h0 | ⟨q, off', rfl, _, hcb⟩
        · omega
        · have c1 := hca k hlt
          have c2 := hcb k hlt
          have l1 := fl_lt A.out k hlt
          have l2 := fl_lt B.out k hlt
          obtain ⟨z, hz⟩ : ∃ z, xs.getD k 0 = z := ⟨_, rfl⟩
          obtain ⟨y, hy⟩ : ∃ z, ys.getD k 0 = z := ⟨_, rfl⟩
          rw [hz] at c1 l1
          rw [hy] at c2 l2
          have HZ := Lib.hid hz
          have HY := Lib.hid hy
          have L1 := Lib.hid l1
          have L2 := Lib.hid l2
          clear hca hcb hz hy l1 l2
          by_cases heq : canon .f32 z = canon .f32 y
          · have HQ := Lib.hid heq
            have HB := Lib.hid (show ((canon .f32 z : Int) == (canon .f32 y : Int)) = true by rw [heq]; exact beq_self_eq_true _)
            clear heq
            go_wp2
            go_region_with (go_at_call 51; refine (c_l01Same _ _ L1.out L2.out _).mono ?_; rintro e wz ⟨rfl, rfl⟩; rw [HB.out])
            all_goals
              go_wp2
              go_roundw
              case rel => exact ⟨k + 1, _, by omega, by go_num, take_same (by rw [LX.out]; exact hlt) (by rw [LY.out]; exact hlt) HE.out (by rw [HZ.out, HY.out]; exact HQ.out), rfl⟩
              case measure => simp [intOf]; omega
          · have HQ := Lib.hid heq
            have HB := Lib.hid (show ((canon .f32 z : Int) == (canon .f32 y : Int)) = false by rw [beq_eq_false_iff_ne]; intro e; exact heq (by omega))
            clear heq
            have hsf : false = s := by rw [← HS.out]; exact (sameB_false (k := k) (by rw [LX.out, LY.out]) (by rw [LX.out]; exact hlt) (by rw [HZ.out, HY.out]; exact HQ.out)).symm
            have HSF := Lib.hid hsf
            clear hsf
            go_wp2
            go_region_with (go_at_call 51; refine (c_l01Same _ _ L1.out L2.out _).mono ?_; rintro e wz ⟨rfl, rfl⟩; rw [HB.out])
            all_goals
              go_wp2
              go_ret
              exact ⟨ret_b HSF.out, Drawn.mk _ _⟩
    · go_wp2
      go_ret
      exact ⟨ret_b (by rw [← HS.out]; refine (sameB_true ?_).symm; have h := HE.out; rw [List.take_of_length_le (by rw [LX.out]; omega), List.take_of_length_le (by rw [LY.out]; omega)] at h; exact h), Drawn.mk _ _⟩
set_option maxHeartbeats 1000000 in
theorem c_EqualFunc (a b : Option Addr) (ca cb : Nat) (xs ys : List Nat) (n : Nat) (w : World) (ha : IsFloats .f32 w a n ca xs) (hb : IsFloats .f32 w b n cb ys) : Calls Try.prog 56 #[.slice a n ca, .slice b n cb, .func (.func 35) #[] #[]] w fun e w' => e = .returned (.bool (sameB xs ys)) ∧ w = w' := by
  have hmax : n ≤ 9223372036854775807 := by have := ha.2.1; have := ha.1; unfold maxLen at *; omega
  have LX := Lib.hid ha.2.2.1
  have LY := Lib.hid hb.2.2.1
  have A := Lib.hid ha
  have B := Lib.hid hb
  obtain ⟨s, hs⟩ : ∃ s, sameB xs ys = s := ⟨_, rfl⟩
  have HS := Lib.hid hs
  rw [hs]
  clear ha hb hs
  go_enter Try.func56, Try.ntmps56
  go_wp2
  go_loop [17] (fun i => SameRel0 xs ys n i) (fun i => n - (intOf i).toNat)
  case atStart => exact ⟨0, Nat.zero_le _, rfl, rfl⟩
  case round =>
    obtain ⟨k, hk, rfl, he⟩ := hrel
    have HE := Lib.hid he
    clear he
    by_cases hlt : k < n
    · rcases A.out.2.2.2.2 with h0 | ⟨p, off, rfl, _, hca⟩
      · omega
      · rcases B.out.2.2.2.2 with h0 | ⟨q, off', rfl, _, hcb⟩
        · omega
        · have c1 := hca k hlt
          have c2 := hcb k hlt
          have l1 := fl_lt A.out k hlt
          have l2 := fl_lt B.out k hlt
          obtain ⟨z, hz⟩ : ∃ z, xs.getD k 0 = z := ⟨_, rfl⟩
          obtain ⟨y, hy⟩ : ∃ z, ys.getD k 0 = z := ⟨_, rfl⟩
          rw [hz] at c1 l1
          rw [hy] at c2 l2
          have HZ := Lib.hid hz
          have HY := Lib.hid hy
          have L1 := Lib.hid l1
          have L2 := Lib.hid l2
          clear hca hcb hz hy l1 l2
          by_cases heq : canon .f32 z = canon .f32 y
          · have HQ := Lib.hid heq
            have HB := Lib.hid (show ((canon .f32 z : Int) == (canon .f32 y : Int)) = true by rw [heq]; exact beq_self_eq_true _)
            clear heq
            go_wp2_with fail
            refine (c_iSameNumber _ _ L1.out L2.out _).mono ?_
            rintro e wz ⟨rfl, rfl⟩
            rw [HB.out]
            go_wp2_with fail
            go_round
            case rel => exact ⟨k + 1, by omega, by go_num, take_same (by rw [LX.out]; exact hlt) (by rw [LY.out]; exact hlt) HE.out (by rw [HZ.out, HY.out]; exact HQ.out)⟩
            case measure => simp [intOf]; omega
          · have HQ := Lib.hid heq
            have HB := Lib.hid (show ((canon .f32 z : Int) == (canon .f32 y : Int)) = false by rw [beq_eq_false_iff_ne]; intro e; exact heq (by omega))
            clear heq
            have hsf : false = s := by rw [← HS.out]; exact (sameB_false (k := k) (by rw [LX.out, LY.out]) (by rw [LX.out]; exact hlt) (by rw [HZ.out, HY.out]; exact HQ.out)).symm
            have HSF := Lib.hid hsf
            clear hsf
            go_wp2_with fail
            refine (c_iSameNumber _ _ L1.out L2.out _).mono ?_
            rintro e wz ⟨rfl, rfl⟩
            rw [HB.out]
            go_wp2_with fail
            go_ret
            exact ⟨ret_b HSF.out, rfl⟩
    · go_wp2
      go_ret
      exact ⟨ret_b (by rw [← HS.out]; refine (sameB_true ?_).symm; have h := HE.out; rw [List.take_of_length_le (by rw [LX.out]; omega), List.take_of_length_le (by rw [LY.out]; omega)] at h; exact h), rfl⟩
theorem c_sameListsT (a b : Option Addr) (ca cb : Nat) (xs ys : List Nat) (n : Nat) (w : World) (ha : IsFloats .f32 w a n ca xs) (hb : IsFloats .f32 w b n cb ys) : Calls Try.prog 34 #[.slice a n ca, .slice b n cb] w fun e w' => e = .returned (.bool (sameB xs ys)) ∧ w = w' := by
  have HA := Lib.hid ha
  have HB := Lib.hid hb
  clear ha hb
  go_enter Try.func34, Try.ntmps34
  go_wp2_with fail
  refine (c_EqualFunc a b ca cb xs ys n _ HA.out HB.out).mono ?_
  rintro e w2 ⟨rfl, rfl⟩
  go_wp2_with fail
  go_ret
  exact ⟨rfl, rfl⟩
def vSameTensors (r0 c0 : Int) (z0 : List Nat) (r1 c1 : Int) (z1 : List Nat) : Bool := likeB r0 c0 r1 c1 z0.length z1.length && sameB z0 z1
theorem like_len' {r c r' c' : Int} {n n' : Nat} (h : likeB r c r' c' n n' = true) : n = n' := by
  obtain ⟨h1, h2, rfl, rfl⟩ := (likeB_iff _ _ _ _ _ _).1 h
  obtain ⟨_, _, e5⟩ := (vokB_iff _ _ _).1 h1
  obtain ⟨_, _, e6⟩ := (vokB_iff _ _ _).1 h2
  omega
end Go.Proofs.Ytlddonneccihiaa
