/-
  FnTexts' own helpers: equal lists. Conditions: the lists can be read.
-/
import Derived.Test.YtjecphimknfphaaDoorFtx
import Derived.Test.YtjecphimknfphaaDoorLawKit
import Derived.BigCall
namespace Go.Proofs.YtjecphimknfphaaDoor
open Go.RowKit Go.Deep Go.WideShapes Go.ChangeShapes
set_option linter.unusedVariables false
set_option linter.unusedSimpArgs false

def SameRel (n : Nat) (w : World) (i : Value) (wr : World) : Prop := ∃ k m : Nat, k ≤ n ∧ i = .int .i64 k ∧ wr = w.drewN m
theorem same_getD {xs ys : List Nat} (h : xs.map (canon .f32) = ys.map (canon .f32)) (k : Nat) : canon .f32 (xs.getD k 0) = canon .f32 (ys.getD k 0) := by
  have hl : xs.length = ys.length := by simpa using congrArg List.length h
  by_cases hk : k < xs.length
  · have h1 : (xs.map (canon .f32))[k]? = (ys.map (canon .f32))[k]? := by rw [h]
    have hk' : k < ys.length := by omega
    simpa [hk, hk'] using h1
  · simp [hk, show ¬ k < ys.length by omega]
theorem getD_lt {xs : List Nat} (h : ∀ x ∈ xs, x < 2 ^ 32) (k : Nat) : xs.getD k 0 < 4294967296 := by
  by_cases hk : k < xs.length
  · have := h _ (List.getElem_mem hk)
    simpa [List.getD, hk] using this
  · simp [List.getD, hk]
set_option maxHeartbeats 800000 in
theorem c_b10Same' (a b : Option Addr) (ca cb : Nat) (xs ys : List Nat) (n : Nat) (w : World) (ha : IsFloats .f32 w a n ca xs) (hb : IsFloats .f32 w b n cb ys) (hc : xs.map (canon .f32) = ys.map (canon .f32)) : Calls Tryd.prog 9 #[.slice a n ca, .slice b n cb] w (RetTrue w) := by
  obtain ⟨a1, a2, a3, a4, a5⟩ := ha
  obtain ⟨b1, b2, b3, b4, b5⟩ := hb
  have hmax : n ≤ 9223372036854775807 := by unfold maxLen at a2; omega
  have A5 := Lib.hid a5
  have B5 := Lib.hid b5
  have HC := Lib.hid hc
  have HA4 := Lib.hid a4
  have HB4 := Lib.hid b4
  clear a1 a2 a3 a4 a5 b1 b2 b3 b4 b5 hc
  go_enter Tryd.func9, Tryd.ntmps9
  go_wp2
  go_loopw [5] (fun i wr => SameRel n w i wr) (fun i _ => n - (intOf i).toNat)
  case atStart => exact ⟨0, 0, Nat.zero_le _, rfl, rfl⟩
  case round =>
    obtain ⟨k, m, hk, rfl, rfl⟩ := hrel
    by_cases hlt : k < n
    · rcases A5.out with h0 | ⟨p, off, ha, _, hca⟩
      · omega
      · rcases B5.out with h0 | ⟨q, off', hb, _, hcb⟩
        · omega
        · subst ha
          subst hb
          have c1 := hca k hlt
          have c2 := hcb k hlt
          have HE := same_getD HC.out k
          have hz1 := getD_lt HA4.out k
          have hz2 := getD_lt HB4.out k
          obtain ⟨z, hz⟩ : ∃ z, xs.getD k 0 = z := ⟨_, rfl⟩
          obtain ⟨y, hy⟩ : ∃ z, ys.getD k 0 = z := ⟨_, rfl⟩
          rw [hz] at c1 HE hz1
          rw [hy] at c2 HE hz2
          have HS := Lib.hid (fun W => (c_sSameNumber z y hz1 hz2 W).mono fun e w' h => show e = .returned (.bool true) ∧ W = w' from ⟨by rw [h.1, HE, beq_self_eq_true], h.2⟩)
          clear hca hcb hz hy HE hz1 hz2
          go_wp2
          go_region_with (go_at_call 19; refine (HS.out _).mono ?_; rintro e wz ⟨rfl, rfl⟩)
          all_goals
            go_wp2
            go_roundw
            case rel => exact ⟨k + 1, _, by omega, by go_num, rfl⟩
            case measure => simp [intOf]; omega
    · go_wp2
      go_ret
      exact ⟨rfl, Drawn.mk _ _⟩
theorem c_b10Same (a b : Option Addr) (ca cb : Nat) (xs ys : List Nat) (w : World) (ha : IsFloats .f32 w a xs.length ca xs) (hb : IsFloats .f32 w b ys.length cb ys) (hc : xs.map (canon .f32) = ys.map (canon .f32)) : Calls Tryd.prog 9 #[.slice a xs.length ca, .slice b ys.length cb] w (RetTrue w) := by
  have hl : ys.length = xs.length := by simpa using (congrArg List.length hc).symm
  rw [hl] at hb ⊢
  exact c_b10Same' a b ca cb xs ys xs.length w ha hb hc
set_option maxHeartbeats 400000 in
theorem c_b10Nums (a b : Option Addr) (ca cb : Nat) (xs : List Int) (n : Nat) (w : World) (ha : IsRow .i64 w a n ca xs) (hb : IsRow .i64 w b n cb xs) : Calls Tryd.prog 12 #[.slice a n ca, .slice b n cb] w (RetTrue w) := by
  obtain ⟨a1, a2, a3, a4, a5⟩ := ha
  obtain ⟨b1, b2, b3, b4, b5⟩ := hb
  have hmax : n ≤ 9223372036854775807 := by unfold maxLen at a2; omega
  have A5 := Lib.hid a5
  have B5 := Lib.hid b5
  clear a1 a2 a3 a4 a5 b1 b2 b3 b4 b5
  go_enter Tryd.func12, Tryd.ntmps12
  go_wp2
  go_loopw [5] (fun i wr => SameRel n w i wr) (fun i _ => n - (intOf i).toNat)
  case atStart => exact ⟨0, 0, Nat.zero_le _, rfl, rfl⟩
  case round =>
    obtain ⟨k, m, hk, rfl, rfl⟩ := hrel
    by_cases hlt : k < n
    · rcases A5.out with h0 | ⟨p, off, ha, _, hca⟩
      · omega
      · rcases B5.out with h0 | ⟨q, off', hb, _, hcb⟩
        · omega
        · subst ha
          subst hb
          have c1 := hca k hlt
          have c2 := hcb k hlt
          obtain ⟨z, hz⟩ : ∃ z, xs.getD k 0 = z := ⟨_, rfl⟩
          rw [hz] at c1 c2
          clear hca hcb hz
          go_wp2
          go_region
          all_goals
            go_wp2
            go_roundw
            case rel => exact ⟨k + 1, _, by omega, by go_num, rfl⟩
            case measure => simp [intOf]; omega
    · go_wp2
      go_ret
      exact ⟨rfl, Drawn.mk _ _⟩
end Go.Proofs.YtjecphimknfphaaDoor
