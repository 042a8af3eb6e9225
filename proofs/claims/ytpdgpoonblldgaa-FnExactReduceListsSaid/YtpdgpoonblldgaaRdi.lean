/-
  ReduceLists: what the program answers where lists are not reduced. Conditions: the numbers can be read.
-/
import Derived.Test.YtpdgpoonblldgaaRdh
namespace Go.Proofs.Ytpdgpoonblldgaa
open Go.RowKit Go.Deep Go.WideShapes Go.ChangeShapes
set_option linter.unusedVariables false
set_option linter.unusedSimpArgs false

theorem retL_none (w w' : World) (h : Below w.heap.size w w') : RetL false [] w (.returned (.tuple #[.slice none 0 0, .bool false])) w' := ⟨none, 0, [], rfl, nil_own _ _, rfl, h⟩
set_option maxRecDepth 20000 in
set_option maxHeartbeats 1000000 in
theorem c_iReduceNo1 (kind : Int) (hk : ¬ (0 ≤ kind ∧ kind ≤ 2)) (g : Option Addr) (n cap : Nat) (w : World) :
    Calls Try.prog 25 #[.int .i64 kind, .slice g n cap] w (RetL false [] w) := by
  have HK := Lib.hid hk
  clear hk
  go_enter Try.func25, Try.ntmps25
  go_wp2_with (go_at_call 76; refine (c_reductionNo kind HK.out _).mono ?_; rintro e w1 ⟨v, rfl, rfl⟩)
  go_ret2
  exact retL_none _ _ (Below.refl _ _)
set_option maxRecDepth 20000 in
set_option maxHeartbeats 1000000 in
theorem c_iReduceNo2 (kind : Int) (v : Value) (hR : ∀ W : World, Calls Try.prog 76 #[.int .i64 kind] W fun e w' => e = .returned (.tuple #[v, .bool true]) ∧ W = w')
    (g : Option Addr) (n cap : Nat) (ls : List FlA) (w : World) (h : SSAt w g n cap ls) (hok : okL (ls.map FlA.z) = false) :
    Calls Try.prog 25 #[.int .i64 kind, .slice g n cap] w (RetL false [] w) := by
  have HRO := Lib.hid hR
  have HS := Lib.hid h
  have HOK := Lib.hid hok
  clear hR h hok
  go_enter Try.func25, Try.ntmps25
  go_wp2_with (first | (go_at_call 76; refine (HRO.out _).mono ?_; rintro e w1 ⟨rfl, rfl⟩) | (go_at_call 77; refine (c_canReduce _ n cap ls _ HS.out).mono ?_; rw [HOK.out]; rintro e w2 ⟨rfl, bl⟩; have B2 := Lib.hid bl; clear bl))
  go_ret2
  exact retL_none _ _ B2.out
/-- what the program answers, if its sum in a tree is as it is said -/
theorem c_iReduce (hT : ∀ (zs : List Nat) (a : Option Addr) (n cap p : Nat) (wr : World), IsFloats .f32 wr a n cap zs → 1 ≤ n → n ≤ 8 → p ≤ 1048576 → Calls Try.prog 119 #[.slice a n cap, .int .i64 p] wr (RetX (treeV (zs.map (canon .f32))) wr))
    (kind : Int) (hk : 0 ≤ kind ∧ kind ≤ 2) (g : Option Addr) (n cap : Nat) (ls : List FlA) (w : World) (h : SSAt w g n cap ls) (hok : okL (ls.map FlA.z) = true) :
    Calls Try.prog 25 #[.int .i64 kind, .slice g n cap] w (RetL true ((List.range ((ls.map FlA.z).getD 0 []).length).map fun p => redV kind p (atV (ls.map FlA.z) p)) w) := by
  obtain h0 | h1 | h2 : kind = 0 ∨ kind = 1 ∨ kind = 2 := by omega
  · subst h0
    exact c_iReduceBy 0 118 (fun _ l => lineV l) c_reductionOf0 (enters_of Try.func118 (by kernel_rfl) (by kernel_rfl)) (fun zs a n cap p wr h h1 h8 _ => x_addLine zs a n cap p wr h h1 h8) g n cap ls w h hok
  · subst h1
    exact c_iReduceBy 1 119 (fun _ l => treeV l) c_reductionOf1 (enters_of Try.func119 (by kernel_rfl) (by kernel_rfl)) hT g n cap ls w h hok
  · subst h2
    exact c_iReduceBy 2 120 (fun p l => ringV p l) c_reductionOf2 (enters_of Try.func120 (by kernel_rfl) (by kernel_rfl)) x_addRing g n cap ls w h hok
/-- ReduceLists, as the program answers, if its sum in a tree is as it is said -/
theorem t_iReduceOver (hT : ∀ (zs : List Nat) (a : Option Addr) (n cap p : Nat) (wr : World), IsFloats .f32 wr a n cap zs → 1 ≤ n → n ≤ 8 → p ≤ 1048576 → Calls Try.prog 119 #[.slice a n cap, .int .i64 p] wr (RetX (treeV (zs.map (canon .f32))) wr))
    (kind : Int) (g : Option Addr) (n cap : Nat) (ls : List FlA) (w : World) (h : SSAt w g n cap ls) :
    Calls Try.prog 25 #[.int .i64 kind, .slice g n cap] w (RetL (vReduceLists kind (ls.map FlA.z)).1 (vReduceLists kind (ls.map FlA.z)).2 w) := by
  by_cases hk : 0 ≤ kind ∧ kind ≤ 2
  · cases hok : okL (ls.map FlA.z) with
    | true =>
      have hv : okRed kind (ls.map FlA.z) = true := by rw [okRed_eq, hok, decide_eq_true hk.1, decide_eq_true hk.2]; rfl
      unfold vReduceLists
      rw [if_pos hv]
      exact c_iReduce hT kind hk g n cap ls w h hok
    | false =>
      have hv : okRed kind (ls.map FlA.z) = false := by rw [okRed_eq, hok, Bool.and_false]
      unfold vReduceLists
      rw [hv]
      obtain h0 | h1 | h2 : kind = 0 ∨ kind = 1 ∨ kind = 2 := by omega
      · subst h0; exact c_iReduceNo2 0 _ c_reductionOf0 g n cap ls w h hok
      · subst h1; exact c_iReduceNo2 1 _ c_reductionOf1 g n cap ls w h hok
      · subst h2; exact c_iReduceNo2 2 _ c_reductionOf2 g n cap ls w h hok
  · have hv : okRed kind (ls.map FlA.z) = false := by
      rw [okRed_eq]
      by_cases h0 : 0 ≤ kind
      · rw [show decide (kind ≤ 2) = false by simp; omega]; simp
      · rw [show decide (0 ≤ kind) = false by simp; omega]; simp
    unfold vReduceLists
    rw [hv]
    exact c_iReduceNo1 kind hk g n cap w
end Go.Proofs.Ytpdgpoonblldgaa
