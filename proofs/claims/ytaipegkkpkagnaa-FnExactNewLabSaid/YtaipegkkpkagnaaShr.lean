/-
  The shuffled rows: the draw, the steps, the rows. Conditions: none.
-/
import Derived.Test.YtaipegkkpkagnaaGrJ
import Derived.Test.YtaipegkkpkagnaaBits
import Derived.BigRegion
import Derived.RegionTactic
import Derived.Deep.RegionLaw
namespace Go.Proofs.Ytaipegkkpkagnaa
open Go.RowKit Go.Deep Go.WideShapes Go.ChangeShapes
set_option linter.unusedVariables false
attribute [local go_sem] World.drewN_zero

def nextS (s : Int) : Int := (1103515245 * s + 12345) % 2147483648
theorem nextS_rng (s : Int) : 0 ≤ nextS s ∧ nextS s ≤ 2147483647 := by unfold nextS; omega
def swapL (xs : List Int) (i j : Nat) : List Int := (xs.set i (xs.getD j 0)).set j (xs.getD i 0)
theorem swapL_length (xs : List Int) (i j : Nat) : (swapL xs i j).length = xs.length := by simp [swapL]
theorem swapL_perm {xs : List Int} {i j : Nat} (hi : i < xs.length) (hj : j < xs.length) : (swapL xs i j).Perm xs := by
  unfold swapL
  rw [show xs.getD j 0 = xs[j] by simp [List.getD, hj], show xs.getD i 0 = xs[i] by simp [List.getD, hi]]
  exact List.set_set_perm hi hj
def pickJ (s : Int) (i : Nat) : Nat := (s / 65536 % ((i : Int) + 1)).toNat
theorem pickJ_lt (s : Int) (i : Nat) : pickJ s i < i + 1 := by
  unfold pickJ
  have h1 := Int.emod_nonneg (s / 65536) (show ((i : Int) + 1) ≠ 0 by omega)
  have h2 := Int.emod_lt_of_pos (s / 65536) (show 0 < ((i : Int) + 1) by omega)
  omega
def shufL : Nat → List Int → Int → List Int × Int
  | 0, xs, s => (xs, s)
  | i + 1, xs, s => shufL i (swapL xs (i + 1) (pickJ (nextS s) (i + 1))) (nextS s)
theorem shufL_perm (k : Nat) (xs : List Int) (s : Int) (h : k < xs.length) : (shufL k xs s).1.Perm xs := by
  induction k generalizing xs s with
  | zero => exact List.Perm.refl _
  | succ k ih =>
    have hj := pickJ_lt (nextS s) (k + 1)
    exact (ih _ _ (by rw [swapL_length]; omega)).trans (swapL_perm h (by omega))
theorem shufL_rng (k : Nat) (xs : List Int) (s : Int) (h : 0 ≤ s ∧ s ≤ 2147483647) : 0 ≤ (shufL k xs s).2 ∧ (shufL k xs s).2 ≤ 2147483647 := by
  induction k generalizing xs s with
  | zero => exact h
  | succ k ih => exact ih _ _ (nextS_rng s)
def upTo (n : Nat) : List Int := (List.range n).map fun i : Nat => (i : Int)
theorem upTo_length (n : Nat) : (upTo n).length = n := by simp [upTo]
theorem upTo_succ (n : Nat) : upTo (n + 1) = upTo n ++ [(n : Int)] := by simp [upTo, List.range_succ]
theorem upTo_mem {n : Nat} {y : Int} (h : y ∈ upTo n) : 0 ≤ y ∧ y < n := by
  obtain ⟨i, hi, rfl⟩ := List.mem_map.1 h
  have := List.mem_range.1 hi
  omega
def shufR (n : Nat) (s : Int) : List Int × Int := shufL (n - 1) (upTo n) s
theorem shufR_perm {n : Nat} (h : 1 ≤ n) (s : Int) : (shufR n s).1.Perm (upTo n) := shufL_perm _ _ _ (by rw [upTo_length]; omega)
theorem shufR_length {n : Nat} (h : 1 ≤ n) (s : Int) : (shufR n s).1.length = n := by rw [(shufR_perm h s).length_eq, upTo_length]
theorem shufR_mem {n : Nat} (h : 1 ≤ n) (s : Int) {y : Int} (hy : y ∈ (shufR n s).1) : 0 ≤ y ∧ y < n := upTo_mem ((shufR_perm h s).mem_iff.1 hy)
theorem shufR_rng (n : Nat) {s : Int} (h : 0 ≤ s ∧ s ≤ 2147483647) : 0 ≤ (shufR n s).2 ∧ (shufR n s).2 ≤ 2147483647 := shufL_rng _ _ _ h

/-! a row of integers of the call's own, one of which is set -/
theorem ownI_some {w : World} {B c : Nat} {a : Option Addr} {ys : List Int} (h : OwnI w B a c ys) (hp : 0 < ys.length) : ∃ g, a = some ⟨g, 0, none⟩ ∧ B ≤ g ∧ g < w.heap.size := by
  rcases h.1.2 with ⟨hv, h0⟩ | ⟨g, cc, cur, hv, hB, hg, _⟩
  · omega
  · simp only [Value.slice.injEq] at hv
    exact ⟨g, hv.1, hB, (Array.getElem?_eq_some_iff.1 hg).1⟩
theorem ownI_set {w : World} {B g c k : Nat} {v : Int} {ys : List Int} (h : OwnI w B (some ⟨g, 0, none⟩) c ys) (hk : k < ys.length) (hv : (Lit.int .i64 v).wf = true) : OwnI (w.setCell ⟨g, k, none⟩ (.int .i64 v)) B (some ⟨g, 0, none⟩) c (ys.set k v) := by
  obtain ⟨o1, o2⟩ := h.1.stored k (.int .i64 v)
  refine ⟨by rw [List.length_set, List.map_set]; exact o1, fun y hy => ?_⟩
  rcases List.mem_or_eq_of_mem_set hy with hy | rfl
  · exact h.2 y hy
  · exact hv
theorem ownI_cell {w : World} {B g c k : Nat} {ys : List Int} (h : OwnI w B (some ⟨g, 0, none⟩) c ys) (hk : k < ys.length) : w.cell? ⟨g, k, none⟩ = some (.int .i64 (ys.getD k 0)) ∧ w.frozen? ⟨g, k, none⟩ = false := by
  refine ⟨?_, h.1.frozenAt k⟩
  rw [h.1.cellAt k (by omega)]
  simp [List.getD, hk, toV]
theorem getD_wf {w : World} {B c k : Nat} {a : Option Addr} {ys : List Int} (h : OwnI w B a c ys) (hk : k < ys.length) : (Lit.int .i64 (ys.getD k 0)).wf = true := by
  refine h.2 _ ?_
  simp [List.getD, hk]
/-- two of them change places -/
theorem own_swap {w : World} {B g c i j : Nat} {ys : List Int} (h : OwnI w B (some ⟨g, 0, none⟩) c ys) (hi : i < ys.length) (hj : j < ys.length) :
    OwnI ((w.setCell ⟨g, i, none⟩ (.int .i64 (ys.getD j 0))).setCell ⟨g, j, none⟩ (.int .i64 (ys.getD i 0))) B (some ⟨g, 0, none⟩) c (swapL ys i j) := by
  have h1 := ownI_set h hi (getD_wf h hj)
  have h2 := ownI_set (k := j) h1 (by rw [List.length_set]; exact hj) (getD_wf h hi)
  exact h2
/-- rows on the way: what is left to do gives what is asked -/
def ShRel (n : Nat) (Z : List Int × Int) (B : Nat) (a : Option Addr) (c : Nat) (w : World) (sv iv : Value) (wr : World) : Prop :=
  ∃ (k : Nat) (xs : List Int) (s : Int), iv = .int .i64 k ∧ sv = .int .i64 s ∧ k + 1 ≤ n ∧ xs.length = n ∧ (0 ≤ s ∧ s ≤ 2147483647) ∧ OwnI wr B a c xs ∧ shufL k xs s = Z ∧ Below w.heap.size w wr
theorem pickJ_cast {s : Int} (h : 0 ≤ s) (i : Nat) : ((pickJ s i : Nat) : Int) = s / 65536 % ((i : Int) + 1) := by
  unfold pickJ
  have h1 := Int.emod_nonneg (s / 65536) (show ((i : Int) + 1) ≠ 0 by omega)
  omega
/-- rows, the last seed and ok -/
def RetJ (p : List Int × Int) (b : Bool) (w : World) (e : Ending) (w' : World) : Prop :=
  ∃ a cap ys, e = .returned (.tuple #[.slice a ys.length cap, .int .i64 p.2, .bool b]) ∧ OwnI w' w.heap.size a cap ys ∧ ys = p.1 ∧ Below w.heap.size w w'
def RetJ2 (p : List Int × Int) (w : World) (e : Ending) (w' : World) : Prop :=
  ∃ a cap ys, e = .returned (.tuple #[.slice a ys.length cap, .int .i64 p.2]) ∧ OwnI w' w.heap.size a cap ys ∧ ys = p.1 ∧ Below w.heap.size w w'
def isSeedV (s : Int) : Bool := decide (0 ≤ s) && decide (s ≤ 2147483647)
theorem isSeedV_yes {s : Int} (h : isSeedV s = true) : 0 ≤ s ∧ s ≤ 2147483647 := by simpa [isSeedV] using h
theorem c_isSeed (s : Int) (w : World) : Calls Try.prog 133 #[.int .i64 s] w fun e w' => e = .returned (.bool (isSeedV s)) ∧ w = w' := by
  unfold isSeedV
  by_cases h1 : 0 ≤ s
  · by_cases h2 : s ≤ 2147483647
    · go_enter Try.func133, Try.ntmps133
      go_wp2_with fail
      go_ret
      exact ⟨by simp [h1, h2], rfl⟩
    · go_enter Try.func133, Try.ntmps133
      go_wp2_with fail
      go_ret
      exact ⟨by simp [h2], rfl⟩
  · go_enter Try.func133, Try.ntmps133
    go_wp2_with fail
    go_ret
    exact ⟨by simp; omega, rfl⟩
theorem c_l07Seed (s : Int) (w : World) : Calls Try.prog 175 #[.int .i64 s] w fun e w' => e = .returned (.bool (isSeedV s)) ∧ w = w' := by
  have H := Lib.hid (show (decide (0 ≤ s) && decide (s ≤ 2147483647)) = isSeedV s from rfl)
  go_enter Try.func175, Try.ntmps175
  go_wp2_with (go_at_call 83; refine (c_l00In _ _ _ _ H.out _).mono ?_; rintro e w' ⟨rfl, rfl⟩)
  go_ret
  exact ⟨rfl, rfl⟩
def vNextSeed (s : Int) : Int × Bool := if isSeedV s = true then (nextS s, true) else (0, false)
theorem vNextSeed_yes {s : Int} (h : isSeedV s = true) : vNextSeed s = (nextS s, true) := if_pos h
theorem vNextSeed_no {s : Int} (h : isSeedV s = false) : vNextSeed s = (0, false) := if_neg (by rw [h]; decide)


theorem upTo_fun (n : Nat) : (List.range n).map (fun i : Nat => (i : Int)) = upTo n := rfl
theorem wf_nat {n : Nat} (h : n ≤ 100000) : (Lit.int .i64 (n : Int)).wf = true := by
  simp [Lit.wf, IntKind.min, IntKind.max, IntKind.signed, IntKind.bits]; omega
theorem sh_first {n : Nat} {Z : List Int × Int} {B c : Nat} {a : Option Addr} {w wr : World} {s : Int} (h1 : 1 ≤ n) (hs : 0 ≤ s ∧ s ≤ 2147483647) (ho : OwnI wr B a c (upTo n)) (hz : shufL (n - 1) (upTo n) s = Z) (hl : Below w.heap.size w wr) : ShRel n Z B a c w (.int .i64 s) (.int .i64 ((n : Int) - 1)) wr := by
  refine ⟨n - 1, upTo n, s, ?_, rfl, by omega, upTo_length n, hs, ho, hz, hl⟩
  rw [show ((n - 1 : Nat) : Int) = (n : Int) - 1 by omega]
theorem swap_other (xs : List Int) (i j : Nat) : (xs.set j (xs.getD i 0)).set i (xs.getD j 0) = swapL xs i j := by
  unfold swapL
  by_cases h : i = j
  · subst h; simp
  · exact List.set_comm _ _ (fun e => h e.symm)
theorem own_swap2 {w : World} {B g c i j : Nat} {ys : List Int} (h : OwnI w B (some ⟨g, 0, none⟩) c ys) (hi : i < ys.length) (hj : j < ys.length) :
    OwnI ((w.setCell ⟨g, j, none⟩ (.int .i64 (ys.getD i 0))).setCell ⟨g, i, none⟩ (.int .i64 (ys.getD j 0))) B (some ⟨g, 0, none⟩) c (swapL ys i j) := by
  rw [← swap_other]
  exact ownI_set (k := i) (ownI_set h hj (getD_wf h hi)) (by rw [List.length_set]; exact hi) (getD_wf h hj)
theorem sh_next {n g c k : Nat} {Z : List Int × Int} {B : Nat} {w wr w2 : World} {xs : List Int} {s : Int} (hB : w.heap.size ≤ B) (hk : k + 1 + 1 ≤ n) (hx : xs.length = n) (ho : OwnI wr B (some ⟨g, 0, none⟩) c xs) (hz : shufL (k + 1) xs s = Z) (hl : Below w.heap.size w wr) (hw : Below wr.heap.size wr w2)
    (hs : 0 ≤ s ∧ s ≤ 2147483647) {j : Nat} (hj : j = pickJ (nextS s) (k + 1)) :
    ShRel n Z B (some ⟨g, 0, none⟩) c w (.int .i64 (nextS s)) (.int .i64 k) ((w2.setCell ⟨g, k + 1, none⟩ (.int .i64 (xs.getD j 0))).setCell ⟨g, j, none⟩ (.int .i64 (xs.getD (k + 1) 0))) := by
  have hjl := pickJ_lt (nextS s) (k + 1)
  have ho2 := ho.kept hw
  have hl2 : Below w.heap.size w w2 := hl.trans (hw.mono hl.size)
  have hg : w.heap.size ≤ g := Nat.le_trans hB (ho.lt g rfl).1
  refine ⟨k, swapL xs (k + 1) j, nextS s, rfl, rfl, by omega, by rw [swapL_length]; exact hx, nextS_rng s, own_swap ho2 (by omega) (by omega), ?_, (hl2.setCell (p := ⟨g, k + 1, none⟩) hg _).setCell (p := ⟨g, j, none⟩) hg _⟩
  rw [← hz, hj]
  rfl
theorem sh_next2 {n g c k : Nat} {Z : List Int × Int} {B : Nat} {w wr w2 : World} {xs : List Int} {s : Int} (hB : w.heap.size ≤ B) (hk : k + 1 + 1 ≤ n) (hx : xs.length = n) (ho : OwnI wr B (some ⟨g, 0, none⟩) c xs) (hz : shufL (k + 1) xs s = Z) (hl : Below w.heap.size w wr) (hw : Below wr.heap.size wr w2)
    (hs : 0 ≤ s ∧ s ≤ 2147483647) {j : Nat} (hj : j = pickJ (nextS s) (k + 1)) :
    ShRel n Z B (some ⟨g, 0, none⟩) c w (.int .i64 (nextS s)) (.int .i64 k) ((w2.setCell ⟨g, j, none⟩ (.int .i64 (xs.getD (k + 1) 0))).setCell ⟨g, k + 1, none⟩ (.int .i64 (xs.getD j 0))) := by
  have hjl := pickJ_lt (nextS s) (k + 1)
  have ho2 := ho.kept hw
  have hl2 : Below w.heap.size w w2 := hl.trans (hw.mono hl.size)
  have hg : w.heap.size ≤ g := Nat.le_trans hB (ho.lt g rfl).1
  refine ⟨k, swapL xs (k + 1) j, nextS s, rfl, rfl, by omega, by rw [swapL_length]; exact hx, nextS_rng s, own_swap2 ho2 (by omega) (by omega), ?_, (hl2.setCell (p := ⟨g, j, none⟩) hg _).setCell (p := ⟨g, k + 1, none⟩) hg _⟩
  rw [← hz, hj]
  rfl


def isSideV (n : Int) : Bool := decide (1 ≤ n) && decide (n ≤ 16)
theorem isSideV_yes {n : Int} (h : isSideV n = true) : ∃ m : Nat, n = m ∧ 1 ≤ m ∧ m ≤ 16 := by
  simp [isSideV] at h
  obtain ⟨m, rfl⟩ := Int.eq_ofNat_of_zero_le (show 0 ≤ n by omega)
  exact ⟨m, rfl, by omega, by omega⟩
def okShuf (n s : Int) : Bool := isSideV n && isSeedV s
def vShuffleRows (n s : Int) : (List Int × Int) × Bool := if okShuf n s = true then (shufR n.toNat s, true) else (([], 0), false)
theorem vShuffleRows_yes {n : Nat} {s : Int} (h : isSideV n = true) (h' : isSeedV s = true) : vShuffleRows n s = (shufR n s, true) := by unfold vShuffleRows okShuf; rw [h, h']; simp
theorem vShuffleRows_no {n s : Int} (h : okShuf n s = false) : vShuffleRows n s = (([], 0), false) := by unfold vShuffleRows; rw [h]; simp
theorem vShuffleRows_len (n s : Int) : (vShuffleRows n s).1.1.length ≤ 16 := by
  cases h : okShuf n s with
  | true =>
    have h' := h
    simp only [okShuf, Bool.and_eq_true] at h'
    obtain ⟨m, rfl, h1, h2⟩ := isSideV_yes h'.1
    rw [vShuffleRows_yes h'.1 h'.2, shufR_length h1]
    exact h2
  | false => rw [vShuffleRows_no h]; simp
theorem c_isSideV (n : Int) (w : World) : Calls Try.prog 145 #[.int .i64 n] w fun e w' => e = .returned (.bool (isSideV n)) ∧ w = w' := by
  unfold isSideV
  by_cases h1 : 1 ≤ n
  · by_cases h2 : n ≤ 16
    · go_enter Try.func145, Try.ntmps145
      go_wp2_with fail
      go_ret
      exact ⟨by simp [h1, h2], rfl⟩
    · go_enter Try.func145, Try.ntmps145
      go_wp2_with fail
      go_ret
      exact ⟨by simp [h2], rfl⟩
  · go_enter Try.func145, Try.ntmps145
    go_wp2_with fail
    go_ret
    exact ⟨by simp; omega, rfl⟩
end Go.Proofs.Ytaipegkkpkagnaa
