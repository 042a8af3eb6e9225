/-
  Shuffled rows: the exchanges of the model and of the program. Conditions: 1 to 16 rows and a seed.
-/
import Derived.Test.YtaipegkkpkagnaaSed
namespace Go.Proofs.Ytaipegkkpkagnaa
open Go.RowKit Go.Deep Go.WideShapes Go.ChangeShapes
set_option linter.unusedVariables false
attribute [local go_sem] World.drewN_zero

theorem upTo_fun (n : Nat) : (List.range n).map (fun i : Nat => (i : Int)) = upTo n := rfl
theorem wf_nat {n : Nat} (h : n ≤ 100000) : (Lit.int .i64 (n : Int)).wf = true := by
  simp [Lit.wf, IntKind.min, IntKind.max, IntKind.signed, IntKind.bits]; omega
theorem sh_first {n : Nat} {Z : List Int × Int} {B c : Nat} {a : Option Addr} {w wr : World} {s : Int} (h1 : 1 ≤ n) (hs : 0 ≤ s ∧ s ≤ 2147483647) (ho : OwnI wr B a c (upTo n)) (hz : shufL (n - 1) (upTo n) s = Z) (hl : Below w.heap.size w wr) : ShRel n Z B a c w (.int .i64 s) (.int .i64 ((n : Int) - 1)) wr := by
  refine ⟨n - 1, upTo n, s, ?_, rfl, by omega, upTo_length n, hs, ho, hz, hl⟩
  rw [show ((n - 1 : Nat) : Int) = (n : Int) - 1 by omega]
theorem swap_other (xs : List Int) (i j : Nat) : (xs.set j (xs.getD i 0)).set i (xs.getD j 0) = swapL xs i j := by
  unfold swapL
  by_cases h : i = j
  · subst h; simp
  · exact List.set_comm _ _ (fun e => h e.symm)
theorem own_swap2 {w : World} {B g c i j : Nat} {ys : List Int} (h : OwnI w B (some ⟨g, 0, none⟩) c ys) (hi : i < ys.length) (hj : j < ys.length) :
    OwnI ((w.setCell ⟨g, j, none⟩ (.int .i64 (ys.getD i 0))).setCell ⟨g, i, none⟩ (.int .i64 (ys.getD j 0))) B (some ⟨g, 0, none⟩) c (swapL ys i j) := by
  rw [← swap_other]
  exact ownI_set (k := i) (ownI_set h hj (getD_wf h hi)) (by rw [List.length_set]; exact hi) (getD_wf h hj)
theorem sh_next {n g c k : Nat} {Z : List Int × Int} {B : Nat} {w wr w2 : World} {xs : List Int} {s : Int} (hB : w.heap.size ≤ B) (hk : k + 1 + 1 ≤ n) (hx : xs.length = n) (ho : OwnI wr B (some ⟨g, 0, none⟩) c xs) (hz : shufL (k + 1) xs s = Z) (hl : Below w.heap.size w wr) (hw : Below wr.heap.size wr w2)
    (hs : 0 ≤ s ∧ s ≤ 2147483647) {j : Nat} (hj : j = pickJ (nextS s) (k + 1)) :
    ShRel n Z B (some ⟨g, 0, none⟩) c w (.int .i64 (nextS s)) (.int .i64 k) ((w2.setCell ⟨g, k + 1, none⟩ (.int .i64 (xs.getD j 0))).setCell ⟨g, j, none⟩ (.int .i64 (xs.getD (k + 1) 0))) := by
  have hjl := pickJ_lt (nextS s) (k + 1)
  have ho2 := ho.kept hw
  have hl2 : Below w.heap.size w w2 := hl.trans (hw.mono hl.size)
  have hg : w.heap.size ≤ g := Nat.le_trans hB (ho.lt g rfl).1
  refine ⟨k, swapL xs (k + 1) j, nextS s, rfl, rfl, by omega, by rw [swapL_length]; exact hx, nextS_rng s, own_swap ho2 (by omega) (by omega), ?_, (hl2.setCell (p := ⟨g, k + 1, none⟩) hg _).setCell (p := ⟨g, j, none⟩) hg _⟩
  rw [← hz, hj]
  rfl
theorem sh_next2 {n g c k : Nat} {Z : List Int × Int} {B : Nat} {w wr w2 : World} {xs : List Int} {s : Int} (hB : w.heap.size ≤ B) (hk : k + 1 + 1 ≤ n) (hx : xs.length = n) (ho : OwnI wr B (some ⟨g, 0, none⟩) c xs) (hz : shufL (k + 1) xs s = Z) (hl : Below w.heap.size w wr) (hw : Below wr.heap.size wr w2)
    (hs : 0 ≤ s ∧ s ≤ 2147483647) {j : Nat} (hj : j = pickJ (nextS s) (k + 1)) :
    ShRel n Z B (some ⟨g, 0, none⟩) c w (.int .i64 (nextS s)) (.int .i64 k) ((w2.setCell ⟨g, j, none⟩ (.int .i64 (xs.getD (k + 1) 0))).setCell ⟨g, k + 1, none⟩ (.int .i64 (xs.getD j 0))) := by
  have hjl := pickJ_lt (nextS s) (k + 1)
  have ho2 := ho.kept hw
  have hl2 : Below w.heap.size w w2 := hl.trans (hw.mono hl.size)
  have hg : w.heap.size ≤ g := Nat.le_trans hB (ho.lt g rfl).1
  refine ⟨k, swapL xs (k + 1) j, nextS s, rfl, rfl, by omega, by rw [swapL_length]; exact hx, nextS_rng s, own_swap2 ho2 (by omega) (by omega), ?_, (hl2.setCell (p := ⟨g, j, none⟩) hg _).setCell (p := ⟨g, k + 1, none⟩) hg _⟩
  rw [← hz, hj]
  rfl
end Go.Proofs.Ytaipegkkpkagnaa
