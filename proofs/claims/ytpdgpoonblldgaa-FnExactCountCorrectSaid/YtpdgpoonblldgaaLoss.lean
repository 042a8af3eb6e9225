/-
  Losses by rules, their gradients, and the model's lists for them. Conditions: the numbers can be read.
-/
import Derived.Test.YtpdgpoonblldgaaOp5
import Derived.Test.YtpdgpoonblldgaaDotIn
import Derived.Deep.RegionLaw
import Derived.BigRegion
namespace Go.Proofs.Ytpdgpoonblldgaa
open Go.RowKit Go.Deep Go.WideShapes Go.ChangeShapes
set_option linter.unusedVariables false

def okBoth (n m : Nat) : Bool := decide (1 ≤ n) && (decide (n ≤ 256) && decide (n = m))
theorem okBoth_yes {n m : Nat} (h : okBoth n m = true) : 1 ≤ n ∧ n ≤ 256 ∧ n = m := by simpa [okBoth] using h
theorem okBoth_no {n m : Nat} (h : okBoth n m = false) : n = 0 ∨ 257 ≤ n ∨ n ≠ m := by
  rcases Nat.eq_zero_or_pos n with h0 | h0
  · exact .inl h0
  · by_cases h1 : n ≤ 256
    · by_cases h2 : n = m
      · have : okBoth n m = true := by simp [okBoth, h2]; omega
        rw [this] at h; cases h
      · exact .inr (.inr h2)
    · exact .inr (.inl (by omega))
def fN (n : Nat) : Nat := floatOfInt .f32 (n : Int)
theorem canon_fN (n : Nat) : canon .f32 (floatOfInt .f32 (n : Int)) = fN n := canon_num (floatOfInt_num _)
def gapOf (ys ts : List Nat) (i : Nat) : Nat := cop .sub .f32 (canon .f32 (ys.getD i 0)) (canon .f32 (ts.getD i 0))
theorem gap_canon (ys ts : List Nat) (i : Nat) : canon .f32 (gapOf ys ts i) = gapOf ys ts i := cop_canon _ _ _ _
def vLoss (P S : Nat → Nat) (ys ts : List Nat) : Nat × Bool × List Nat :=
  if okBoth ys.length ts.length = true then (cop .quo .f32 (csum ((List.range ys.length).map fun i => P (gapOf ys ts i))) (fN ys.length), true, (List.range ys.length).map fun i => cop .quo .f32 (S (gapOf ys ts i)) (fN ys.length)) else (0, false, [])
theorem vLoss_len (P S : Nat → Nat) (ys ts : List Nat) : (vLoss P S ys ts).2.2.length ≤ 1048576 := by
  unfold vLoss
  split
  · rename_i h; have := okBoth_yes h; simp; omega
  · simp
theorem vLoss_no {P S : Nat → Nat} {ys ts : List Nat} (h : okBoth ys.length ts.length = false) : vLoss P S ys ts = (0, false, []) := by unfold vLoss; rw [if_neg (by rw [h]; decide)]
theorem vLoss_yes {P S : Nat → Nat} {ys ts : List Nat} (h : okBoth ys.length ts.length = true) : vLoss P S ys ts = (cop .quo .f32 (csum ((List.range ys.length).map fun i => P (gapOf ys ts i))) (fN ys.length), true, (List.range ys.length).map fun i => cop .quo .f32 (S (gapOf ys ts i)) (fN ys.length)) := by unfold vLoss; rw [if_pos h]
theorem csum_canon (zs : List Nat) : csum (zs.map (canon .f32)) = csum zs := by
  have h : ∀ (l : List Nat) (s : Nat), (l.map (canon .f32)).foldl (fun s z => cop .add .f32 s (canon .f32 z)) s = l.foldl (fun s z => cop .add .f32 s (canon .f32 z)) s := by
    intro l
    induction l with
    | nil => intro s; rfl
    | cons x l ih => intro s; simp only [List.map_cons, List.foldl_cons, canon_canon]; exact ih _
  exact h _ _
theorem csum_of {ps : List Nat} {f : Nat → Nat} {n : Nat} (h : ps.map (canon .f32) = (List.range n).map f) : csum ps = csum ((List.range n).map f) := by rw [← h, csum_canon]

theorem c_meanOf (a : Option Addr) (n cap : Nat) (zs : List Nat) (w : World) (h : IsFloats .f32 w a n cap zs) : Calls Try.prog 245 #[.slice a n cap] w (RetF .f32 (cop .quo .f32 (csum zs) (fN n)) w) := by
  have HF := Lib.hid h
  clear h
  go_enter Try.func245, Try.ntmps245
  go_wp2_with (go_at_call 242; refine (c_sumInOrder _ _ _ zs _ HF.out).mono ?_; rintro e w' ⟨r, m, hr, hl, rfl, rfl⟩; have HR := Lib.hid hr; clear hr hl)
  go_ret
  exact ⟨_, _, by rw [canon_fval, HR.out, canon_fN], fval_lt .quo .f32 _ _ _, rfl, rfl⟩
/-- a rule's answer -/
def RetP (p s : Nat) (w : World) (e : Ending) (w' : World) : Prop := ∃ a b, e = .returned (.tuple #[.float .f32 a, .float .f32 b]) ∧ canon .f32 a = p ∧ canon .f32 b = s ∧ a < 2 ^ 32 ∧ b < 2 ^ 32 ∧ Below w.heap.size w w'
theorem far_set {w : World} {B g k v : Nat} {a : Option Addr} {c : Nat} {ys : List Nat} (h : OwnF w B a c ys) (hne : ∀ j, blk a = some j → j ≠ g) : OwnF (w.setCell ⟨g, k, none⟩ (.float .f32 v)) B a c ys :=
  h.apart (b := some ⟨g, 0, none⟩) ⟨rfl, rfl, rfl, by simp, fun j _ hj => Below.heap_setCell _ _ _ j (fun e => hj (by simp [blk, e]))⟩ (fun j hj e => hne j hj (by simpa [blk] using e.symm))
/-- the program's two lists, of which k numbers are made -/
def Two (f1 f2 : Nat → Nat) (n g1 g2 : Nat) (w : World) (i : Value) (wr : World) : Prop :=
  ∃ (k : Nat) (ps qs : List Nat), k ≤ n ∧ i = .int .i64 k ∧ ps.length = k ∧ qs.length = k ∧ OwnF wr w.heap.size (some ⟨g1, 0, none⟩) n (ps ++ (List.replicate n 0).drop k) ∧ OwnF wr w.heap.size (some ⟨g2, 0, none⟩) n (qs ++ (List.replicate n 0).drop k) ∧
    ps.map (canon .f32) = (List.range k).map f1 ∧ qs.map (canon .f32) = (List.range k).map f2 ∧ Below w.heap.size w wr
theorem made_row {w wr : World} {B g n : Nat} (h : wr.ownsRow B 67 1 (.slice (some ⟨g, 0, none⟩) n n) n (List.replicate n (Value.float .f32 0))) : OwnF wr B (some ⟨g, 0, none⟩) n (List.replicate n 0) :=
  ⟨by simpa using h, fun y hy => by rw [(List.mem_replicate.1 hy).2]; decide⟩
theorem two_next {f1 f2 : Nat → Nat} {n g1 g2 k u v : Nat} {w wr w2 : World} {ps qs : List Nat} (hk : k < n) (hg : g1 ≠ g2) (hp : ps.length = k) (hq : qs.length = k) (h1 : OwnF wr w.heap.size (some ⟨g1, 0, none⟩) n (ps ++ (List.replicate n 0).drop k)) (h2 : OwnF wr w.heap.size (some ⟨g2, 0, none⟩) n (qs ++ (List.replicate n 0).drop k))
    (e1 : ps.map (canon .f32) = (List.range k).map f1) (e2 : qs.map (canon .f32) = (List.range k).map f2) (hl : Below w.heap.size w wr) (hb : Below wr.heap.size wr w2) (hu : u < 2 ^ 32) (cu : canon .f32 u = f1 k) (hv : v < 2 ^ 32) (cv : canon .f32 v = f2 k) :
    Two f1 f2 n g1 g2 w (.int .i64 ((k : Int) + 1)) ((w2.setCell ⟨g1, k, none⟩ (.float .f32 u)).setCell ⟨g2, k, none⟩ (.float .f32 v)) := by
  have hr : (List.replicate n 0).length = n := List.length_replicate
  obtain ⟨k1, ps', hk1, hi1, hp1, o1, q1, b1⟩ := upd_next (zs := List.replicate n 0) (by rw [hr]; exact hk) hp h1 e1 hl hb hl.size hu cu
  have hb3 : Below wr.heap.size wr (w2.setCell ⟨g1, k, none⟩ (.float .f32 u)) ∨ True := .inr trivial
  have h2' := far_set (g := g1) (k := k) (v := u) (h2.kept hb) (fun j hj => by simp only [blk, Option.map_some, Option.some.injEq] at hj; omega)
  have hk2 : k1 = k + 1 := by simp only [Value.int.injEq, true_and] at hi1; omega
  subst hk2
  have hl2 := (h1.lt g1 rfl).1
  obtain ⟨k2, qs', hk2, hi2, hp2, o2, q2, b2⟩ := upd_next (f := f2) (zs := List.replicate n 0) (w := w) (by rw [hr]; exact hk) hq h2' e2 ((hl.trans (hb.mono hl.size)).setCell hl2 _) (Below.refl _ _) (by have := hl.size; have := hb.size; simp; omega) hv cv
  have hk3 : k2 = k + 1 := by simp only [Value.int.injEq, true_and] at hi2; omega
  subst hk3
  have o1' := far_set (g := g2) (k := k) (v := v) o1 (fun j hj => by simp only [blk, Option.map_some, Option.some.injEq] at hj; omega)
  exact ⟨k + 1, ps', qs', hk, by go_num, hp1, hp2, o1', o2, q1, q2, b2⟩
theorem canon_getD {ds : List Nat} {f : Nat → Nat} {n k : Nat} (h : ds.map (canon .f32) = (List.range n).map f) (hk : k < n) : canon .f32 (ds.getD k 0) = f k := by
  have hl : ds.length = n := by have := congrArg List.length h; simpa using this
  have h2 := congrArg (fun l => l[k]?) h
  simp only [List.getElem?_map, List.getElem?_range hk, Option.map_some] at h2
  rw [List.getElem?_eq_getElem (show k < ds.length by omega), Option.map_some, Option.some.injEq] at h2
  simpa [List.getD, show k < ds.length by omega] using h2
end Go.Proofs.Ytpdgpoonblldgaa
