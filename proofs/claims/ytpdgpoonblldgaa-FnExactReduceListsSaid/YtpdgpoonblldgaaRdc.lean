/-
  ReduceLists: values, and the program's sum in a line. Conditions: the numbers can be read.
-/
import Derived.Test.YtpdgpoonblldgaaSums
import Derived.Test.YtpdgpoonblldgaaItr
import Derived.Test.YtpdgpoonblldgaaSSk
namespace Go.Proofs.Ytpdgpoonblldgaa
open Go.RowKit Go.Deep Go.WideShapes Go.ChangeShapes
set_option linter.unusedVariables false
set_option linter.unusedSimpArgs false

/-- the first number, to which each next one is added (canonical bits) -/
def lineV : List Nat → Nat
  | [] => 0
  | x :: xs => xs.foldl (fun s z => cop .add .f32 s z) x
theorem lineV_snoc {l : List Nat} {x : Nat} (h : l ≠ []) : lineV (l ++ [x]) = cop .add .f32 (lineV l) x := by
  cases l with
  | nil => exact absurd rfl h
  | cons y t => simp [lineV]
/-- the first and the second one, the third and the fourth one, .. -/
def pairV : List Nat → List Nat
  | x :: y :: t => cop .add .f32 x y :: pairV t
  | [x] => [x]
  | [] => []
theorem pairV_length : ∀ (n : Nat) (l : List Nat), l.length ≤ n → (pairV l).length = (l.length + 1) / 2 := by
  intro n
  induction n with
  | zero => intro l h; cases l with
    | nil => rfl
    | cons x t => simp at h
  | succ n ih =>
    intro l h
    match l with
    | [] => rfl
    | [x] => simp [pairV]
    | x :: y :: t =>
      have := ih t (by simp at h; omega)
      simp only [pairV, List.length_cons, this]
      omega
def treeN : Nat → List Nat → List Nat
  | 0, l => l
  | k + 1, l => treeN k (pairV l)
def treeV (l : List Nat) : Nat := (treeN l.length l).getD 0 0
def ringV (p : Nat) (l : List Nat) : Nat := lineV (l.drop (p % l.length) ++ l.take (p % l.length))
def redV (kind : Int) (p : Nat) (l : List Nat) : Nat := if kind = 0 then lineV l else if kind = 1 then treeV l else ringV p l
/-- the numbers at a place -/
def atV (zz : List (List Nat)) (p : Nat) : List Nat := zz.map fun z => canon .f32 (z.getD p 0)
def okRed (kind : Int) (zz : List (List Nat)) : Bool := (decide (0 ≤ kind) && decide (kind ≤ 2)) && ((decide (1 ≤ zz.length) && decide (zz.length ≤ 8)) && (decide ((zz.getD 0 []).length ≤ 512) && zz.all fun z => decide (z.length = (zz.getD 0 []).length)))
def vReduceLists (kind : Int) (zz : List (List Nat)) : Bool × List Nat := if okRed kind zz = true then (true, (List.range (zz.getD 0 []).length).map fun p => redV kind p (atV zz p)) else (false, [])
theorem vReduceLists_len (kind : Int) (zz : List (List Nat)) : (vReduceLists kind zz).2.length ≤ 1048576 := by
  unfold vReduceLists
  split
  · rename_i h
    simp only [okRed, Bool.and_eq_true, decide_eq_true_eq] at h
    rw [List.length_map, List.length_range]
    omega
  · simp
def LineRel (zs : List Nat) (w : World) (s i : Value) (wr : World) : Prop :=
  ∃ k r m : Nat, k + 1 ≤ zs.length ∧ i = .int .i64 k ∧ s = .float .f32 r ∧ canon .f32 r = lineV ((zs.take (k + 1)).map (canon .f32)) ∧ r < 2 ^ 32 ∧ wr = w.drewN m
theorem line_next {zs : List Nat} {k r : Nat} {w : World} (h : k + 1 < zs.length) (hr : canon .f32 r = lineV ((zs.take (k + 1)).map (canon .f32))) : canon .f32 (fval .add .f32 r (zs.getD (k + 1) 0) w) = lineV ((zs.take (k + 1 + 1)).map (canon .f32)) := by
  rw [canon_fval, hr, take_snoc zs (k + 1) h, List.map_append, List.map_cons, List.map_nil, lineV_snoc (by
    intro e
    have := congrArg List.length e
    rw [List.length_map, List.length_take, List.length_nil] at this
    omega)]
set_option maxRecDepth 20000 in
set_option maxHeartbeats 1000000 in
theorem c_addLine (b off n cap : Nat) (zs : List Nat) (v : Value) (w : World) (h : IsFloats .f32 w (some ⟨b, off, none⟩) n cap zs) (h1 : 1 ≤ n) (hn : n ≤ 1048576) :
    Calls Try.prog 118 #[.slice (some ⟨b, off, none⟩) n cap, v] w (RetF .f32 (lineV (zs.map (canon .f32))) w) := by
  have hzl : zs.length = n := h.2.2.1
  have hcap := h.1
  have hcm : cap ≤ 9223372036854775807 := by have := h.2.1; unfold maxLen at this; omega
  have HLT := Lib.hid h.2.2.2.1
  have HZL := Lib.hid hzl
  have HC := Lib.hid (show ∀ i, i < n → w.cell? ⟨b, off + i, none⟩ = some (.float .f32 (zs.getD i 0)) by
    intro i hi
    rcases h.2.2.2.2 with h0 | ⟨b', off', e, _, hc⟩
    · omega
    · cases e; exact hc i hi)
  have q0 := HC.out 0 (by omega)
  rw [Nat.add_zero] at q0
  have i1 : (0 : Int) < (n : Int) := by omega
  have i2 : (1 : Int) ≤ (n : Int) := by omega
  have i3 : (n : Int) ≤ (cap : Int) := by omega
  have i4 : (1 : Int) ≤ (cap : Int) := by omega
  have i5 : (n : Int) ≤ 1048576 := by omega
  have HF := Lib.hid (show canon .f32 (zs.getD 0 0) = lineV ((zs.take (0 + 1)).map (canon .f32)) by
    cases zs with
    | nil => simp at hzl; omega
    | cons x t => rfl)
  have HL0 := Lib.hid (show zs.getD 0 0 < 2 ^ 32 from HLT.out _ (by
    cases zs with
    | nil => simp at hzl; omega
    | cons x t => simp))
  have HALL := Lib.hid (show zs.map (canon .f32) = (zs.take n).map (canon .f32) by rw [List.take_of_length_le (by omega)])
  clear h hzl
  obtain ⟨m, hm⟩ : ∃ m, n - 1 = m := ⟨_, rfl⟩
  have HM := Lib.hid hm
  have HST := Lib.hid (show LineRel zs w (.float .f32 (zs.getD 0 0)) (.int .i64 0) w from ⟨0, _, 0, by rw [HZL.out]; exact h1, rfl, rfl, HF.out, HL0.out, (World.drewN_zero w).symm⟩)
  by_cases hone : cap = 1
  case pos =>
    have hn1 : n = 1 := by omega
    subst hone
    subst hn1
    clear hcap hcm hm
    go_enter Try.func118, Try.ntmps118
    go_wp2_with fail
    go_loopw [5, 14] (fun s i wr => LineRel zs w s i wr) (fun _ i _ => 1 - (intOf i).toNat)
    case atStart => exact HST.out
    case round =>
      obtain ⟨k, r, q, hk, rfl, rfl, hr, hr2, rfl⟩ := hrel
      rw [HZL.out] at hk
      obtain rfl : k = 0 := by omega
      have HR := Lib.hid hr
      have HR2 := Lib.hid hr2
      clear hr hr2 hk
      go_wp2_with fail
      go_ret
      exact ⟨r, q, by rw [HR.out, HALL.out], HR2.out, rfl, rfl⟩
  case neg =>
    go_enter Try.func118, Try.ntmps118
    go_wp2_with fail
    clear hm
    go_loopw [5, 14] (fun s i wr => LineRel zs w s i wr) (fun _ i _ => n - (intOf i).toNat)
    case atStart => exact HST.out
    case round =>
      obtain ⟨k, r, q, hk, rfl, rfl, hr, hr2, rfl⟩ := hrel
      rw [HZL.out] at hk
      have HR := Lib.hid hr
      have HR2 := Lib.hid hr2
      clear hr hr2
      have hk0 : (0 : Int) ≤ (k : Int) := by omega
      by_cases hlt : k < m
      · have hlt' : (k : Int) < (m : Int) := by omega
        have hkn : k + 1 < n := by have := HM.out; omega
        have c1 : w.cell? ⟨b, off + 1 + k, none⟩ = some (.float .f32 (zs.getD (k + 1) 0)) := by rw [show off + 1 + k = off + (k + 1) by omega]; exact HC.out (k + 1) hkn
        have HNX := Lib.hid (fun W => line_next (w := W) (show k + 1 < zs.length by rw [HZL.out]; exact hkn) HR.out)
        obtain ⟨x, hx⟩ : ∃ x, zs.getD (k + 1) 0 = x := ⟨_, rfl⟩
        rw [hx] at c1 HNX
        clear hx
        go_wp2_with fail
        go_roundw
        case rel => exact ⟨k + 1, _, _, by rw [HZL.out]; omega, by go_num, rfl, HNX.out _, fval_lt .add .f32 _ _ _, rfl⟩
        case measure => simp [intOf]; omega
      · obtain rfl : k = m := by have := HM.out; omega
        have hkn : k + 1 = n := by have := HM.out; omega
        go_wp2_with fail
        go_ret
        exact ⟨r, q, by rw [HR.out, HALL.out, hkn], HR2.out, rfl, rfl⟩
end Go.Proofs.Ytpdgpoonblldgaa
