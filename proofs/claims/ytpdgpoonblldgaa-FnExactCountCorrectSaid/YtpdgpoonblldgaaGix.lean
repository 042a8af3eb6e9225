/-
  The index of the greatest number of a list. Conditions: the numbers can be read.
-/
import Derived.Test.YtpdgpoonblldgaaFun
namespace Go.Proofs.Ytpdgpoonblldgaa
open Go.RowKit Go.Deep Go.WideShapes Go.ChangeShapes

/-- the index of the greatest of the first k numbers -/
def gixF (f : Nat → Nat) : Nat → Nat
  | 0 => 0
  | k + 1 => if (FloatKind.f32.format.order (f k) (f (gixF f k)) == some .gt) = true then k else gixF f k
theorem gixF_le (f : Nat → Nat) (k : Nat) : gixF f k ≤ k := by
  induction k with
  | zero => exact Nat.le_refl _
  | succ k ih => unfold gixF; split <;> omega
theorem gixF_lt (f : Nat → Nat) {k : Nat} (h : 1 ≤ k) : gixF f k < k := by
  cases k with
  | zero => omega
  | succ k => unfold gixF; have := gixF_le f k; split <;> omega
theorem gixF_yes {f : Nat → Nat} {k : Nat} (h : (FloatKind.f32.format.order (f k) (f (gixF f k)) == some .gt) = true) : gixF f (k + 1) = k := by show (if _ then _ else _) = _; rw [if_pos h]
theorem gixF_no {f : Nat → Nat} {k : Nat} (h : (FloatKind.f32.format.order (f k) (f (gixF f k)) == some .gt) = false) : gixF f (k + 1) = gixF f k := by show (if _ then _ else _) = _; rw [if_neg (by rw [h]; decide)]
theorem gixF_congr {f g : Nat → Nat} {n : Nat} (h : ∀ k, k < n → f k = g k) : gixF f n = gixF g n := by
  induction n with
  | zero => rfl
  | succ k ih =>
    have hk := ih (fun j hj => h j (by omega))
    have e1 : f k = g k := h k (by omega)
    have e2 : f (gixF f k) = g (gixF f k) := h _ (by have := gixF_le f k; omega)
    show (if _ then _ else _) = (if _ then _ else _)
    rw [e1, e2, hk]
theorem order_self_gt (x : Nat) : (FloatKind.f32.format.order x x == some .gt) = false := by
  have h := order_self_ne .f32 x
  cases ho : FloatKind.f32.format.order x x with
  | none => rfl
  | some c =>
    cases hn : isNan .f32 x with
    | true => rw [order_isNan_l _ hn] at ho; cases ho
    | false =>
      rw [hn, ho] at h
      cases c <;> first | rfl | (simp at h)
theorem gixF_one (f : Nat → Nat) : gixF f 1 = 0 := gixF_no (order_self_gt _)
def GixRel (zs : List Nat) (n : Nat) (s i : Value) : Prop := ∃ k : Nat, k ≤ n ∧ i = .int .i64 k ∧ s = .int .i64 ((gixF (fun j => zs.getD j 0) k : Nat) : Int)
set_option maxHeartbeats 400000 in
theorem c_greatestIndex (a : Option Addr) (n cap : Nat) (zs : List Nat) (w : World) (h : IsFloats .f32 w a n cap zs) (h1 : 1 ≤ n) (hn : n ≤ 256) :
    Calls Try.prog 58 #[.slice a n cap] w fun e w' => e = .returned (.int .i64 ((gixF (fun j => zs.getD j 0) n : Nat) : Int)) ∧ w = w' := by
  have HF := Lib.hid h
  clear h
  go_enter Try.func58, Try.ntmps58
  go_wp2
  go_loop [3, 8] (fun s i => GixRel zs n s i) (fun _ i => n - (intOf i).toNat)
  case atStart => exact ⟨0, Nat.zero_le _, rfl, rfl⟩
  case round =>
    obtain ⟨k, hk, rfl, rfl⟩ := hrel
    have hq := gixF_le (fun j => zs.getD j 0) k
    have HY := fun h => gixF_yes (f := fun j => zs.getD j 0) (k := k) h
    have HN := fun h => gixF_no (f := fun j => zs.getD j 0) (k := k) h
    obtain ⟨q, hqq⟩ : ∃ q, gixF (fun j => zs.getD j 0) k = q := ⟨_, rfl⟩
    rw [hqq] at hq HY HN ⊢
    have HQ := Lib.hid hqq
    have HY' := Lib.hid HY
    have HN' := Lib.hid HN
    clear hqq HY HN
    by_cases hlt : k < n
    · have hlt' : (k : Int) < (n : Int) := by omega
      have hq' : (q : Int) < (n : Int) := by omega
      have hq0 : (0 : Int) ≤ (q : Int) := by omega
      rcases HF.out.2.2.2.2 with h0 | ⟨b, off, rfl, _, hc⟩
      · omega
      have c1 := hc k hlt
      have c2 := hc q (by omega)
      clear hc
      cases hgt : (FloatKind.f32.format.order (zs.getD k 0) (zs.getD q 0) == some .gt) with
      | true =>
        have HG := Lib.hid (HY'.out hgt)
        obtain ⟨x, hx⟩ : ∃ x, zs.getD k 0 = x := ⟨_, rfl⟩
        obtain ⟨y, hy⟩ : ∃ x, zs.getD q 0 = x := ⟨_, rfl⟩
        rw [hx] at c1 hgt
        rw [hy] at c2 hgt
        clear hx hy HY' HN'
        go_wp2
        go_round
        case rel => exact ⟨k + 1, by omega, by go_num, by rw [HG.out]⟩
        case measure => simp [intOf]; omega
      | false =>
        have HG := Lib.hid (HN'.out hgt)
        obtain ⟨x, hx⟩ : ∃ x, zs.getD k 0 = x := ⟨_, rfl⟩
        obtain ⟨y, hy⟩ : ∃ x, zs.getD q 0 = x := ⟨_, rfl⟩
        rw [hx] at c1 hgt
        rw [hy] at c2 hgt
        clear hx hy HY' HN'
        go_wp2
        go_round
        case rel => exact ⟨k + 1, by omega, by go_num, by rw [HG.out]⟩
        case measure => simp [intOf]; omega
    · obtain rfl : k = n := by omega
      go_wp2
      go_ret
      exact ⟨ret_i (congrArg (fun x : Nat => (x : Int)) HQ.out.symm), rfl⟩
end Go.Proofs.Ytpdgpoonblldgaa
