/-
  What a sum with a carry returns: its steps on one pattern for all not-a-numbers. Conditions: the list's elements can be read.
-/
import Derived.Test.YthcacaafaifnfaaSums
namespace Go.Proofs.Ythcacaafaifnfaa
open Go.RowKit

def carStep (p : Nat × Nat) (z : Nat) : Nat × Nat :=
  let y := cop .sub .f32 (canon .f32 z) p.2
  let t := cop .add .f32 p.1 y
  (t, cop .sub .f32 (cop .sub .f32 t p.1) y)
def ccar (zs : List Nat) : Nat × Nat := zs.foldl carStep (0, 0)
theorem ccar_snoc (zs : List Nat) (k : Nat) (h : k < zs.length) : ccar (zs.take (k + 1)) = carStep (ccar (zs.take k)) (zs.getD k 0) := by
  rw [take_snoc zs k h]; unfold ccar; rw [List.foldl_append]; rfl
theorem ccar_one {zs : List Nat} {k r q : Nat} (h : k < zs.length) (hr : canon .f32 r = (ccar (zs.take k)).1) (hq : canon .f32 q = (ccar (zs.take k)).2) :
    (∀ w1 w2, canon .f32 (fval .add .f32 r (fval .sub .f32 (zs.getD k 0) q w1) w2) = (ccar (zs.take (k + 1))).1) ∧
    (∀ w1 w2 w3 w4, canon .f32 (fval .sub .f32 (fval .sub .f32 (fval .add .f32 r (fval .sub .f32 (zs.getD k 0) q w1) w2) r w3) (fval .sub .f32 (zs.getD k 0) q w1) w4) = (ccar (zs.take (k + 1))).2) := by
  rw [ccar_snoc zs k h]
  simp only [canon_fval, hr, hq, carStep]
  exact ⟨fun _ _ => trivial, fun _ _ _ _ => trivial⟩

def CarRel (zs : List Nat) (w : World) (s c i : Value) (wr : World) : Prop :=
  ∃ k r q n : Nat, k ≤ zs.length ∧ i = .int .i64 k ∧ s = .float .f32 r ∧ c = .float .f32 q ∧ canon .f32 r = (ccar (zs.take k)).1 ∧ canon .f32 q = (ccar (zs.take k)).2 ∧ r < 2 ^ 32 ∧ wr = w.drewN n

theorem c_iSumCarried_no (a : Option Addr) (len cap : Nat) (w : World) (h : 256 < len) : Calls Try.prog 12 #[.slice a len cap] w (RetNo .f32 w) := by
  have h' : 256 < (len : Int) := by omega
  clear h
  go_enter Try.func12, Try.ntmps12
  go_wp2
  go_ret2
  exact ⟨rfl, rfl⟩
theorem c_iSumCarried (a : Option Addr) (len cap : Nat) (zs : List Nat) (w : World) (h : IsFloats .f32 w a len cap zs) (hl : len ≤ 256) : Calls Try.prog 12 #[.slice a len cap] w (RetFT .f32 (ccar zs).1 w) := by
  obtain ⟨h1, h2, h3, h4, h5⟩ := h
  have hlen : (len : Int) ≤ 256 := by omega
  have H3 := Lib.hid h3
  have H5 := Lib.hid h5
  clear h3 h4 h5 h1 h2 hl
  go_enter Try.func12, Try.ntmps12
  go_wp2
  go_loopw [4, 5, 15] (fun s c i wr => CarRel zs w s c i wr) (fun _ _ i _ => len - (intOf i).toNat)
  case atStart => exact ⟨0, 0, 0, 0, Nat.zero_le _, rfl, rfl, rfl, by rw [canon_zero]; rfl, by rw [canon_zero]; rfl, by decide, rfl⟩
  case round =>
    obtain ⟨k, r, q, n, hk, rfl, rfl, rfl, hr, hq, hr2, rfl⟩ := hrel
    have HR := Lib.hid hr
    have HQ := Lib.hid hq
    have HR2 := Lib.hid hr2
    rw [H3.out] at hk
    clear hr hq hr2
    by_cases hlt : k < len
    · rcases H5.out with h0 | ⟨b, off, ha, _, hc⟩
      · omega
      · subst ha
        have hcell := hc k hlt
        have HO' := Lib.hid (ccar_one (show k < zs.length by rw [H3.out]; exact hlt) HR.out HQ.out)
        clear hc
        go_wp2
        go_roundw
        case rel => exact ⟨k + 1, _, _, _, by rw [H3.out]; omega, by go_num, rfl, rfl, HO'.out.1 _ _, HO'.out.2 _ _ _ _, fval_lt .add .f32 _ _ _, rfl⟩
        case measure => simp [intOf]; omega
    · go_wp2
      go_ret2
      exact ⟨r, _, by rw [HR.out, List.take_of_length_le (by rw [H3.out]; omega)], HR2.out, rfl, rfl⟩
end Go.Proofs.Ythcacaafaifnfaa
