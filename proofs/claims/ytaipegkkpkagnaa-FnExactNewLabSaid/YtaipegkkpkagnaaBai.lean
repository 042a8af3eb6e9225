/-
  Batches: values and both sides. Conditions: the cells can be read.
-/
import Derived.Test.YtaipegkkpkagnaaShr
import Derived.Test.YtaipegkkpkagnaaApp
import Derived.Test.YtaipegkkpkagnaaFun
import Derived.Deep.RegionLaw
import Derived.Maps.OwnSet
import Derived.Maps.Views
namespace Go.Proofs.Ytaipegkkpkagnaa
open Go.RowKit Go.Deep Go.WideShapes Go.ChangeShapes
set_option linter.unusedVariables false
attribute [local go_sem] World.drewN_zero

def batK (n b : Nat) : Nat := (n + b - 1) / b
theorem batK_pos {n b : Nat} (h1 : 1 ≤ n) (h2 : 1 ≤ b) : 1 ≤ batK n b := by
  unfold batK
  rw [Nat.le_div_iff_mul_le (by omega)]
  omega
theorem batK_le {n b : Nat} (h1 : n ≤ 16) (h2 : 1 ≤ b) (h3 : b ≤ 16) : batK n b ≤ 31 := by
  unfold batK
  exact Nat.le_trans (Nat.div_le_self _ _) (by omega)
def batFrom (n b t : Nat) : Nat := t % batK n b * b
theorem batFrom_lt {n b t : Nat} (h1 : 1 ≤ n) (h2 : 1 ≤ b) : batFrom n b t < n := by
  have hk := batK_pos h1 h2
  have h3 : t % batK n b ≤ batK n b - 1 := by have := Nat.mod_lt t (show 0 < batK n b by omega); omega
  have h4 : batK n b * b ≤ n + b - 1 := Nat.div_mul_le_self _ _
  have h5 : (batK n b - 1) * b + b = batK n b * b := by rw [← Nat.succ_mul]; congr 1; omega
  have h6 := Nat.mul_le_mul_right b h3
  unfold batFrom
  omega
def batTo (n b t : Nat) : Nat := min n (batFrom n b t + b)
def batS (n b : Nat) (s : Int) (t : Nat) : Int := (s + 7919 * ((t / batK n b : Nat) : Int)) % 2147483648
theorem batS_rng (n b : Nat) (s : Int) (t : Nat) : 0 ≤ batS n b s t ∧ batS n b s t ≤ 2147483647 := by unfold batS; omega
def batRows (n b : Nat) (s : Int) (t : Nat) : List Int := ((shufR n (nextS (batS n b s t))).1.drop (batFrom n b t)).take (batTo n b t - batFrom n b t)
theorem batRows_length {n b : Nat} (h1 : 1 ≤ n) (h2 : 1 ≤ b) (s : Int) (t : Nat) : (batRows n b s t).length = batTo n b t - batFrom n b t := by
  have := batFrom_lt (t := t) h1 h2
  unfold batRows
  rw [List.length_take, List.length_drop, shufR_length h1]
  unfold batTo
  omega
def isStepV (t : Int) : Bool := decide (0 ≤ t) && decide (t ≤ 1000)
theorem isStepV_yes {n : Int} (h : isStepV n = true) : ∃ m : Nat, n = m ∧ m ≤ 1000 := by
  simp [isStepV] at h
  obtain ⟨m, rfl⟩ := Int.eq_ofNat_of_zero_le (show 0 ≤ n by omega)
  exact ⟨m, rfl, by omega⟩
def okBat (n b s t : Int) : Bool := isSideV n && isSideV b && isSeedV s && isStepV t
def vBatchOf (n b s t : Int) : Bool × List Int := if okBat n b s t = true then (true, batRows n.toNat b.toNat s t.toNat) else (false, [])
theorem vBatchOf_yes {n b t : Nat} {s : Int} (h : okBat n b s t = true) : vBatchOf n b s t = (true, batRows n b s t) := by unfold vBatchOf; rw [if_pos h]; simp
theorem vBatchOf_no {n b s t : Int} (h : okBat n b s t = false) : vBatchOf n b s t = (false, []) := by unfold vBatchOf; rw [h]; simp
theorem okBat_parts {n b s t : Int} (h : okBat n b s t = true) : isSideV n = true ∧ isSideV b = true ∧ isSeedV s = true ∧ isStepV t = true := by
  simp only [okBat, Bool.and_eq_true] at h
  exact ⟨h.1.1.1, h.1.1.2, h.1.2, h.2⟩
theorem vBatchOf_len (n b s t : Int) : (vBatchOf n b s t).2.length ≤ 16 := by
  cases h : okBat n b s t with
  | true =>
    obtain ⟨h1, h2, h3, h4⟩ := okBat_parts h
    obtain ⟨m, rfl, m1, m2⟩ := isSideV_yes h1
    obtain ⟨c, rfl, c1, c2⟩ := isSideV_yes h2
    obtain ⟨u, rfl, u2⟩ := isStepV_yes h4
    rw [vBatchOf_yes h]
    show (batRows m c s u).length ≤ 16
    rw [batRows_length m1 c1]
    unfold batTo
    omega
  | false => rw [vBatchOf_no h]; simp
/-! copies of integers -/
theorem rows_reads {w : World} {a : Option Addr} {n cap : Nat} {zs : List Int} (h : IsRow .i64 w a n cap zs) : Reads w w.heap.size 1 a n (zs.map toV) := by
  obtain ⟨h1, h2, h3, h4, h5⟩ := h
  refine ⟨by simp [h3], fun hn => ?_⟩
  rcases h5 with h0 | ⟨b, off, rfl, hb, hc⟩
  · omega
  · refine ⟨_, rfl, hb, fun j u hu => ?_⟩
    have hj : j < zs.length := by
      have := (List.getElem?_eq_some_iff.1 hu).1
      simpa using this
    rw [add_plain, hc j (by omega)]
    simp [hj] at hu
    simp [List.getD, hj, ← hu, toV]
theorem ones_i64 (zs : List Int) : ∀ u ∈ zs.map toV, u.oneCell' = true := by
  intro u hu
  obtain ⟨x, _, rfl⟩ := List.mem_map.1 hu
  rfl
theorem rowKept {w w' : World} {a : Option Addr} {len cap : Nat} {zs : List Int} (h : IsRow .i64 w a len cap zs) (hb : Below w.heap.size w w') : IsRow .i64 w' a len cap zs := by
  obtain ⟨h1, h2, h3, h4, h5⟩ := h
  refine ⟨h1, h2, h3, h4, ?_⟩
  rcases h5 with h0 | ⟨b, off, ha, hlt, hc⟩
  · exact .inl h0
  · refine .inr ⟨b, off, ha, Nat.lt_of_lt_of_le hlt hb.size, fun i hi => ?_⟩
    rw [hb.cell (p := ⟨b, off + i, none⟩) hlt]
    exact hc i hi
/-- a part of a row of the call's own -/
theorem part_row {w : World} {B g c : Nat} {ys : List Int} (h : OwnI w B (some ⟨g, 0, none⟩) c ys) {lo hi : Nat} (hl : lo ≤ hi) (hh : hi ≤ ys.length) : IsRow .i64 w (some ⟨g, lo, none⟩) (hi - lo) (c - lo) ((ys.drop lo).take (hi - lo)) := by
  have hc := h.cap_ok
  have hlt : g < w.heap.size := (h.lt g rfl).2
  refine ⟨by omega, by omega, by simp; omega, fun y hy => h.2 y (List.mem_of_mem_drop (List.mem_of_mem_take hy)), .inr ⟨g, lo, rfl, hlt, fun i hi' => ?_⟩⟩
  rw [(ownI_cell h (show lo + i < ys.length by omega)).1]
  congr 2
  simp [List.getD, hi']
theorem c_l00Min (x y z : Int) (hz : min x y = z) (w : World) : Calls Try.prog 144 #[.int .i64 x, .int .i64 y] w fun e w' => e = .returned (.int .i64 z) ∧ w = w' := by
  by_cases h : x < y
  · obtain rfl : x = z := by omega
    clear hz
    go_enter Try.func144, Try.ntmps144
    go_wp2_with fail
    go_ret
    exact ⟨rfl, rfl⟩
  · obtain rfl : y = z := by omega
    have h' : y ≤ x := by omega
    clear h hz
    go_enter Try.func144, Try.ntmps144
    go_wp2_with fail
    go_ret
    exact ⟨rfl, rfl⟩

open Go.RowKit Go.Deep Go.WideShapes Go.ChangeShapes Go.Maps

def RawB (v : Value) : Option (DataW Value × List MemPlace) := some (.held v, [])
theorem keyLawB : Keyed Try.prog 2 := int_keyed Try.underlying2
theorem zero_order (w : World) : (zeroValue 86).run Try.prog w = .ok (.slice none 0 0) w := by kernel_rfl
theorem tb4 {w : World} {g : Nat} {t : TypeId} {v0 v1 v2 v3 : Value} (h : Blk w g t #[v0, v1, v2, v3]) : w.cell? ⟨g, 0, none⟩ = some v0 ∧ w.cell? ⟨g, 1, none⟩ = some v1 ∧ w.cell? ⟨g, 2, none⟩ = some v2 ∧ w.cell? ⟨g, 3, none⟩ = some v3 := ⟨h.cell 0, h.cell 1, h.cell 2, h.cell 3⟩
theorem tbf4 {w : World} {g : Nat} {t : TypeId} {cs : Array Value} (h : Blk w g t cs) : w.frozen? ⟨g, 0, none⟩ = false ∧ w.frozen? ⟨g, 1, none⟩ = false ∧ w.frozen? ⟨g, 2, none⟩ = false ∧ w.frozen? ⟨g, 3, none⟩ = false := ⟨h.frozen 0, h.frozen 1, h.frozen 2, h.frozen 3⟩
theorem store4 {w : World} {g : Nat} {t : TypeId} {x0 x1 x2 x3 y0 y1 y2 y3 : Value} (h : Blk w g t #[x0, x1, x2, x3]) :
    Blk ((((w.setCell ⟨g, 0, none⟩ y0).setCell ⟨g, 1, none⟩ y1).setCell ⟨g, 2, none⟩ y2).setCell ⟨g, 3, none⟩ y3) g t #[y0, y1, y2, y3] ∧ w.grownBy ((((w.setCell ⟨g, 0, none⟩ y0).setCell ⟨g, 1, none⟩ y1).setCell ⟨g, 2, none⟩ y2).setCell ⟨g, 3, none⟩ y3) (some g) := by
  constructor
  · unfold Blk at h ⊢
    simp [World.setCell, Array.getElem?_modify, h]
  · have st : ∀ (w : World) (i : Nat) (u : Value), w.grownBy (w.setCell ⟨g, i, none⟩ u) (some g) := fun w i u =>
      ⟨rfl, rfl, rfl, by simp, fun k _ hk => Below.heap_setCell w ⟨g, i, none⟩ u k (fun e => hk (by simp [e]))⟩
    exact grown_set (grown_set (grown_set (st w 0 y0) (st _ 1 y1)) (st _ 2 y2)) (st _ 3 y3)
theorem key_at {j : Nat} (h : j ≤ 1048576) : keyOf Try.prog 2 (.int .i64 j) = some (.int .i64 j) := keyOf_int_mk Try.underlying2 (by simp [Lit.wf, IntKind.min, IntKind.max, IntKind.signed, IntKind.bits]; omega)
theorem c_isStepV (n : Int) (w : World) : Calls Try.prog 132 #[.int .i64 n] w fun e w' => e = .returned (.bool (isStepV n)) ∧ w = w' := by
  unfold isStepV
  by_cases h1 : 0 ≤ n
  · by_cases h2 : n ≤ 1000
    · go_enter Try.func132, Try.ntmps132
      go_wp2_with fail
      go_ret
      exact ⟨by simp [h1, h2], rfl⟩
    · go_enter Try.func132, Try.ntmps132
      go_wp2_with fail
      go_ret
      exact ⟨by simp [h2], rfl⟩
  · go_enter Try.func132, Try.ntmps132
    go_wp2_with fail
    go_ret
    exact ⟨by simp; omega, rfl⟩
end Go.Proofs.Ytaipegkkpkagnaa
