/-
  Columns of a tensor, as the program takes them. Conditions: the tensor's numbers can be read.
-/
import Derived.Test.YtkfpaehalfjhhaaRow
namespace Go.Proofs.Ytkfpaehalfjhhaa
open Go.RowKit Go.Deep Go.WideShapes Go.ChangeShapes

def colL (z : List Nat) (R C K : Nat) : List Nat := (List.range R).map fun i => z.getD (i * C + K) 0
theorem colL_length (z : List Nat) (R C K : Nat) : (colL z R C K).length = R := by simp [colL]
theorem colL_succ (z : List Nat) (k C K : Nat) : colL z (k + 1) C K = colL z k C K ++ [z.getD (k * C + K) 0] := by
  unfold colL; rw [List.range_succ, List.map_append]; rfl
theorem col_facts {R C K k n : Nat} (hR : R ≤ 16) (hC : C ≤ 16) (hK : K < C) (hk : k < R) (hn : n = R * C) : k * C + K < n ∧ n ≤ 256 ∧ (k : Int) * (C : Int) = ((k * C : Nat) : Int) ∧ k * C ≤ 256 := by
  have e1 : (k + 1) * C ≤ R * C := Nat.mul_le_mul_right C hk
  have e2 : (k + 1) * C = k * C + C := by rw [Nat.add_mul, Nat.one_mul]
  have e3 : R * C ≤ 16 * 16 := Nat.mul_le_mul hR hC
  exact ⟨by omega, by omega, (Int.natCast_mul k C).symm, by omega⟩

/-- the first k of n numbers are made, in a row of the call's own -/
def partC (ys : List Nat) (n : Nat) : List Value := ys.map (Value.float .f32) ++ List.replicate (n - ys.length) (Value.float .f32 0)
theorem partC_set (ys : List Nat) (n v : Nat) (h : ys.length < n) : (partC ys n).set ys.length (.float .f32 v) = partC (ys ++ [v]) n := by
  unfold partC
  rw [List.set_append_right _ _ (by simp), List.length_map, Nat.sub_self]
  obtain ⟨m, hm⟩ : ∃ m, n - ys.length = m + 1 := ⟨n - ys.length - 1, by omega⟩
  rw [hm, List.replicate_succ, List.set_cons_zero, show n - (ys ++ [v]).length = m by simp; omega]
  simp
theorem partC_all (ys : List Nat) : partC ys ys.length = ys.map (Value.float .f32) := by simp [partC]

def ColRel (z : List Nat) (R C K gd : Nat) (a : Option Addr) (n cap : Nat) (w : World) (i : Value) (wr : World) : Prop :=
  ∃ k : Nat, k ≤ R ∧ i = .int .i64 k ∧ wr.ownsRow w.heap.size 46 1 (.slice (some ⟨gd, 0, none⟩) R R) R (partC (colL z k C K) R) ∧ Below w.heap.size w wr ∧ Blk wr w.heap.size 26 #[.int .i64 R, .int .i64 C, .slice a n cap]
set_option maxHeartbeats 2000000 in
theorem c_iColumn (R C K : Nat) (a : Option Addr) (n cap : Nat) (zs : List Nat) (w : World) (h : IsFloats .f32 w a n cap zs) (hR0 : 1 ≤ R) (hR : R ≤ 16) (hC : C ≤ 16) (hK : K < C) (hn : n = R * C) :
    Calls Try.prog 71 #[.agg #[.int .i64 R, .int .i64 C, .slice a n cap], .int .i64 K] w (RetRow (colL zs R C K) w) := by
  have HF := Lib.hid h
  have HN := Lib.hid hn
  obtain ⟨zr, hzr⟩ : ∃ zr, colL zs R C K = zr := ⟨_, rfl⟩
  have HZ := Lib.hid hzr
  have HL := Lib.hid (show zr.length = R by rw [← hzr, colL_length])
  rw [hzr]
  obtain ⟨i0, hi, hz0, hz1, hz2⟩ := info_parts info_f32
  have HI := Lib.hid hi
  have HZ0 := Lib.hid hz0
  have HZ1 := Lib.hid hz1
  have HZ2 := Lib.hid hz2
  clear h hn hi hz0 hz1 hz2 hzr
  go_enter Try.func71, Try.ntmps71
  go_wp2_with (at_make; refine wpList_make_full _ rfl _ _ 22 rfl w.heap.size 46 i0 (.float .f32 0) 1 Try.underlying22 HI.out HZ0.out HZ1.out _ _ _ _ R rfl rfl rfl rfl ?c1 ?c2 ?c3 ?_)
  case c1 => rw [HZ2.out]; omega
  case c2 => unfold maxLen; omega
  case c3 => simp
  intro w1 hown hgrow
  have hb0 : Below w.heap.size w (w.alloc (.cells #[.int .i64 R, .int .i64 C, .slice a n cap] 26)) := (Below.refl _ _).alloc (Nat.le_refl _) _
  have hb1 := hb0.grown hgrow hb0.size (fun k h => by cases h)
  rw [toList_madeCells_one] at hown
  have k1 := Blk.new w 26 #[.int .i64 R, .int .i64 C, .slice a n cap]
  have k1 : Blk w1 w.heap.size 26 #[.int .i64 R, .int .i64 C, .slice a n cap] := (hgrow.block _ k1.lt (by simp)).trans k1
  have K1 := Lib.hid k1
  have HO := Lib.hid hown
  have HB := Lib.hid hb1
  obtain ⟨p0, p1, p2, p3⟩ := tb k1
  clear hown hgrow hb0 hb1 k1
  go_wp2_with fail
  clear p0 p1 p2 p3
  go_loopw [12] (fun i wr => ColRel zs R C K (w.heap.size + 1) a n cap w i wr) (fun i _ => R - (intOf i).toNat)
  case atStart => exact ⟨0, Nat.zero_le _, rfl, by simpa [partC, colL] using HO.out, HB.out, K1.out⟩
  case round =>
    obtain ⟨k, hk, rfl, ho, hbl, k1⟩ := hrel
    have HO' := Lib.hid ho
    have HL' := Lib.hid hbl
    have K1' := Lib.hid k1
    obtain ⟨p0, p1, p2, p3⟩ := tb k1
    have hk0 : (0 : Int) ≤ (k : Int) := by omega
    clear ho hbl k1
    by_cases hlt : k < R
    · have hlt' : (k : Int) < (R : Int) := by omega
      obtain ⟨f1, f2, f3, f4⟩ := col_facts hR hC hK hlt HN.out
      obtain ⟨P, hP⟩ : ∃ P, k * C = P := ⟨_, rfl⟩
      rw [hP] at f1 f3 f4
      rcases HF.out.2.2.2.2 with h' | ⟨ab, off, rfl, hab, hcell⟩
      · omega
      have hx : wr.cell? ⟨ab, off + (P + K), none⟩ = some (.float .f32 (zs.getD (P + K) 0)) := (HL'.out.cell (p := ⟨ab, off + (P + K), none⟩) hab).trans (hcell (P + K) f1)
      obtain ⟨y, hy⟩ : ∃ y, zs.getD (P + K) 0 = y := ⟨_, rfl⟩
      rw [hy] at hx
      have HY := Lib.hid (show zs.getD (k * C + K) 0 = y by rw [hP]; exact hy)
      have hi1 : (P : Int) + (K : Int) < (n : Int) := by omega
      have hi0 : (0 : Int) ≤ (P : Int) + (K : Int) := by omega
      have hfz : wr.frozen? ⟨w.heap.size + 1, k, none⟩ = false := HO'.out.frozenAt k
      obtain ⟨v0, hv0⟩ : ∃ v, wr.cell? ⟨w.heap.size + 1, k, none⟩ = some v := by
        rw [HO'.out.cellAt k (by omega)]
        exact ⟨_, List.getElem?_eq_getElem (by rw [HO'.out.1]; omega)⟩
      clear hcell hy hP f1
      go_wp2_with fail
      go_roundw
      case rel =>
        obtain ⟨o1, o2⟩ := HO'.out.stored k (.float .f32 y)
        have e : (partC (colL zs k C K) R).set k (.float .f32 y) = partC (colL zs (k + 1) C K) R := by
          rw [colL_succ, HY.out]
          have := partC_set (colL zs k C K) R y (by rw [colL_length]; exact hlt)
          rw [colL_length] at this
          exact this
        rw [e] at o1
        exact ⟨k + 1, by omega, by go_num, o1, HL'.out.setCell (by simp) _, K1'.out.off o2 (by omega)⟩
      case measure => simp [intOf]; omega
    · obtain rfl : k = R := by omega
      go_wp2_with fail
      go_ret
      have ho := HO'.out
      rw [HZ.out] at ho
      have e : partC zr k = zr.map (Value.float .f32) := by rw [← HL.out]; exact partC_all zr
      rw [e] at ho
      refine ⟨some ⟨w.heap.size + 1, 0, none⟩, k, by rw [HL.out]; rfl, ⟨by rw [HL.out]; exact ho, fun y hy => ?_⟩, HL'.out⟩
      rw [← HZ.out] at hy
      obtain ⟨i, hi, rfl⟩ := List.mem_map.1 hy
      have hf := (col_facts hR hC hK (List.mem_range.1 hi) HN.out).1
      exact HF.out.2.2.2.1 _ (by simp [List.getD, show i * C + K < zs.length by rw [HF.out.2.2.1]; exact hf])
end Go.Proofs.Ytkfpaehalfjhhaa
