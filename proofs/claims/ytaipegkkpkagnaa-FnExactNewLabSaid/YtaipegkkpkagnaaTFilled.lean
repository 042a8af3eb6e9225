/-
  What FilledTensor returns, as the model and as the program make it. Conditions: the number fits its kind.
-/
import Derived.Test.YtaipegkkpkagnaaTRelu
import Derived.Test.YtaipegkkpkagnaaLike
namespace Go.Proofs.Ytaipegkkpkagnaa
open Go.RowKit Go.Deep Go.WideShapes Go.ChangeShapes

def vFilledTensor (r c : Int) (x : Nat) : Int × Int × Bool × List Nat := if (sideB r && sideB c) = true then (r, c, true, (List.range (r.toNat * c.toNat)).map fun _ => canon .f32 x) else (0, 0, false, [])
theorem side_nat {r c : Int} (h : (sideB r && sideB c) = true) : ∃ R C : Nat, r = R ∧ c = C ∧ 1 ≤ R ∧ R ≤ 16 ∧ 1 ≤ C ∧ C ≤ 16 := by
  simp only [Bool.and_eq_true, sideB_iff] at h
  exact ⟨r.toNat, c.toNat, by omega, by omega, by omega, by omega, by omega, by omega⟩
theorem side_mul {R C : Nat} (h2 : R ≤ 16) (h4 : C ≤ 16) : R * C ≤ 256 := Nat.mul_le_mul h2 h4
theorem vFilledTensor_len (r c : Int) (x : Nat) : (vFilledTensor r c x).2.2.2.length ≤ 1048576 := by
  unfold vFilledTensor
  split
  · rename_i h
    obtain ⟨R, C, rfl, rfl, h1, h2, h3, h4⟩ := side_nat h
    have := side_mul h2 h4
    simp; omega
  · simp

theorem made_undrew {R C : Int} {f : Nat → Nat} {w wr : World} {s : Value} (h : MadeAt R C f w s wr.drew) : MadeAt R C f w s wr := by
  obtain ⟨gb, h0, a, cap, ys, h1, h2, h3, h4, h5, h6, h7⟩ := h
  exact ⟨gb, h0, a, cap, ys, h1, h2, h3, h4, h5, ⟨h6.os, h6.tape, h6.output, h6.size, h6.block⟩, h7⟩
set_option maxHeartbeats 2000000 in
theorem c_l02Filled (R C n x : Nat) (hR : R ≤ 16) (hC : C ≤ 16) (hn : R * C = n) (hx : x < 2 ^ 32) (w : World) :
    Calls Try.prog 136 #[.int .i64 R, .int .i64 C, .float .f32 x] w (RetV R C ((List.range n).map fun _ => canon .f32 x) w) := by
  have h256 : n ≤ 256 := by rw [← hn]; exact side_mul hR hC
  have i1 : (R : Int) * (C : Int) = (n : Int) := by rw [← hn]; exact (Int.natCast_mul R C).symm
  have i2 : IntKind.i64.wrap ((R : Int) * (C : Int)) = (n : Int) := by rw [i1]; exact IntWalk.i64_in _ (by omega)
  have HX := Lib.hid hx
  obtain ⟨i0, hi, hz0, hz1, hz2⟩ := info_parts info_f32
  have HI := Lib.hid hi
  have HZ0 := Lib.hid hz0
  have HZ1 := Lib.hid hz1
  have HZ2 := Lib.hid hz2
  clear hi hz0 hz1 hz2 hn hx
  go_enter Try.func136, Try.ntmps136
  go_wp2_with fail
  have hm : MadeAt (R : Int) (C : Int) (fun _ => canon .f32 x) w (.pointer (some ⟨w.heap.size + 1 + 1, 0, none⟩)) (((w.alloc (.cells #[.int .i64 0, .int .i64 0, .slice none 0 0] 41)).alloc (.cells #[] 22)).alloc (.cells #[.int .i64 R, .int .i64 C, .slice (some ⟨w.heap.size + 1, 0, none⟩) 0 0] 41)) := made_undrew (made_first' (R : Int) (C : Int) (fun _ => canon .f32 x) w _ rfl)
  obtain ⟨gb, hgb, hm⟩ := hm
  simp only [Value.pointer.injEq, Option.some.injEq, Addr.mk.injEq, and_true] at hgb
  rw [hgb]
  have HM := Lib.hid hm
  clear hm
  generalize ((w.alloc (.cells #[.int .i64 0, .int .i64 0, .slice none 0 0] 41)).alloc (.cells #[] 22)).alloc (.cells #[.int .i64 R, .int .i64 C, .slice (some ⟨w.heap.size + 1, 0, none⟩) 0 0] 41) = w0 at HM ⊢
  clear hgb
  go_loopw [8] (fun i wr => MadeRel R C (fun _ => canon .f32 x) n gb w i wr) (fun i _ => n - (intOf i).toNat)
  case atStart => exact ⟨0, Nat.zero_le _, rfl, HM.out⟩
  case round =>
    obtain ⟨k, hk, rfl, b, cp, ys, hgb, hy, hb, ho, he, hbl, hr⟩ := hrel
    have hk0 : (0 : Int) ≤ (k : Int) := by omega
    have HB := Lib.hid hb
    have HO := Lib.hid ho
    have HE := Lib.hid he
    have HL := Lib.hid hbl
    have HR := Lib.hid hr
    have HY := Lib.hid hy
    obtain ⟨q0, q1, q2, q3⟩ := tb hb
    obtain ⟨f0, f1, f2⟩ := tbf hb
    clear hb ho he hbl hr hy
    by_cases hlt : k < n
    · have hlt' : (k : Int) < (n : Int) := by omega
      have A1 := Lib.hid (show ys.length + 1 ≤ maxLen by have := HY.out; unfold maxLen; omega)
      have A2 := Lib.hid (show (ys.length + 1) * 4 ≤ 140737488355328 by have := HY.out; omega)
      have A3 := Lib.hid HL.out.size
      have A4 := Lib.hid (show canon .f32 x = (fun _ => canon .f32 x) k from rfl)
      go_wp2_with (at_builtin; refine wpList_append_any _ rfl (.tmp 21) (.tmp 23) 25 rfl w.heap.size 22 i0 (.float .f32 0) 1 4 Try.underlying25 HI.out HZ0.out HZ1.out HZ2.out rfl Nat.one_pos (.slice b ys.length cp) ys.length (ys.map (Value.float .f32)) rfl (own0 HO.out) (wr.heap.size + 1) (some ⟨wr.heap.size, 0, none⟩) 1 1 [.float .f32 x] rfl reads0 (one_f32 _) A1.out A2.out (base0 A3.out) ?_; intro v' w' hown hgr hat; obtain ⟨a', c', rfl⟩ := ownsRow_slice hown; obtain ⟨⟨s1, s2⟩, hmade⟩ := app0 hgb HB.out HO.out HL.out HR.out HE.out HY.out HX.out A4.out hown hgr; have HMD := Lib.hid hmade; clear hown hgr hat hmade)
      go_roundw
      case rel => exact ⟨k + 1, by omega, by go_num, HMD.out⟩
      case measure => simp [intOf]; omega
    · obtain rfl : k = n := by omega
      obtain ⟨v0, v1, v2, v3⟩ := tb HR.out
      obtain ⟨e0, e1, e2⟩ := tbf HR.out
      go_wp2_with fail
      exact bodyPost_ret (v := .agg #[.int .i64 R, .int .i64 C, .slice b ys.length cp]) (by simp [results, Try.results136, go_sem, v0, v1, v2]) rfl (made_end HO.out HL.out HR.out HE.out)
def FillRel (x n gd : Nat) (w : World) (i : Value) (wr : World) : Prop :=
  ∃ k : Nat, k ≤ n ∧ i = .int .i64 k ∧ wr.ownsRow w.heap.size 22 1 (.slice (some ⟨gd, 0, none⟩) n n) n (List.replicate k (Value.float .f32 x) ++ List.replicate (n - k) (Value.float .f32 0)) ∧ Below w.heap.size w wr ∧ Blk wr w.heap.size 41 #[.int .i64 0, .int .i64 0, .slice none 0 0]
theorem fill_set (k n x : Nat) (h : k < n) : (List.replicate k (Value.float .f32 x) ++ List.replicate (n - k) (Value.float .f32 0)).set k (.float .f32 x) = List.replicate (k + 1) (Value.float .f32 x) ++ List.replicate (n - (k + 1)) (Value.float .f32 0) := by
  rw [List.set_append_right _ _ (by simp), List.length_replicate, Nat.sub_self]
  obtain ⟨m, hm⟩ : ∃ m, n - k = m + 1 := ⟨n - k - 1, by omega⟩
  rw [hm, List.replicate_succ, List.set_cons_zero, show n - (k + 1) = m by omega, List.replicate_succ', List.append_assoc]
  rfl
end Go.Proofs.Ytaipegkkpkagnaa
