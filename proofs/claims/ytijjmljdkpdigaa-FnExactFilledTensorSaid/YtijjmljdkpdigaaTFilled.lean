/-
  What FilledTensor returns, as the model and as the program make it. Conditions: the number fits its kind.
-/
import Derived.Test.YtijjmljdkpdigaaTRelu
import Derived.Test.YtijjmljdkpdigaaLike
namespace Go.Proofs.Ytijjmljdkpdigaa
open Go.RowKit Go.Deep Go.WideShapes Go.ChangeShapes

def vFilledTensor (r c : Int) (x : Nat) : Int × Int × Bool × List Nat := if (sideB r && sideB c) = true then (r, c, true, (List.range (r.toNat * c.toNat)).map fun _ => canon .f32 x) else (0, 0, false, [])
theorem side_nat {r c : Int} (h : (sideB r && sideB c) = true) : ∃ R C : Nat, r = R ∧ c = C ∧ 1 ≤ R ∧ R ≤ 16 ∧ 1 ≤ C ∧ C ≤ 16 := by
  simp only [Bool.and_eq_true, sideB_iff] at h
  exact ⟨r.toNat, c.toNat, by omega, by omega, by omega, by omega, by omega, by omega⟩
theorem side_mul {R C : Nat} (h2 : R ≤ 16) (h4 : C ≤ 16) : R * C ≤ 256 := Nat.mul_le_mul h2 h4
theorem vFilledTensor_len (r c : Int) (x : Nat) : (vFilledTensor r c x).2.2.2.length ≤ 1048576 := by
  unfold vFilledTensor
  split
  · rename_i h
    obtain ⟨R, C, rfl, rfl, h1, h2, h3, h4⟩ := side_nat h
    have := side_mul h2 h4
    simp; omega
  · simp

theorem made_undrew {R C : Int} {f : Nat → Nat} {w wr : World} {s : Value} (h : MadeAt R C f w s wr.drew) : MadeAt R C f w s wr := by
  obtain ⟨gb, h0, a, cap, ys, h1, h2, h3, h4, h5, h6, h7⟩ := h
  exact ⟨gb, h0, a, cap, ys, h1, h2, h3, h4, h5, ⟨h6.os, h6.tape, h6.output, h6.size, h6.block⟩, h7⟩
set_option maxHeartbeats 2000000 in
theorem c_l02Filled (R C n x : Nat) (hR : R ≤ 16) (hC : C ≤ 16) (hn : R * C = n) (hx : x < 2 ^ 32) (w : World) :
    Calls Try.prog 56 #[.int .i64 R, .int .i64 C, .float .f32 x] w (RetV R C ((List.range n).map fun _ => canon .f32 x) w) := by
  have h256 : n ≤ 256 := by rw [← hn]; exact side_mul hR hC
  have i1 : (R : Int) * (C : Int) = (n : Int) := by rw [← hn]; exact (Int.natCast_mul R C).symm
  have i2 : IntKind.i64.wrap ((R : Int) * (C : Int)) = (n : Int) := by rw [i1]; exact IntWalk.i64_in _ (by omega)
  have HX := Lib.hid hx
  obtain ⟨i0, hi, hz0, hz1, hz2⟩ := info_parts info_f32
  have HI := Lib.hid hi
  have HZ0 := Lib.hid hz0
  have HZ1 := Lib.hid hz1
  have HZ2 := Lib.hid hz2
  clear hi hz0 hz1 hz2 hn hx
  go_enter Try.func56, Try.ntmps56
  go_wp2_with fail
  have hm : MadeAt (R : Int) (C : Int) (fun _ => canon .f32 x) w (.pointer (some ⟨w.heap.size + 1 + 1, 0, none⟩)) (((w.alloc (.cells #[.int .i64 0, .int .i64 0, .slice none 0 0] 27)).alloc (.cells #[] 31)).alloc (.cells #[.int .i64 R, .int .i64 C, .slice (some ⟨w.heap.size + 1, 0, none⟩) 0 0] 27)) := made_undrew (made_first' (R : Int) (C : Int) (fun _ => canon .f32 x) w _ rfl)
  obtain ⟨gb, hgb, hm⟩ := hm
  simp only [Value.pointer.injEq, Option.some.injEq, Addr.mk.injEq, and_true] at hgb
  rw [hgb]
  have HM := Lib.hid hm
  clear hm
  generalize ((w.alloc (.cells #[.int .i64 0, .int .i64 0, .slice none 0 0] 27)).alloc (.cells #[] 31)).alloc (.cells #[.int .i64 R, .int .i64 C, .slice (some ⟨w.heap.size + 1, 0, none⟩) 0 0] 27) = w0 at HM ⊢
  clear hgb
  go_loopw [8] (fun i wr => MadeRel R C (fun _ => canon .f32 x) n gb w i wr) (fun i _ => n - (intOf i).toNat)
  case atStart => exact ⟨0, Nat.zero_le _, rfl, HM.out⟩
  case round =>
    obtain ⟨k, hk, rfl, b, cp, ys, hgb, hy, hb, ho, he, hbl, hr⟩ := hrel
    have hk0 : (0 : Int) ≤ (k : Int) := by omega
    have HB := Lib.hid hb
    have HO := Lib.hid ho
    have HE := Lib.hid he
    have HL := Lib.hid hbl
    have HR := Lib.hid hr
    have HY := Lib.hid hy
    obtain ⟨q0, q1, q2, q3⟩ := tb hb
    obtain ⟨f0, f1, f2⟩ := tbf hb
    clear hb ho he hbl hr hy
    by_cases hlt : k < n
    · have hlt' : (k : Int) < (n : Int) := by omega
      have A1 := Lib.hid (show ys.length + 1 ≤ maxLen by have := HY.out; unfold maxLen; omega)
      have A2 := Lib.hid (show (ys.length + 1) * 4 ≤ 140737488355328 by have := HY.out; omega)
      have A3 := Lib.hid HL.out.size
      have A4 := Lib.hid (show canon .f32 x = (fun _ => canon .f32 x) k from rfl)
      go_wp2_with (at_builtin; refine wpList_append_any _ rfl (.tmp 21) (.tmp 23) 22 rfl w.heap.size 31 i0 (.float .f32 0) 1 4 Try.underlying22 HI.out HZ0.out HZ1.out HZ2.out rfl Nat.one_pos (.slice b ys.length cp) ys.length (ys.map (Value.float .f32)) rfl (own0 HO.out) (wr.heap.size + 1) (some ⟨wr.heap.size, 0, none⟩) 1 1 [.float .f32 x] rfl reads0 (one_f32 _) A1.out A2.out (base0 A3.out) ?_; intro v' w' hown hgr hat; obtain ⟨a', c', rfl⟩ := ownsRow_slice hown; obtain ⟨⟨s1, s2⟩, hmade⟩ := app0 hgb HB.out HO.out HL.out HR.out HE.out HY.out HX.out A4.out hown hgr; have HMD := Lib.hid hmade; clear hown hgr hat hmade)
      go_roundw
      case rel => exact ⟨k + 1, by omega, by go_num, HMD.out⟩
      case measure => simp [intOf]; omega
    · obtain rfl : k = n := by omega
      obtain ⟨v0, v1, v2, v3⟩ := tb HR.out
      obtain ⟨e0, e1, e2⟩ := tbf HR.out
      go_wp2_with fail
      exact bodyPost_ret (v := .agg #[.int .i64 R, .int .i64 C, .slice b ys.length cp]) (by simp [results, Try.results56, go_sem, v0, v1, v2]) rfl (made_end HO.out HL.out HR.out HE.out)
def FillRel (x n gd : Nat) (w : World) (i : Value) (wr : World) : Prop :=
  ∃ k : Nat, k ≤ n ∧ i = .int .i64 k ∧ wr.ownsRow w.heap.size 31 1 (.slice (some ⟨gd, 0, none⟩) n n) n (List.replicate k (Value.float .f32 x) ++ List.replicate (n - k) (Value.float .f32 0)) ∧ Below w.heap.size w wr ∧ Blk wr w.heap.size 27 #[.int .i64 0, .int .i64 0, .slice none 0 0]
theorem fill_set (k n x : Nat) (h : k < n) : (List.replicate k (Value.float .f32 x) ++ List.replicate (n - k) (Value.float .f32 0)).set k (.float .f32 x) = List.replicate (k + 1) (Value.float .f32 x) ++ List.replicate (n - (k + 1)) (Value.float .f32 0) := by
  rw [List.set_append_right _ _ (by simp), List.length_replicate, Nat.sub_self]
  obtain ⟨m, hm⟩ : ∃ m, n - k = m + 1 := ⟨n - k - 1, by omega⟩
  rw [hm, List.replicate_succ, List.set_cons_zero, show n - (k + 1) = m by omega, List.replicate_succ', List.append_assoc]
  rfl
set_option maxHeartbeats 1000000 in
theorem t_sFilledTensor (r c : Int) (x : Nat) (w : World) (hx : x < 4294967296) :
    Calls Try.prog 20 #[.int .i64 r, .int .i64 c, .float .f32 x] w (RetT (vFilledTensor r c x).1 (vFilledTensor r c x).2.1 (vFilledTensor r c x).2.2.1 (vFilledTensor r c x).2.2.2 w) := by
  have k2 := Blk.new w 27 #[.int .i64 0, .int .i64 0, .slice none 0 0]
  have b0 := (Below.refl w.heap.size w).alloc (Nat.le_refl _) (.cells #[.int .i64 0, .int .i64 0, .slice none 0 0] 27)
  have K2 := Lib.hid k2
  have B0 := Lib.hid b0
  clear k2 b0
  cases hv : (sideB r && sideB c) with
  | false =>
    have HV := Lib.hid hv
    have HX := Lib.hid (show vFilledTensor r c x = (0, 0, false, []) by unfold vFilledTensor; rw [if_neg (by rw [hv]; decide)])
    clear hv
    rw [HX.out]
    go_enter Try.func20, Try.ntmps20
    go_wp2_with fail
    generalize w.alloc (.cells #[.int .i64 0, .int .i64 0, .slice none 0 0] 27) = w1 at K2 B0 ⊢
    refine (c_l02Shape r c false HV.out _).mono ?_
    rintro e w' ⟨rfl, rfl⟩
    obtain ⟨q0, q1, q2, q3⟩ := tb K2.out
    obtain ⟨f0, f1, f2⟩ := tbf K2.out
    go_wp2_with fail
    exact bodyPost_ret (v := .tuple #[.agg #[.int .i64 0, .int .i64 0, .slice none 0 0], .bool false]) (by simp [results, Try.results20, go_sem, q0, q1, q2]) rfl ⟨none, 0, [], rfl, nil_own _ _, rfl, ((B0.out.setCell (Nat.le_refl _) _).setCell (Nat.le_refl _) _).setCell (Nat.le_refl _) _⟩
  | true =>
    obtain ⟨R, C, rfl, rfl, h1, h2, h3, h4⟩ := side_nat hv
    have HV := Lib.hid hv
    obtain ⟨n, hn⟩ : ∃ n, R * C = n := ⟨_, rfl⟩
    have HN := Lib.hid hn
    have HX := Lib.hid (show vFilledTensor R C x = ((R : Int), (C : Int), true, (List.range n).map fun _ => canon .f32 x) by unfold vFilledTensor; rw [if_pos hv]; simp [hn])
    clear hv hn
    rw [HX.out]
    go_enter Try.func20, Try.ntmps20
    go_wp2_with fail
    generalize w.alloc (.cells #[.int .i64 0, .int .i64 0, .slice none 0 0] 27) = w1 at K2 B0 ⊢
    refine (c_l02Shape _ _ true HV.out _).mono ?_
    rintro e w' ⟨rfl, rfl⟩
    go_wp2_with fail
    refine (c_l02Filled R C n x h2 h4 HN.out hx _).mono ?_
    rintro e w2 ⟨b, cc, ys, rfl, hf, hy, hb⟩
    have HW := Lib.hid (hf.base B0.out.size)
    have HY := Lib.hid hy
    have B1 := Lib.hid (Below.next B0.out hb)
    have K3 := Lib.hid (K2.out.below hb)
    clear hf hy hb
    obtain ⟨q0, q1, q2, q3⟩ := tb K3.out
    obtain ⟨f0, f1, f2⟩ := tbf K3.out
    go_wp2_with fail
    exact bodyPost_ret (v := .tuple #[.agg #[.int .i64 R, .int .i64 C, .slice b ys.length cc], .bool true]) (by simp [results, Try.results20, go_sem, q0, q1, q2]) rfl ⟨b, cc, ys, rfl, HW.out.off (store3 K3.out).2 K3.out (by decide), HY.out, ((B1.out.setCell (Nat.le_refl _) _).setCell (Nat.le_refl _) _).setCell (Nat.le_refl _) _⟩
set_option maxHeartbeats 1000000 in
theorem t_iFilledTensor (r c : Int) (x : Nat) (w : World) (hx : x < 4294967296) :
    Calls Try.prog 21 #[.int .i64 r, .int .i64 c, .float .f32 x] w (RetT (vFilledTensor r c x).1 (vFilledTensor r c x).2.1 (vFilledTensor r c x).2.2.1 (vFilledTensor r c x).2.2.2 w) := by
  have k2 := Blk.new w 27 #[.int .i64 0, .int .i64 0, .slice none 0 0]
  have b0 := (Below.refl w.heap.size w).alloc (Nat.le_refl _) (.cells #[.int .i64 0, .int .i64 0, .slice none 0 0] 27)
  have K2 := Lib.hid k2
  have B0 := Lib.hid b0
  clear k2 b0
  cases hv : (sideB r && sideB c) with
  | false =>
    have HX := Lib.hid (show vFilledTensor r c x = (0, 0, false, []) by unfold vFilledTensor; rw [if_neg (by rw [hv]; decide)])
    rw [HX.out]
    cases hr : sideB r with
    | false =>
      have HR := Lib.hid hr
      clear hv hr
      go_enter Try.func21, Try.ntmps21
      go_wp2_with fail
      generalize w.alloc (.cells #[.int .i64 0, .int .i64 0, .slice none 0 0] 27) = w1 at K2 B0 ⊢
      refine (c_isSide r false HR.out _).mono ?_
      rintro e w' ⟨rfl, rfl⟩
      obtain ⟨q0, q1, q2, q3⟩ := tb K2.out
      obtain ⟨f0, f1, f2⟩ := tbf K2.out
      go_wp2_with fail
      exact bodyPost_ret (v := .tuple #[.agg #[.int .i64 0, .int .i64 0, .slice none 0 0], .bool false]) (by simp [results, Try.results21, go_sem, q0, q1, q2]) rfl ⟨none, 0, [], rfl, nil_own _ _, rfl, ((B0.out.setCell (Nat.le_refl _) _).setCell (Nat.le_refl _) _).setCell (Nat.le_refl _) _⟩
    | true =>
      have HR := Lib.hid hr
      have HC := Lib.hid (show sideB c = false by rw [hr, Bool.true_and] at hv; exact hv)
      clear hv hr
      go_enter Try.func21, Try.ntmps21
      go_wp2_with fail
      generalize w.alloc (.cells #[.int .i64 0, .int .i64 0, .slice none 0 0] 27) = w1 at K2 B0 ⊢
      refine (c_isSide r true HR.out _).mono ?_
      rintro e w' ⟨rfl, rfl⟩
      go_wp2_with fail
      refine (c_isSide c false HC.out _).mono ?_
      rintro e w' ⟨rfl, rfl⟩
      obtain ⟨q0, q1, q2, q3⟩ := tb K2.out
      obtain ⟨f0, f1, f2⟩ := tbf K2.out
      go_wp2_with fail
      exact bodyPost_ret (v := .tuple #[.agg #[.int .i64 0, .int .i64 0, .slice none 0 0], .bool false]) (by simp [results, Try.results21, go_sem, q0, q1, q2]) rfl ⟨none, 0, [], rfl, nil_own _ _, rfl, ((B0.out.setCell (Nat.le_refl _) _).setCell (Nat.le_refl _) _).setCell (Nat.le_refl _) _⟩
  | true =>
    obtain ⟨R, C, rfl, rfl, h1, h2, h3, h4⟩ := side_nat hv
    have hv' := hv
    simp only [Bool.and_eq_true] at hv'
    have HR := Lib.hid hv'.1
    have HC := Lib.hid hv'.2
    obtain ⟨n, hn⟩ : ∃ n, R * C = n := ⟨_, rfl⟩
    have HX := Lib.hid (show vFilledTensor R C x = ((R : Int), (C : Int), true, (List.range n).map fun _ => canon .f32 x) by unfold vFilledTensor; rw [if_pos hv]; simp [hn])
    have h256 : n ≤ 256 := by rw [← hn]; exact side_mul h2 h4
    have i1 : (R : Int) * (C : Int) = (n : Int) := by rw [← hn]; exact (Int.natCast_mul R C).symm
    have i2 : IntKind.i64.wrap ((R : Int) * (C : Int)) = (n : Int) := by rw [i1]; exact IntWalk.i64_in _ (by omega)
    obtain ⟨i0, hi, hz0, hz1, hz2⟩ := info_parts info_f32
    have HI := Lib.hid hi
    have HZ0 := Lib.hid hz0
    have HZ1 := Lib.hid hz1
    have HZ2 := Lib.hid hz2
    clear hi hz0 hz1 hz2 hn hv hv'
    rw [HX.out]
    go_enter Try.func21, Try.ntmps21
    go_wp2_with fail
    generalize w.alloc (.cells #[.int .i64 0, .int .i64 0, .slice none 0 0] 27) = w1 at K2 B0 ⊢
    refine (c_isSide _ true HR.out _).mono ?_
    rintro e w' ⟨rfl, rfl⟩
    go_wp2_with fail
    refine (c_isSide _ true HC.out _).mono ?_
    rintro e w' ⟨rfl, rfl⟩
    go_wp2_with (at_make; refine wpList_make_full _ rfl _ _ 22 rfl w.heap.size 31 i0 (.float .f32 0) 1 Try.underlying22 HI.out HZ0.out HZ1.out _ _ _ _ n rfl rfl rfl rfl ?c1 ?c2 ?c3 ?_)
    case c1 => rw [HZ2.out]; omega
    case c2 => unfold maxLen; omega
    case c3 => exact B0.out.size
    intro wm hown hgrow
    rw [toList_madeCells_one] at hown
    have k2 : Blk wm w.heap.size 27 #[.int .i64 0, .int .i64 0, .slice none 0 0] := (hgrow.block _ K2.out.lt (by simp)).trans K2.out
    have hb1 := B0.out.grown hgrow B0.out.size (fun k h => by cases h)
    have hgd : w.heap.size < w1.heap.size := K2.out.lt
    have KM := Lib.hid k2
    have HO := Lib.hid hown
    have HB := Lib.hid hb1
    clear hown hgrow hb1 k2
    obtain ⟨gd, hgd'⟩ : ∃ gd, w1.heap.size = gd := ⟨_, rfl⟩
    rw [hgd'] at hgd HO ⊢
    clear hgd'
    go_wp2_with fail
    go_loopw [25] (fun i wr => FillRel x n gd w i wr) (fun i _ => n - (intOf i).toNat)
    case atStart => exact ⟨0, Nat.zero_le _, rfl, by simpa using HO.out, HB.out, KM.out⟩
    case round =>
      obtain ⟨k, hk, rfl, ho, hbl, hq⟩ := hrel
      have HO' := Lib.hid ho
      have HL := Lib.hid hbl
      have HQ := Lib.hid hq
      obtain ⟨q0, q1, q2, q3⟩ := tb hq
      obtain ⟨f0, f1, f2⟩ := tbf hq
      have hk0 : (0 : Int) ≤ (k : Int) := by omega
      clear ho hbl hq
      by_cases hlt : k < n
      · have hlt' : (k : Int) < (n : Int) := by omega
        have hfz : wr.frozen? ⟨gd, k, none⟩ = false := HO'.out.frozenAt k
        obtain ⟨v0, hv0⟩ : ∃ v, wr.cell? ⟨gd, k, none⟩ = some v := by
          rw [HO'.out.cellAt k (by omega)]
          exact ⟨_, List.getElem?_eq_getElem (by rw [HO'.out.1]; omega)⟩
        go_wp2_with fail
        go_roundw
        case rel =>
          obtain ⟨o1, o2⟩ := HO'.out.stored k (.float .f32 x)
          rw [fill_set k n x hlt] at o1
          exact ⟨k + 1, by omega, by go_num, o1, HL.out.setCell (by simp; omega) _, HQ.out.off o2 (by omega)⟩
        case measure => simp [intOf]; omega
      · obtain rfl : k = n := by omega
        go_wp2_with fail
        have ho := HO'.out
        rw [Nat.sub_self, List.replicate_zero, List.append_nil] at ho
        refine bodyPost_ret (v := .tuple #[.agg #[.int .i64 R, .int .i64 C, .slice (some ⟨gd, 0, none⟩) k k], .bool true]) (by simp [results, Try.results21, go_sem, q0, q1, q2]) rfl ⟨some ⟨gd, 0, none⟩, k, List.replicate k x, by rw [List.length_replicate], ?_, by simp [List.map_const'], ((HL.out.setCell (Nat.le_refl _) _).setCell (Nat.le_refl _) _).setCell (Nat.le_refl _) _⟩
        refine OwnF.off ⟨?_, fun y hy => ?_⟩ (store3 HQ.out).2 HQ.out (by decide)
        · rw [List.length_replicate, List.map_replicate]; exact ho
        · rw [List.eq_of_mem_replicate hy]; exact hx
end Go.Proofs.Ytijjmljdkpdigaa
