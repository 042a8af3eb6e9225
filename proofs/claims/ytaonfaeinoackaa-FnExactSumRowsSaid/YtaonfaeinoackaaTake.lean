/-
  What is made of each column of a tensor, as the program takes them. Conditions: the tensor's numbers can be read.
-/
import Derived.Test.YtaonfaeinoackaaTakeCol
import Derived.Test.YtaonfaeinoackaaTSumAll
namespace Go.Proofs.Ytaonfaeinoackaa
open Go.RowKit Go.Deep Go.WideShapes Go.ChangeShapes

def TakeRel (f : Nat → Nat) (n gd : Nat) (R C : Int) (a : Option Addr) (m cap : Nat) (w : World) (i : Value) (wr : World) : Prop :=
  ∃ (k : Nat) (ys : List Nat), k ≤ n ∧ i = .int .i64 k ∧ ys.length = k ∧ wr.ownsRow w.heap.size 23 1 (.slice (some ⟨gd, 0, none⟩) n n) n (partC ys n) ∧ (∀ y ∈ ys, y < 2 ^ 32) ∧ ys.map (canon .f32) = (List.range k).map f ∧ Below w.heap.size w wr ∧ Blk wr w.heap.size 36 #[.int .i64 R, .int .i64 C, .slice a m cap]
set_option maxHeartbeats 2000000 in
theorem c_takeColSum (R C : Nat) (a : Option Addr) (n cap : Nat) (zs : List Nat) (w : World) (h : IsFloats .f32 w a n cap zs) (hR0 : 1 ≤ R) (hR : R ≤ 16) (hC : C ≤ 16) (hn : n = R * C) :
    Calls Try.prog 78 #[.agg #[.int .i64 R, .int .i64 C, .slice a n cap], .int .i64 C, .func (.func 79) #[] #[], .func (.func 51) #[] #[]] w
      fun e w' => ∃ b c ys, e = .returned (.slice b ys.length c) ∧ OwnF w' w.heap.size b c ys ∧ ys.map (canon .f32) = ((List.range C).map fun k => csum (colL zs R C k)) ∧ Below w.heap.size w w' := by
  have HF := Lib.hid h
  have HN := Lib.hid hn
  obtain ⟨i0, hi, hz0, hz1, hz2⟩ := info_parts info_f32
  have HI := Lib.hid hi
  have HZ0 := Lib.hid hz0
  have HZ1 := Lib.hid hz1
  have HZ2 := Lib.hid hz2
  clear h hn hi hz0 hz1 hz2
  go_enter Try.func78, Try.ntmps78
  go_wp2_with (at_make; refine wpList_make_full _ rfl _ _ 22 rfl w.heap.size 23 i0 (.float .f32 0) 1 Try.underlying22 HI.out HZ0.out HZ1.out _ _ _ _ C rfl rfl rfl rfl ?c1 ?c2 ?c3 ?_)
  case c1 => rw [HZ2.out]; omega
  case c2 => unfold maxLen; omega
  case c3 => simp
  intro w1 hown hgrow
  have hb0 : Below w.heap.size w (w.alloc (.cells #[.int .i64 R, .int .i64 C, .slice a n cap] 36)) := (Below.refl _ _).alloc (Nat.le_refl _) _
  have hb1 := hb0.grown hgrow hb0.size (fun k h => by cases h)
  rw [toList_madeCells_one] at hown
  have k1 := Blk.new w 36 #[.int .i64 R, .int .i64 C, .slice a n cap]
  have k1 : Blk w1 w.heap.size 36 #[.int .i64 R, .int .i64 C, .slice a n cap] := (hgrow.block _ k1.lt (by simp)).trans k1
  have K1 := Lib.hid k1
  have HO := Lib.hid hown
  have HB := Lib.hid hb1
  clear hown hgrow hb0 hb1 k1
  go_wp2_with fail
  go_loopw [14] (fun i wr => TakeRel (fun k => csum (colL zs R C k)) C (w.heap.size + 1) R C a n cap w i wr) (fun i _ => C - (intOf i).toNat)
  case atStart => exact ⟨0, [], Nat.zero_le _, rfl, rfl, by simpa [partC] using HO.out, (fun _ h => by cases h), rfl, HB.out, K1.out⟩
  case round =>
    obtain ⟨k, ys, hk, rfl, hy, ho, ht, he, hbl, k1⟩ := hrel
    have HY := Lib.hid hy
    have HO' := Lib.hid ho
    have HT := Lib.hid ht
    have HE := Lib.hid he
    have HL' := Lib.hid hbl
    have K1' := Lib.hid k1
    obtain ⟨p0, p1, p2, p3⟩ := tb k1
    have hk0 : (0 : Int) ≤ (k : Int) := by omega
    clear hy ho ht he hbl k1
    by_cases hlt : k < C
    · have hlt' : (k : Int) < (C : Int) := by omega
      go_wp2_with fail
      clear p0 p1 p2 p3
      refine (c_iColumn R C k a n cap zs _ (HF.out.kept HL'.out) hR0 hR hC hlt HN.out).mono ?_
      rintro e w2 ⟨b2, c2, rfl, hf, hb⟩
      have HC := Lib.hid hf.isFloats
      have HL2 := Lib.hid (HL'.out.trans (hb.mono HL'.out.size))
      have HO2 := Lib.hid (HO'.out.kept (row := none) ⟨hb.os, hb.tape, hb.output, hb.size, fun j hj _ => hb.block j hj⟩ (.inr (by simp [Value.ownBlock])))
      have K2 := Lib.hid (K1'.out.below hb)
      have HLC := Lib.hid (show (colL zs R C k).length ≤ 256 by rw [colL_length]; omega)
      clear hf hb
      obtain ⟨cl, hcl⟩ : ∃ cl, colL zs R C k = cl := ⟨_, rfl⟩
      rw [hcl] at HC HLC ⊢
      have HCL := Lib.hid hcl
      clear hcl
      go_wp2_with fail
      refine (c_sumInOrder _ _ _ cl _ HC.out HLC.out).mono ?_
      rintro e w3 ⟨s, q, hs, hs2, rfl, rfl⟩
      have HS := Lib.hid hs
      have HS2 := Lib.hid hs2
      clear hs hs2
      have hfz : w2.frozen? ⟨w.heap.size + 1, k, none⟩ = false := HO2.out.frozenAt k
      obtain ⟨v0, hv0⟩ : ∃ v, w2.cell? ⟨w.heap.size + 1, k, none⟩ = some v := by
        rw [HO2.out.cellAt k (by omega)]
        exact ⟨_, List.getElem?_eq_getElem (by rw [HO2.out.1]; omega)⟩
      go_wp2_with fail
      go_roundw
      case rel =>
        have ho' : (w2.drewN q).ownsRow w.heap.size 23 1 (.slice (some ⟨w.heap.size + 1, 0, none⟩) C C) C (partC ys C) := HO2.out
        obtain ⟨o1, o2⟩ := ho'.stored k (.float .f32 s)
        have o1' := o1
        rw [← HY.out, partC_set ys C s (by have := HY.out; omega)] at o1'
        have kk : Blk (w2.drewN q) w.heap.size 36 #[.int .i64 R, .int .i64 C, .slice a n cap] := K2.out
        refine ⟨k + 1, ys ++ [s], by omega, by go_num, by simp [HY.out], by rw [← HY.out]; exact o1', ?_, ?_, (below_drewN HL2.out q).setCell (by simp) _, kk.off o2 (by omega)⟩
        · intro y h
          rcases List.mem_append.1 h with h | h
          · exact HT.out y h
          · simp at h; subst h; exact HS2.out
        · rw [List.map_append, HE.out, List.range_succ, List.map_append]
          simp [HS.out, HCL.out]
      case measure => simp [intOf]; omega
    · obtain rfl : k = C := by omega
      go_wp2_with fail
      go_ret
      have ho := HO'.out
      rw [← HY.out, partC_all] at ho
      exact ⟨some ⟨w.heap.size + 1, 0, none⟩, k, ys, by rw [HY.out]; rfl, ⟨by rw [← HY.out]; exact ho, HT.out⟩, HE.out, HL'.out⟩
end Go.Proofs.Ytaonfaeinoackaa
