/-
  The text of a plan's step: its value, and the program's. Conditions: the kind is one of six, the numbers are of 64 bits, the tables are as their initialisers lay them.
-/
import Derived.Test.YtdngbfpfhkkmpaaDoorPvt
import Derived.Test.YtdngbfpfhkkmpaaDoorDci
import Derived.Test.YtdngbfpfhkkmpaaDoorTls
namespace Go.Proofs.YtdngbfpfhkkmpaaDoor
open Go.RowKit Go.Deep Go.WideShapes Go.ChangeShapes
set_option linter.unusedVariables false
set_option linter.unusedSimpArgs false
attribute [local go_sem] txt_size

def kName (k : Nat) : List UInt8 := match k with
  | 0 => [100, 101, 110, 115, 101]
  | 1 => [114, 101, 108, 117]
  | 2 => [115, 99, 97, 108, 101]
  | 3 => [116, 97, 110, 104]
  | 4 => [115, 111, 102, 116, 109, 97, 120]
  | _ => [110, 111, 114, 109]
def stepT (p : PstP) : List UInt8 := (((((kName p.kd.toNat ++ (if p.ss.length = 0 then [] else [42])) ++ (if p.rl = true then [43] else [])) ++ Lib.itoa p.ii) ++ [62]) ++ Lib.itoa p.oo)
theorem kName_len (k : Nat) : (kName k).length ≤ 7 := by unfold kName; split <;> decide
/-- the names of the kinds are as their initialiser lays them -/
def KnOk (w : World) : Prop := ∀ i, i < 6 → w.cell? ⟨0, i, none⟩ = some (.string ⟨(kName i).toArray⟩)
theorem KnOk.kept {w w' : World} (h : KnOk w) (hb : Below w.heap.size w w') : KnOk w' := fun i hi => (hb.cell (p := ⟨_, i, none⟩) (cell_block (h i hi))).trans (h i hi)
set_option maxRecDepth 20000 in
set_option maxHeartbeats 4000000 in
theorem c_stepText (x : PstA) (w : World) (k0 : 0 ≤ x.p.kd) (k1 : x.p.kd ≤ 5) (i0 : -9223372036854775808 ≤ x.p.ii) (i1 : x.p.ii ≤ 9223372036854775807) (o0 : -9223372036854775808 ≤ x.p.oo) (o1 : x.p.oo ≤ 9223372036854775807) (ht : TabOk w) (hk : KnOk w) : Calls Tryd.prog 16 #[.agg x.cells] w fun e w' => e = .returned (.string ⟨(stepT x.p).toArray⟩) ∧ Below w.heap.size w w' := by
  obtain ⟨⟨kd, ii, oo, ws, bs, ss, rl⟩, a0, c0, a1, c1, a2, c2⟩ := x
  obtain ⟨k, rfl⟩ : ∃ k : Nat, kd = (k : Int) := ⟨kd.toNat, by simp at k0; omega⟩
  have hk6 : k < 6 := by simp at k1; omega
  have hkc := hk k hk6
  have HT := Lib.hid ht
  have HDI := Lib.hid (fun W h => c_iDecimal ii i0 i1 W h)
  have HDO := Lib.hid (fun W h => c_iDecimal oo o0 o1 W h)
  have hkn := kName_len k
  have hki : (k : Int) ≤ 5 := by omega
  have hk0 : (0 : Int) ≤ (k : Int) := by omega
  have l1 := Lib.itoa_length_le ii i0 i1
  have l2 := Lib.itoa_length_le oo o0 o1
  clear ht hk k0 k1 i0 i1 o0 o1 hk6
  unfold PstA.cells
  obtain ⟨K, hK⟩ : ∃ K, kName k = K := ⟨_, rfl⟩
  have HK := Lib.hid hK
  rw [hK] at hkc hkn
  obtain ⟨D, hD⟩ : ∃ D, Lib.itoa ii = D := ⟨_, rfl⟩
  obtain ⟨F, hF⟩ : ∃ F, Lib.itoa oo = F := ⟨_, rfl⟩
  have HDD := Lib.hid hD
  have HFF := Lib.hid hF
  rw [hD] at l1 HDI
  rw [hF] at l2 HDO
  have hg1 : 0 < w.heap.size := cell_block hkc
  have hg2 : ¬ w.heap.size = 0 := by omega
  have hg3 : ¬ 0 = w.heap.size := by omega
  have hg1 : 0 < w.heap.size := cell_block hkc
  have hg2 : ¬ w.heap.size = 0 := by omega
  have hg3 : ¬ 0 = w.heap.size := by omega
  clear hK hD hF
  by_cases hs : ss.length = 0
  · have hs' : ¬ (0 : Int) < (ss.length : Int) := by omega
    cases rl
    · have t1 : ¬ 9223372036854775807 < K.length + D.length := by omega
      have t2 : ¬ 9223372036854775807 < K.length + D.length + 1 := by omega
      have t3 : ¬ 9223372036854775807 < K.length + D.length + 1 + F.length := by omega
      have HV := Lib.hid (show stepT ⟨k, ii, oo, ws, bs, ss, false⟩ = ((K ++ D) ++ [62]) ++ F by unfold stepT; rw [if_pos hs]; simp only [HDD.out, HFF.out]; rw [show kName ((k : Int)).toNat = K by rw [Int.toNat_natCast]; exact HK.out]; simp)
      clear hs
      go_enter Tryd.func16, Tryd.ntmps16
      go_wp2_with fail
      obtain ⟨B, hB⟩ : ∃ B, w.heap.size = B := ⟨_, rfl⟩
      obtain ⟨w1, hw1⟩ : ∃ w1, w.alloc (.cells #[.int .i64 k, .int .i64 ii, .int .i64 oo, .slice a0 ws.length c0, .slice a1 bs.length c1, .slice a2 ss.length c2, .bool false] 45) = w1 := ⟨_, rfl⟩
      have bl1 : Below w.heap.size w w1 := by rw [← hw1]; exact (Below.refl _ _).alloc (Nat.le_refl _) _
      have hblk : Blk w1 B 45 #[.int .i64 k, .int .i64 ii, .int .i64 oo, .slice a0 ws.length c0, .slice a1 bs.length c1, .slice a2 ss.length c2, .bool false] := by rw [← hw1, ← hB]; exact Blk.new w _ _
      have hc1 : w1.cell? ⟨B, 1, none⟩ = some (.int .i64 ii) := hblk.cell 1
      have hc2 : w1.cell? ⟨B, 2, none⟩ = some (.int .i64 oo) := hblk.cell 2
      have HBK := Lib.hid (show B < w1.heap.size from cell_block hc1)
      have bd : Below w1.heap.size w1 w1.drew := (Below.refl _ _).drew
      have BD := Lib.hid (Below.next bl1 bd)
      have TD := Lib.hid ((HT.out.kept bl1).kept bd)
      rw [hB, hw1]
      clear bl1 bd hblk hw1 hkc hg1 hg2 hg3
      go_region_held3 (fun w' => w'.cell? ⟨B, 1, none⟩ = some (.int .i64 ii) ∧ w'.cell? ⟨B, 2, none⟩ = some (.int .i64 oo)) (go_keep)
        (first
          | (go_at_call 30
             refine (HDI.out w1.drew TD.out).mono ?_
             rintro e w2 ⟨rfl, bl⟩
             have B2 := Lib.hid (Below.next BD.out bl)
             have T2 := Lib.hid (TD.out.kept bl)
             have HBK2 := Lib.hid (show B < w2.heap.size from Nat.lt_of_lt_of_le (by simpa using HBK.out) bl.size)
             have hd1 := (bl.cell (p := ⟨B, 1, none⟩) (by simpa using HBK.out)).trans (by simpa using hc1)
             have hd2 := (bl.cell (p := ⟨B, 2, none⟩) (by simpa using HBK.out)).trans (by simpa using hc2)
             clear bl hc1 hc2
             have hc1 := hd1
             have hc2 := hd2
             clear hd1 hd2)
          | (go_at_call 30
             refine (HDO.out _ T2.out).mono ?_
             rintro e w3 ⟨rfl, bl⟩
             have B3 := Lib.hid (Below.next B2.out bl)
             have hd1 := (bl.cell (p := ⟨B, 1, none⟩) HBK2.out).trans hc1
             have hd2 := (bl.cell (p := ⟨B, 2, none⟩) HBK2.out).trans hc2
             clear bl hc1 hc2
             have hc1 := hd1
             have hc2 := hd2
             clear hd1 hd2))
      all_goals
        go_wp2_with fail
        go_ret
        exact ⟨by rw [HV.out]; simp only [← txt_append]; rfl, B3.out⟩
    · have t1 : ¬ 9223372036854775807 < K.length + 1 := by omega
      have t2 : ¬ 9223372036854775807 < K.length + 1 + D.length := by omega
      have t3 : ¬ 9223372036854775807 < K.length + 1 + D.length + 1 := by omega
      have t4 : ¬ 9223372036854775807 < K.length + 1 + D.length + 1 + F.length := by omega
      have HV := Lib.hid (show stepT ⟨k, ii, oo, ws, bs, ss, true⟩ = (((K ++ [43]) ++ D) ++ [62]) ++ F by unfold stepT; rw [if_pos hs]; simp only [HDD.out, HFF.out]; rw [show kName ((k : Int)).toNat = K by rw [Int.toNat_natCast]; exact HK.out]; simp)
      clear hs
      go_enter Tryd.func16, Tryd.ntmps16
      go_wp2_with fail
      obtain ⟨B, hB⟩ : ∃ B, w.heap.size = B := ⟨_, rfl⟩
      obtain ⟨w1, hw1⟩ : ∃ w1, w.alloc (.cells #[.int .i64 k, .int .i64 ii, .int .i64 oo, .slice a0 ws.length c0, .slice a1 bs.length c1, .slice a2 ss.length c2, .bool true] 45) = w1 := ⟨_, rfl⟩
      have bl1 : Below w.heap.size w w1 := by rw [← hw1]; exact (Below.refl _ _).alloc (Nat.le_refl _) _
      have hblk : Blk w1 B 45 #[.int .i64 k, .int .i64 ii, .int .i64 oo, .slice a0 ws.length c0, .slice a1 bs.length c1, .slice a2 ss.length c2, .bool true] := by rw [← hw1, ← hB]; exact Blk.new w _ _
      have hc1 : w1.cell? ⟨B, 1, none⟩ = some (.int .i64 ii) := hblk.cell 1
      have hc2 : w1.cell? ⟨B, 2, none⟩ = some (.int .i64 oo) := hblk.cell 2
      have HBK := Lib.hid (show B < w1.heap.size from cell_block hc1)
      have bd : Below w1.heap.size w1 w1.drew := (Below.refl _ _).drew
      have BD := Lib.hid (Below.next bl1 bd)
      have TD := Lib.hid ((HT.out.kept bl1).kept bd)
      rw [hB, hw1]
      clear bl1 bd hblk hw1 hkc hg1 hg2 hg3
      go_region_held3 (fun w' => w'.cell? ⟨B, 1, none⟩ = some (.int .i64 ii) ∧ w'.cell? ⟨B, 2, none⟩ = some (.int .i64 oo)) (go_keep)
        (first
          | (go_at_call 30
             refine (HDI.out w1.drew TD.out).mono ?_
             rintro e w2 ⟨rfl, bl⟩
             have B2 := Lib.hid (Below.next BD.out bl)
             have T2 := Lib.hid (TD.out.kept bl)
             have HBK2 := Lib.hid (show B < w2.heap.size from Nat.lt_of_lt_of_le (by simpa using HBK.out) bl.size)
             have hd1 := (bl.cell (p := ⟨B, 1, none⟩) (by simpa using HBK.out)).trans (by simpa using hc1)
             have hd2 := (bl.cell (p := ⟨B, 2, none⟩) (by simpa using HBK.out)).trans (by simpa using hc2)
             clear bl hc1 hc2
             have hc1 := hd1
             have hc2 := hd2
             clear hd1 hd2)
          | (go_at_call 30
             refine (HDO.out _ T2.out).mono ?_
             rintro e w3 ⟨rfl, bl⟩
             have B3 := Lib.hid (Below.next B2.out bl)
             have hd1 := (bl.cell (p := ⟨B, 1, none⟩) HBK2.out).trans hc1
             have hd2 := (bl.cell (p := ⟨B, 2, none⟩) HBK2.out).trans hc2
             clear bl hc1 hc2
             have hc1 := hd1
             have hc2 := hd2
             clear hd1 hd2))
      all_goals
        go_wp2_with fail
        go_ret
        exact ⟨by rw [HV.out]; simp only [← txt_append]; rfl, B3.out⟩
  · have hs' : (0 : Int) < (ss.length : Int) := by omega
    cases rl
    · have t1 : ¬ 9223372036854775807 < K.length + 1 := by omega
      have t2 : ¬ 9223372036854775807 < K.length + 1 + D.length := by omega
      have t3 : ¬ 9223372036854775807 < K.length + 1 + D.length + 1 := by omega
      have t4 : ¬ 9223372036854775807 < K.length + 1 + D.length + 1 + F.length := by omega
      have HV := Lib.hid (show stepT ⟨k, ii, oo, ws, bs, ss, false⟩ = (((K ++ [42]) ++ D) ++ [62]) ++ F by unfold stepT; rw [if_neg hs]; simp only [HDD.out, HFF.out]; rw [show kName ((k : Int)).toNat = K by rw [Int.toNat_natCast]; exact HK.out]; simp)
      clear hs
      go_enter Tryd.func16, Tryd.ntmps16
      go_wp2_with fail
      obtain ⟨B, hB⟩ : ∃ B, w.heap.size = B := ⟨_, rfl⟩
      obtain ⟨w1, hw1⟩ : ∃ w1, w.alloc (.cells #[.int .i64 k, .int .i64 ii, .int .i64 oo, .slice a0 ws.length c0, .slice a1 bs.length c1, .slice a2 ss.length c2, .bool false] 45) = w1 := ⟨_, rfl⟩
      have bl1 : Below w.heap.size w w1 := by rw [← hw1]; exact (Below.refl _ _).alloc (Nat.le_refl _) _
      have hblk : Blk w1 B 45 #[.int .i64 k, .int .i64 ii, .int .i64 oo, .slice a0 ws.length c0, .slice a1 bs.length c1, .slice a2 ss.length c2, .bool false] := by rw [← hw1, ← hB]; exact Blk.new w _ _
      have hc1 : w1.cell? ⟨B, 1, none⟩ = some (.int .i64 ii) := hblk.cell 1
      have hc2 : w1.cell? ⟨B, 2, none⟩ = some (.int .i64 oo) := hblk.cell 2
      have HBK := Lib.hid (show B < w1.heap.size from cell_block hc1)
      have bd : Below w1.heap.size w1 w1.drew := (Below.refl _ _).drew
      have BD := Lib.hid (Below.next bl1 bd)
      have TD := Lib.hid ((HT.out.kept bl1).kept bd)
      rw [hB, hw1]
      clear bl1 bd hblk hw1 hkc hg1 hg2 hg3
      go_region_held3 (fun w' => w'.cell? ⟨B, 1, none⟩ = some (.int .i64 ii) ∧ w'.cell? ⟨B, 2, none⟩ = some (.int .i64 oo)) (go_keep)
        (first
          | (go_at_call 30
             refine (HDI.out w1.drew TD.out).mono ?_
             rintro e w2 ⟨rfl, bl⟩
             have B2 := Lib.hid (Below.next BD.out bl)
             have T2 := Lib.hid (TD.out.kept bl)
             have HBK2 := Lib.hid (show B < w2.heap.size from Nat.lt_of_lt_of_le (by simpa using HBK.out) bl.size)
             have hd1 := (bl.cell (p := ⟨B, 1, none⟩) (by simpa using HBK.out)).trans (by simpa using hc1)
             have hd2 := (bl.cell (p := ⟨B, 2, none⟩) (by simpa using HBK.out)).trans (by simpa using hc2)
             clear bl hc1 hc2
             have hc1 := hd1
             have hc2 := hd2
             clear hd1 hd2)
          | (go_at_call 30
             refine (HDO.out _ T2.out).mono ?_
             rintro e w3 ⟨rfl, bl⟩
             have B3 := Lib.hid (Below.next B2.out bl)
             have hd1 := (bl.cell (p := ⟨B, 1, none⟩) HBK2.out).trans hc1
             have hd2 := (bl.cell (p := ⟨B, 2, none⟩) HBK2.out).trans hc2
             clear bl hc1 hc2
             have hc1 := hd1
             have hc2 := hd2
             clear hd1 hd2))
      all_goals
        go_wp2_with fail
        go_ret
        exact ⟨by rw [HV.out]; simp only [← txt_append]; rfl, B3.out⟩
    · have t1 : ¬ 9223372036854775807 < K.length + 1 := by omega
      have t2 : ¬ 9223372036854775807 < K.length + 1 + 1 := by omega
      have t3 : ¬ 9223372036854775807 < K.length + 1 + 1 + D.length := by omega
      have t4 : ¬ 9223372036854775807 < K.length + 1 + 1 + D.length + 1 := by omega
      have t5 : ¬ 9223372036854775807 < K.length + 1 + 1 + D.length + 1 + F.length := by omega
      have HV := Lib.hid (show stepT ⟨k, ii, oo, ws, bs, ss, true⟩ = ((((K ++ [42]) ++ [43]) ++ D) ++ [62]) ++ F by unfold stepT; rw [if_neg hs]; simp only [HDD.out, HFF.out]; rw [show kName ((k : Int)).toNat = K by rw [Int.toNat_natCast]; exact HK.out]; simp)
      clear hs
      go_enter Tryd.func16, Tryd.ntmps16
      go_wp2_with fail
      obtain ⟨B, hB⟩ : ∃ B, w.heap.size = B := ⟨_, rfl⟩
      obtain ⟨w1, hw1⟩ : ∃ w1, w.alloc (.cells #[.int .i64 k, .int .i64 ii, .int .i64 oo, .slice a0 ws.length c0, .slice a1 bs.length c1, .slice a2 ss.length c2, .bool true] 45) = w1 := ⟨_, rfl⟩
      have bl1 : Below w.heap.size w w1 := by rw [← hw1]; exact (Below.refl _ _).alloc (Nat.le_refl _) _
      have hblk : Blk w1 B 45 #[.int .i64 k, .int .i64 ii, .int .i64 oo, .slice a0 ws.length c0, .slice a1 bs.length c1, .slice a2 ss.length c2, .bool true] := by rw [← hw1, ← hB]; exact Blk.new w _ _
      have hc1 : w1.cell? ⟨B, 1, none⟩ = some (.int .i64 ii) := hblk.cell 1
      have hc2 : w1.cell? ⟨B, 2, none⟩ = some (.int .i64 oo) := hblk.cell 2
      have HBK := Lib.hid (show B < w1.heap.size from cell_block hc1)
      have bd : Below w1.heap.size w1 w1.drew := (Below.refl _ _).drew
      have BD := Lib.hid (Below.next bl1 bd)
      have TD := Lib.hid ((HT.out.kept bl1).kept bd)
      rw [hB, hw1]
      clear bl1 bd hblk hw1 hkc hg1 hg2 hg3
      go_region_held3 (fun w' => w'.cell? ⟨B, 1, none⟩ = some (.int .i64 ii) ∧ w'.cell? ⟨B, 2, none⟩ = some (.int .i64 oo)) (go_keep)
        (first
          | (go_at_call 30
             refine (HDI.out w1.drew TD.out).mono ?_
             rintro e w2 ⟨rfl, bl⟩
             have B2 := Lib.hid (Below.next BD.out bl)
             have T2 := Lib.hid (TD.out.kept bl)
             have HBK2 := Lib.hid (show B < w2.heap.size from Nat.lt_of_lt_of_le (by simpa using HBK.out) bl.size)
             have hd1 := (bl.cell (p := ⟨B, 1, none⟩) (by simpa using HBK.out)).trans (by simpa using hc1)
             have hd2 := (bl.cell (p := ⟨B, 2, none⟩) (by simpa using HBK.out)).trans (by simpa using hc2)
             clear bl hc1 hc2
             have hc1 := hd1
             have hc2 := hd2
             clear hd1 hd2)
          | (go_at_call 30
             refine (HDO.out _ T2.out).mono ?_
             rintro e w3 ⟨rfl, bl⟩
             have B3 := Lib.hid (Below.next B2.out bl)
             have hd1 := (bl.cell (p := ⟨B, 1, none⟩) HBK2.out).trans hc1
             have hd2 := (bl.cell (p := ⟨B, 2, none⟩) HBK2.out).trans hc2
             clear bl hc1 hc2
             have hc1 := hd1
             have hc2 := hd2
             clear hd1 hd2))
      all_goals
        go_wp2_with fail
        go_ret
        exact ⟨by rw [HV.out]; simp only [← txt_append]; rfl, B3.out⟩
end Go.Proofs.YtdngbfpfhkkmpaaDoor
