/-
  FnTexts: what is read from a text is what was written. No condition.
-/
import Derived.Test.YtjecphimknfphaaDoorFts
import Derived.Test.YtjecphimknfphaaDoorRnq
import Derived.Test.YtjecphimknfphaaDoorHxn
import Derived.Test.YtjecphimknfphaaDoorLtx
import Derived.Test.YtjecphimknfphaaDoorRna
import Derived.Test.YtjecphimknfphaaDoorLdt
import Derived.Test.YtjecphimknfphaaDoorLsh
import Derived.Test.YtjecphimknfphaaDoorTie
import Derived.Test.YtjecphimknfphaaDoorCards
import Derived.ChangeOld
import Derived.Below
import Derived.LaidMore
import Derived.Lay
import Derived.MakeChecks
import Derived.LaidLaws
import Derived.SevenTiedAt
namespace Go.Proofs.YtjecphimknfphaaDoor.fnTexts
open Go.ChangeShapes Go.WideShapes Go.ChangeAt Go.RowKit
open Go.ChangeMaps (open_string shut_string)
set_option linter.unusedVariables false

set_option maxRecDepth 20000 in
set_option maxHeartbeats 4000000 in
theorem walk (a0 : Option Addr) (len0 cap0 : Nat) (z0 : List Int) (a1 : Option Addr) (len1 cap1 : Nat) (z1 : List Int) (w : World) (w0 : IsRow .u8 w a0 len0 cap0 z0) (w1 : IsRow .u8 w a1 len1 cap1 z1) (ht : TabOk w) (he : ErrsOk w) (hd : DbOk w) (hm : MaxOk w) :
    Calls Tryd.prog 3 #[.slice a0 len0 cap0, .slice a1 len1 cap1] w fun e w' => e = .returned (.bool true) ∧ Below w.heap.size w w' := by
  obtain ⟨hm0, hm1, rfl⟩ : len0 ≤ cap0 ∧ cap0 ≤ maxLen ∧ z0.length = len0 := ⟨w0.1, w0.2.1, w0.2.2.1⟩
  obtain ⟨hn0, hn1, rfl⟩ : len1 ≤ cap1 ∧ cap1 ≤ maxLen ∧ z1.length = len1 := ⟨w1.1, w1.2.1, w1.2.2.1⟩
  obtain ⟨i0, hi, hz0, hz1, hz2⟩ := info_parts info_j64
  have JI := Lib.hid hi
  have HZ0 := Lib.hid hz0
  have HZ1 := Lib.hid hz1
  have HZ2 := Lib.hid hz2
  have HI0 := Lib.hid w0
  have HI1 := Lib.hid w1
  have HT := Lib.hid ht
  have HE := Lib.hid he
  have HD := Lib.hid hd
  have HM := Lib.hid hm
  clear hm0 hm1 hn0 hn1 w0 w1 ht he hd hm hi hz0 hz1 hz2
  by_cases hL : 1048576 < z0.length ∨ 1048576 < z1.length
  · have HL := Lib.hid hL
    clear hL
    go_enter Tryd.func3, Tryd.ntmps3
    go_wp2_with fail
    refine (c_b10Long_yes _ _ _ _ _ _ HL.out _).mono ?_
    rintro e w' ⟨rfl, rfl⟩
    go_wp2_with fail
    go_ret
    exact ⟨rfl, Below.refl _ _⟩
  · have HL0 := Lib.hid (show z0.length ≤ 1048576 by omega)
    have HL1 := Lib.hid (show z1.length ≤ 1048576 by omega)
    clear hL
    go_enter Tryd.func3, Tryd.ntmps3
    go_wp2_with fail
    refine (c_b10Long_no _ _ _ _ _ _ HL0.out HL1.out _).mono ?_
    rintro e w' ⟨rfl, rfl⟩
    go_wp2_with fail
    refine (c_b10At _ _ _ z1 0 12 _ HI1.out (by omega) (by omega) (by omega)).mono ?_
    rintro e w' ⟨v, hv0, hv1, rfl, rfl⟩
    obtain ⟨n, rfl⟩ : ∃ n : Nat, v = (n : Int) := ⟨v.toNat, by omega⟩
    have HN := Lib.hid (show n ≤ 11 by omega)
    clear hv0 hv1
    go_wp2_with fail
    refine (c_B10Numbers n (by have := HN.out; omega) _ _ _ z0 _ HI0.out HL0.out).mono ?_
    rintro e w1 ⟨b, c, ys, hy, rfl, ho, hb⟩
    have Y1 := Lib.hid ho
    have B1 := Lib.hid hb
    have hyl : (ys.length : Int) ≤ 11 := by have := HN.out; omega
    have HYL := Lib.hid (show ys.length ≤ 11 by have := HN.out; omega)
    have HV := Lib.hid (show vNumbersText ys = (⟨(txt (ys.map numT)).toArray⟩, true) from if_pos (by have := HN.out; omega))
    have HVR := Lib.hid (vRN_txt (zs := ys) (by have := HN.out; omega) ho.2)
    have HXZ := Lib.hid (show (txt (ys.map numT)).length ≤ 1048576 by
      by_cases h0 : ys = []
      · subst h0; decide
      · have := txt_numT_len ys h0
        have := HN.out
        omega)
    have HXL := Lib.hid (fun h0 : ys ≠ [] => txt_numT_len ys h0)
    clear ho hb hy
    go_wp2_with fail
    refine (t_iNumbersText b ys.length c ys w1 Y1.out.isFloats (by have := HYL.out; omega) (HD.out.kept B1.out)).mono ?_
    rintro e w2 ⟨rfl, hb⟩
    rw [HV.out]
    have Y2 := Lib.hid (Y1.out.kept hb)
    have B2 := Lib.hid (Below.next B1.out hb)
    clear hb
    obtain ⟨x, hx⟩ : ∃ x : ByteArray, ⟨(txt (ys.map numT)).toArray⟩ = x := ⟨_, rfl⟩
    have HXD := Lib.hid (show x.data.toList = txt (ys.map numT) by rw [← hx])
    have HXS := Lib.hid (show x.size = (txt (ys.map numT)).length by rw [← hx]; exact txt_size _)
    simp only [hx]
    clear hx
    go_wp2_with fail
    refine (t_iReadNumbers x (by rw [HXS.out]; exact HXZ.out) w2 (HE.out.kept B2.out) (HD.out.kept B2.out) (HM.out.kept B2.out)).mono ?_
    rintro e w3 ⟨a3, c3, zs, rfl, ho, hz, hb⟩
    rw [HXD.out, HVR.out] at hz
    have HTR := Lib.hid (show (vRN x.data.toList).1 = true by rw [HXD.out, HVR.out])
    rw [HTR.out]
    have Y3 := Lib.hid (Y2.out.kept hb)
    have Z3 := Lib.hid ho
    have HZS := Lib.hid hz
    have B3 := Lib.hid (Below.next B2.out hb)
    clear ho hz hb
    have HXN := Lib.hid (fun h0 : ys ≠ [] => show (x.size : Int) = 9 * (ys.length : Int) - 1 by rw [HXS.out]; exact HXL.out h0)
    by_cases h0 : ys = []
    · have hq : ¬ (0 : Int) < (ys.length : Int) := by rw [h0]; decide
      clear h0
      go_wp2_with fail
      refine (c_b10Same _ _ _ _ zs ys _ Z3.out.isFloats Y3.out.isFloats HZS.out).mono ?_
      rintro e w4 ⟨rfl, dn⟩
      have B4 := Lib.hid (Below.next B3.out dn.below)
      clear dn
      go_wp2_with fail
      obtain ⟨B, hB⟩ : ∃ B, w.heap.size = B := ⟨_, rfl⟩
      have HBB := Lib.hid hB
      have O0 := Lib.hid (show OwnI (w4.alloc (.cells #[] 2)) B (some ⟨w4.heap.size, 0, none⟩) 0 [] from ⟨World.ownsRow_made w4 #[] 0 (by rw [← hB]; exact B4.out.size) (by unfold maxLen; omega) rfl, fun _ h => by cases h⟩)
      have B5 := Lib.hid (show Below w.heap.size w (w4.alloc (.cells #[] 2)) from B4.out.alloc B4.out.size _)
      clear hB
      go_loopw [10, 11] (fun s i wr => ∃ (k : Nat) (a : Option Addr) (c : Nat) (ns : List Int), k ≤ 7 ∧ i = .int .i64 k ∧ s = .slice a ns.length c ∧ ns.length = k ∧ OwnI wr B a c ns ∧ (∀ n ∈ ns, listable n = true) ∧ Below w.heap.size w wr) (fun _ i _ => 8 - (intOf i).toNat)
      case atStart => exact ⟨0, _, 0, [], by omega, rfl, rfl, rfl, O0.out, (fun y hy => absurd hy List.not_mem_nil), B5.out⟩
      case round =>
        obtain ⟨k, a, cc, ns, hk, rfl, rfl, hnl, ho, hli, hb⟩ := hrel
        have HO := Lib.hid ho
        have HLI := Lib.hid hli
        have HL := Lib.hid hb
        have HNL := Lib.hid hnl
        have hk0 : (k : Int) ≤ 7 := by omega
        have HR := Lib.hid (HI1.out.kept hb)
        have HK := Lib.hid hk
        have HAT := Lib.hid (show Calls Tryd.prog 6 #[.slice a1 z1.length cap1, .int .i64 ((k : Int) + 2), .int .i64 256] wr fun e w' => ∃ v : Int, 0 ≤ v ∧ v ≤ 256 - 1 ∧ e = .returned (.int .i64 v) ∧ wr = w' by
          have h := c_b10At a1 z1.length cap1 z1 (k + 2) 256 wr HR.out (by omega) (by omega) (by omega)
          rw [show ((k + 2 : Nat) : Int) = (k : Int) + 2 by omega] at h
          exact h)
        rw [hnl]
        clear ho hli hb hnl hk
        go_wp2_with fail
        refine (c_b10At _ _ _ z1 1 8 _ HR.out (by omega) (by omega) (by omega)).mono ?_
        rintro e w' ⟨v, hv0, hv1, rfl, rfl⟩
        by_cases hlt : (k : Int) < v
        · have HLT := Lib.hid (show k + 1 ≤ 7 by omega)
          clear hv0 hv1
          go_wp2_with fail
          refine HAT.out.mono ?_
          rintro e w' ⟨d, hd0, hd1, rfl, rfl⟩
          obtain ⟨u, hu⟩ : ∃ u : Int, 1000 * d - 90000 = u := ⟨_, rfl⟩
          have HU := Lib.hid (show listable u = true by unfold listable; rw [decide_eq_true (by omega), decide_eq_true (by omega)]; rfl)
          have HWF := Lib.hid (show (Lit.int .i64 u).wf = true by simp [Lit.wf, IntKind.min, IntKind.max, IntKind.signed, IntKind.bits]; omega)
          have HUE := Lib.hid hu
          have hd1' : d ≤ 255 := by omega
          clear hd1 hu
          have A1 := Lib.hid (show k + 1 ≤ maxLen by unfold maxLen; have := HLT.out; omega)
          have A2 := Lib.hid (show (k + 1) * 8 ≤ 140737488355328 by have := HLT.out; omega)
          have A3 := Lib.hid (show B ≤ wr.heap.size by rw [← HBB.out]; exact HL.out.size)
          have HO3 := Lib.hid (show (wr.alloc (.cells #[.int .i64 u] 2)).ownsRow B 2 1 (.slice a k cc) k (ns.map toV) by rw [← HNL.out]; exact growJ_own HO.out)
          have HBL := Lib.hid (show w.heap.size ≤ B by rw [← HBB.out]; exact Nat.le_refl _)
          go_wp2_with (at_builtin; rw [HUE.out]; refine wpList_append_any _ rfl (.tmp 66) (.tmp 73) 32 rfl B 2 i0 (.int .i64 0) 1 8 Tryd.underlying32 JI.out HZ0.out HZ1.out HZ2.out rfl Nat.one_pos (.slice a k cc) k (ns.map toV) rfl HO3.out (wr.heap.size + 1) (some ⟨wr.heap.size, 0, none⟩) 1 1 [.int .i64 u] rfl growJ_reads (one_i64 _) A1.out A2.out (growJ_base A3.out) ?_; intro v' w' hown hgr hat; obtain ⟨a', c', rfl⟩ := ownsRow_slice hown; have HMD := Lib.hid (intG_next HNL.out HO.out HBL.out HL.out HWF.out hown hgr); clear hown hgr hat)
          go_roundw
          case rel =>
            obtain ⟨t1, t2⟩ := HMD.out
            refine ⟨k + 1, a', c', ns ++ [u], HLT.out, by go_num, by rw [List.length_append, HNL.out]; rfl, by rw [List.length_append, HNL.out]; rfl, t1, fun y hy => ?_, t2⟩
            rcases List.mem_append.1 hy with h | h
            · exact HLI.out y h
            · rw [List.mem_singleton.1 h]; exact HU.out
          case measure => have := HLT.out; simp [intOf]; omega
        · have HNS := Lib.hid (show vListText ns = (⟨(txt (ns.map Lib.itoa)).toArray⟩, true) from if_pos (by
            unfold okList
            rw [List.all_eq_true.2 HLI.out, decide_eq_true (by have := HNL.out; have := HK.out; omega)]
            rfl))
          have HVL := Lib.hid (vRL_txt (zs := ns) (by have := HNL.out; have := HK.out; omega) HLI.out)
          have HLT := Lib.hid (t_iListText a k cc ns wr (by rw [← HNL.out]; exact HO.out.isRow) (by have := HK.out; omega) (HT.out.kept HL.out))
          have HTL := Lib.hid (show (txt (ns.map Lib.itoa)).length ≤ 1048576 by
            have h7 : (ns.map Lib.itoa).length ≤ 7 := by rw [List.length_map, HNL.out]; exact HK.out
            unfold txt
            split
            · decide
            · refine Nat.le_trans (jn_len (M := 17) (fun t ht => ?_)) (by omega)
              obtain ⟨y, hy, rfl⟩ := List.mem_map.1 ht
              exact (itoa_17 (HLI.out y hy)).2)
          clear hv0 hv1
          go_wp2_with fail
          refine HLT.out.mono ?_
          rintro e w6 ⟨rfl, hb⟩
          rw [HNS.out]
          have B6 := Lib.hid (Below.next HL.out hb)
          have N6 := Lib.hid (HO.out.kept hb)
          clear hb
          obtain ⟨g, hg⟩ : ∃ g : ByteArray, ⟨(txt (ns.map Lib.itoa)).toArray⟩ = g := ⟨_, rfl⟩
          have HGD := Lib.hid (show g.data.toList = txt (ns.map Lib.itoa) by rw [← hg])
          have HGS := Lib.hid (show g.size = (txt (ns.map Lib.itoa)).length by rw [← hg]; exact txt_size _)
          simp only [hg]
          clear hg
          go_wp2_with fail
          refine (t_iReadList g (by rw [HGS.out]; exact HTL.out) w6 (HT.out.kept B6.out) (HE.out.kept B6.out) (HM.out.kept B6.out)).mono ?_
          rintro e w7 ⟨a7, c7, ms, rfl, ho, hz, hb⟩
          rw [HGD.out, HVL.out] at hz
          have HTG := Lib.hid (show (vRL g.data.toList).1 = true by rw [HGD.out, HVL.out])
          rw [HTG.out]
          obtain rfl : ms = ns := hz
          have B7 := Lib.hid (Below.next B6.out hb)
          have N7 := Lib.hid (N6.out.kept hb)
          have MR := Lib.hid (show IsRow .i64 w7 a7 k c7 ms by rw [← HNL.out]; exact ho.isRow)
          have NR := Lib.hid (show IsRow .i64 w7 a k cc ms by rw [← HNL.out]; exact N7.out.isRow)
          rw [HNL.out]
          clear ho hb
          go_wp2_with fail
          refine (c_b10Nums _ _ _ _ ms k _ MR.out NR.out).mono ?_
          rintro e w8 ⟨rfl, dn⟩
          have B8 := Lib.hid (Below.next B7.out dn.below)
          clear dn
          go_wp2_with fail
          go_ret
          exact ⟨rfl, B8.out⟩
    · have hq : (0 : Int) < (ys.length : Int) := by
        cases ys with
        | nil => exact absurd rfl h0
        | cons _ _ => rw [List.length_cons]; omega
      have hq2 := HXN.out h0
      clear h0
      go_wp2_with fail
      refine (c_b10Same _ _ _ _ zs ys _ Z3.out.isFloats Y3.out.isFloats HZS.out).mono ?_
      rintro e w4 ⟨rfl, dn⟩
      have B4 := Lib.hid (Below.next B3.out dn.below)
      clear dn
      go_wp2_with fail
      obtain ⟨B, hB⟩ : ∃ B, w.heap.size = B := ⟨_, rfl⟩
      have HBB := Lib.hid hB
      have O0 := Lib.hid (show OwnI (w4.alloc (.cells #[] 2)) B (some ⟨w4.heap.size, 0, none⟩) 0 [] from ⟨World.ownsRow_made w4 #[] 0 (by rw [← hB]; exact B4.out.size) (by unfold maxLen; omega) rfl, fun _ h => by cases h⟩)
      have B5 := Lib.hid (show Below w.heap.size w (w4.alloc (.cells #[] 2)) from B4.out.alloc B4.out.size _)
      clear hB
      go_loopw [10, 11] (fun s i wr => ∃ (k : Nat) (a : Option Addr) (c : Nat) (ns : List Int), k ≤ 7 ∧ i = .int .i64 k ∧ s = .slice a ns.length c ∧ ns.length = k ∧ OwnI wr B a c ns ∧ (∀ n ∈ ns, listable n = true) ∧ Below w.heap.size w wr) (fun _ i _ => 8 - (intOf i).toNat)
      case atStart => exact ⟨0, _, 0, [], by omega, rfl, rfl, rfl, O0.out, (fun y hy => absurd hy List.not_mem_nil), B5.out⟩
      case round =>
        obtain ⟨k, a, cc, ns, hk, rfl, rfl, hnl, ho, hli, hb⟩ := hrel
        have HO := Lib.hid ho
        have HLI := Lib.hid hli
        have HL := Lib.hid hb
        have HNL := Lib.hid hnl
        have hk0 : (k : Int) ≤ 7 := by omega
        have HR := Lib.hid (HI1.out.kept hb)
        have HK := Lib.hid hk
        have HAT := Lib.hid (show Calls Tryd.prog 6 #[.slice a1 z1.length cap1, .int .i64 ((k : Int) + 2), .int .i64 256] wr fun e w' => ∃ v : Int, 0 ≤ v ∧ v ≤ 256 - 1 ∧ e = .returned (.int .i64 v) ∧ wr = w' by
          have h := c_b10At a1 z1.length cap1 z1 (k + 2) 256 wr HR.out (by omega) (by omega) (by omega)
          rw [show ((k + 2 : Nat) : Int) = (k : Int) + 2 by omega] at h
          exact h)
        rw [hnl]
        clear ho hli hb hnl hk
        go_wp2_with fail
        refine (c_b10At _ _ _ z1 1 8 _ HR.out (by omega) (by omega) (by omega)).mono ?_
        rintro e w' ⟨v, hv0, hv1, rfl, rfl⟩
        by_cases hlt : (k : Int) < v
        · have HLT := Lib.hid (show k + 1 ≤ 7 by omega)
          clear hv0 hv1
          go_wp2_with fail
          refine HAT.out.mono ?_
          rintro e w' ⟨d, hd0, hd1, rfl, rfl⟩
          obtain ⟨u, hu⟩ : ∃ u : Int, 1000 * d - 90000 = u := ⟨_, rfl⟩
          have HU := Lib.hid (show listable u = true by unfold listable; rw [decide_eq_true (by omega), decide_eq_true (by omega)]; rfl)
          have HWF := Lib.hid (show (Lit.int .i64 u).wf = true by simp [Lit.wf, IntKind.min, IntKind.max, IntKind.signed, IntKind.bits]; omega)
          have HUE := Lib.hid hu
          have hd1' : d ≤ 255 := by omega
          clear hd1 hu
          have A1 := Lib.hid (show k + 1 ≤ maxLen by unfold maxLen; have := HLT.out; omega)
          have A2 := Lib.hid (show (k + 1) * 8 ≤ 140737488355328 by have := HLT.out; omega)
          have A3 := Lib.hid (show B ≤ wr.heap.size by rw [← HBB.out]; exact HL.out.size)
          have HO3 := Lib.hid (show (wr.alloc (.cells #[.int .i64 u] 2)).ownsRow B 2 1 (.slice a k cc) k (ns.map toV) by rw [← HNL.out]; exact growJ_own HO.out)
          have HBL := Lib.hid (show w.heap.size ≤ B by rw [← HBB.out]; exact Nat.le_refl _)
          go_wp2_with (at_builtin; rw [HUE.out]; refine wpList_append_any _ rfl (.tmp 66) (.tmp 73) 32 rfl B 2 i0 (.int .i64 0) 1 8 Tryd.underlying32 JI.out HZ0.out HZ1.out HZ2.out rfl Nat.one_pos (.slice a k cc) k (ns.map toV) rfl HO3.out (wr.heap.size + 1) (some ⟨wr.heap.size, 0, none⟩) 1 1 [.int .i64 u] rfl growJ_reads (one_i64 _) A1.out A2.out (growJ_base A3.out) ?_; intro v' w' hown hgr hat; obtain ⟨a', c', rfl⟩ := ownsRow_slice hown; have HMD := Lib.hid (intG_next HNL.out HO.out HBL.out HL.out HWF.out hown hgr); clear hown hgr hat)
          go_roundw
          case rel =>
            obtain ⟨t1, t2⟩ := HMD.out
            refine ⟨k + 1, a', c', ns ++ [u], HLT.out, by go_num, by rw [List.length_append, HNL.out]; rfl, by rw [List.length_append, HNL.out]; rfl, t1, fun y hy => ?_, t2⟩
            rcases List.mem_append.1 hy with h | h
            · exact HLI.out y h
            · rw [List.mem_singleton.1 h]; exact HU.out
          case measure => have := HLT.out; simp [intOf]; omega
        · have HNS := Lib.hid (show vListText ns = (⟨(txt (ns.map Lib.itoa)).toArray⟩, true) from if_pos (by
            unfold okList
            rw [List.all_eq_true.2 HLI.out, decide_eq_true (by have := HNL.out; have := HK.out; omega)]
            rfl))
          have HVL := Lib.hid (vRL_txt (zs := ns) (by have := HNL.out; have := HK.out; omega) HLI.out)
          have HLT := Lib.hid (t_iListText a k cc ns wr (by rw [← HNL.out]; exact HO.out.isRow) (by have := HK.out; omega) (HT.out.kept HL.out))
          have HTL := Lib.hid (show (txt (ns.map Lib.itoa)).length ≤ 1048576 by
            have h7 : (ns.map Lib.itoa).length ≤ 7 := by rw [List.length_map, HNL.out]; exact HK.out
            unfold txt
            split
            · decide
            · refine Nat.le_trans (jn_len (M := 17) (fun t ht => ?_)) (by omega)
              obtain ⟨y, hy, rfl⟩ := List.mem_map.1 ht
              exact (itoa_17 (HLI.out y hy)).2)
          clear hv0 hv1
          go_wp2_with fail
          refine HLT.out.mono ?_
          rintro e w6 ⟨rfl, hb⟩
          rw [HNS.out]
          have B6 := Lib.hid (Below.next HL.out hb)
          have N6 := Lib.hid (HO.out.kept hb)
          clear hb
          obtain ⟨g, hg⟩ : ∃ g : ByteArray, ⟨(txt (ns.map Lib.itoa)).toArray⟩ = g := ⟨_, rfl⟩
          have HGD := Lib.hid (show g.data.toList = txt (ns.map Lib.itoa) by rw [← hg])
          have HGS := Lib.hid (show g.size = (txt (ns.map Lib.itoa)).length by rw [← hg]; exact txt_size _)
          simp only [hg]
          clear hg
          go_wp2_with fail
          refine (t_iReadList g (by rw [HGS.out]; exact HTL.out) w6 (HT.out.kept B6.out) (HE.out.kept B6.out) (HM.out.kept B6.out)).mono ?_
          rintro e w7 ⟨a7, c7, ms, rfl, ho, hz, hb⟩
          rw [HGD.out, HVL.out] at hz
          have HTG := Lib.hid (show (vRL g.data.toList).1 = true by rw [HGD.out, HVL.out])
          rw [HTG.out]
          obtain rfl : ms = ns := hz
          have B7 := Lib.hid (Below.next B6.out hb)
          have N7 := Lib.hid (N6.out.kept hb)
          have MR := Lib.hid (show IsRow .i64 w7 a7 k c7 ms by rw [← HNL.out]; exact ho.isRow)
          have NR := Lib.hid (show IsRow .i64 w7 a k cc ms by rw [← HNL.out]; exact N7.out.isRow)
          rw [HNL.out]
          clear ho hb
          go_wp2_with fail
          refine (c_b10Nums _ _ _ _ ms k _ MR.out NR.out).mono ?_
          rintro e w8 ⟨rfl, dn⟩
          have B8 := Lib.hid (Below.next B7.out dn.below)
          clear dn
          go_wp2_with fail
          go_ret
          exact ⟨rfl, B8.out⟩

/-! the door's own heap meets the condition -/
def laid : List (String × DataW Unit) := Rows.fnTextsRow.laid
theorem own : ownKnob Tryd.prog.godebug = none := by kernel_rfl
theorem door_met (os : Os) (args : Array Value) : laidMetH Tryd.prog laid ((World.laidAll Tryd.prog os laid).forCall (fun _ _ => 0) ⟨#[], args, []⟩).memory := by
  rw [Go.MakeChecks.laidMetH_plain _ _ _ (by kernel_rfl)]
  exact laidMet_laidAll _ (by kernel_rfl) (by kernel_rfl)
set_option maxRecDepth 100000 in
theorem lifted (os : Os) (started : os.Started) (H : Type) (enc : TypeId × Value → H) :
    ReturnsInHanded {} Tryd.checked os 3 .any (fun w args => (Rows.fnTextsSpec.pre enc Tryd.prog Tryd.f3 [] false w args ∧ laidMetH Tryd.prog laid w) ∧ sizedMet enc Tryd.prog Tryd.f3 (OpenSpec.ofChange Rows.fnTextsSpec) false w args)
      (Rows.fnTextsSpec.post enc Tryd.prog Tryd.f3 false true false false) := by
  refine laid_shaped (C := Tryd.checked) (X := fun w _ => laidMetH Tryd.prog laid w) (fun _ _ _ hh h => h.of_heap hh) own started (by kernel_rfl) Tryd.func3
    (ChangeSpec.witness_shaped (enc := enc) (C := Tryd.checked) (os := os) (X := fun w _ => laidMetH Tryd.prog laid w) false (World.laidAll Tryd.prog os laid) #[.slice none 0 0, .slice none 0 0] 8 (World.laidAll_os _ _ _) (World.shaped_of_ZipB (by kernel_rfl) (by kernel_rfl)) (by kernel_rfl) (by kernel_rfl) (by kernel_rfl) (door_met os _)) ?_
  intro W base args ds gs before hval0 hW hcnd _ hL hSh _
  have hval : ∀ (j : Nat) t v, Tryd.f3.params[j]? = some t → args[j]? = some v → Value.okWide Tryd.prog W .any base t v := hval0
  have hW' := hW
  obtain ⟨p, q, hA0, hV, rfl, hfz, hnd⟩ := hW
  have hA : DataW.TrodAll enc Tryd.prog W 0 (fun _ => true) true Tryd.f3.params.toList args.toList ds p := hA0
  rw [Tryd.params3] at hA hval
  obtain ⟨v0, vs0, d0, ds0, p0, q0, hargs, rfl, rfl, h0, rest0⟩ := trodAll_cons hA
  obtain ⟨v1, vs1, d1, ds1, p1, q1, rfl, rfl, rfl, h1, rest1⟩ := trodAll_cons rest0
  obtain ⟨rfl, rfl, rfl⟩ := trodAll_nil rest1
  obtain rfl : args = #[v0, v1] := by cases args; simp_all
  obtain ⟨rfl, rfl⟩ := trodVars_none hV
  obtain ⟨a0, len0, cap0, rfl⟩ := okWide_slice Tryd.underlying22 (hval 0 22 v0 rfl rfl)
  have k0 := h0
  have lt0 : ∀ x ∈ p0, x.block < W.heap.size := by obtain ⟨m, hm⟩ := k0; exact DataW.trod_lt m _ _ _ hm
  obtain ⟨z0, w0⟩ := isRow_of (k := .u8) Tryd.underlying22 Tryd.underlying5 (by kernel_rfl) h0
  obtain ⟨a1, len1, cap1, rfl⟩ := okWide_slice Tryd.underlying22 (hval 1 22 v1 rfl rfl)
  have k1 := h1
  have lt1 : ∀ x ∈ p1, x.block < W.heap.size := by obtain ⟨m, hm⟩ := k1; exact DataW.trod_lt m _ _ _ hm
  obtain ⟨z1, w1⟩ := isRow_of (k := .u8) Tryd.underlying22 Tryd.underlying5 (by kernel_rfl) h1
  clear hA0 hval0
  refine (walk a0 len0 cap0 z0 a1 len1 cap1 z1 W w0 w1 (tab_ok hL rfl (List.mem_of_getElem? (i := 2) (by kernel_rfl))) ⟨err_at hL rfl (List.mem_of_getElem? (i := 5) rfl) rfl (by kernel_rfl) (by kernel_rfl), err_at hL rfl (List.mem_of_getElem? (i := 4) rfl) rfl (by kernel_rfl) (by kernel_rfl)⟩ (db_ok hL rfl (List.mem_of_getElem? (i := 1) (by kernel_rfl))) (max_ok hSh)).mono fun e W' ⟨he, bel⟩ => ?_
  subst he
  exact ⟨_, rfl, _, _, _, [], _, [], hW', trodAll_mk1 (shut_bool Tryd.underlying4 _), (trodAll_cons_mk (Below.trod laidOut (by kernel_rfl) (of_decide_eq_true (by kernel_rfl)) k0 bel lt0) (trodAll_cons_mk (Below.trod laidOut (by kernel_rfl) (of_decide_eq_true (by kernel_rfl)) k1 bel lt1) trodAll_mk0)), rfl, bel.frame _, fun h => by cases h⟩

theorem over : Rows.fnTextsRow.holds Tryd.pinned (OpenSpec.ofChange Rows.fnTextsSpec) :=
  OpenClaim.holds_of_wide 3 Tryd.f3 rfl rfl rfl rfl rfl rfl rfl ⟨rfl, rfl, rfl, rfl, rfl⟩ rfl rfl rfl rfl rfl (by kernel_rfl) Tryd.func3 (by kernel_rfl)
    (of_decide_eq_true (by kernel_rfl)) (by unfold Func.isWrapper; first | (rw [if_pos (by decide +kernel)]; kernel_rfl) | (rw [if_neg (by decide +kernel)]; exact ⟨rfl, rfl⟩))
    (fun os started H enc _ => lifted os started H enc)

/-- the statement: the row, tied to the program's text -/
theorem proved : Rows.FnTextsCardSaid :=
  Claim7.holds_tied_plain_at .later [] Rows.fnTextsCard.laidKinds true Rows.fnTextsCard.stood.harness true
    over (fun _ h => by cases h) (by kernel_rfl) (fun _ h => by cases h) fnTexts_row_tie rfl ⟨rfl, rfl⟩ (by kernel_rfl) rfl
    (fun f fn hf hfn => by
      obtain rfl : f = 3 := Option.some.inj ((show Tryd.prog.funcNamed Rows.fnTextsRow.func = some 3 by kernel_rfl).symm.trans hf) |>.symm
      obtain rfl : fn = Tryd.f3 := (Option.some.inj (Tryd.func3.symm.trans hfn)).symm
      exact ⟨by kernel_rfl, fun j t ht => by
        rw [Tryd.params3] at ht
        rcases j with _ | j
        · obtain rfl : t = 22 := by simpa using ht.symm
          exact (show Tryd.prog.wantsStandIn 22 = false by kernel_rfl)
        · rcases j with _ | j
          · obtain rfl : t = 22 := by simpa using ht.symm
            exact (show Tryd.prog.wantsStandIn 22 = false by kernel_rfl)
          · simp at ht⟩)
    (by kernel_rfl)
end Go.Proofs.YtjecphimknfphaaDoor.fnTexts
