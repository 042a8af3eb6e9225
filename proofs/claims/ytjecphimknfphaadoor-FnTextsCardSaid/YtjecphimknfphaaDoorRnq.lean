/-
  ReadNumbers: the program's. Conditions: the text has at most 2 ^ 20 bytes; the table and the errors are as their initialisers lay them.
-/
import Derived.Test.YtjecphimknfphaaDoorRno
import Derived.Test.YtjecphimknfphaaDoorSip
import Derived.Test.YtjecphimknfphaaDoorOp5
namespace Go.Proofs.YtjecphimknfphaaDoor
open Go.RowKit Go.Deep Go.WideShapes Go.ChangeShapes
set_option linter.unusedVariables false
set_option linter.unusedSimpArgs false

def rnF (ps : List (List UInt8)) (i : Nat) : Nat := hval (ps.getD i [])
theorem rnF_all (ps : List (List UInt8)) : (List.range ps.length).map (rnF ps) = ps.map hval := by
  apply List.ext_getElem (by simp)
  intro i h1 h2
  have hi : i < ps.length := by simpa using h1
  simp [rnF, List.getD, hi]
def SnRel (ps : List (List UInt8)) (n gd : Nat) (w : World) (i : Value) (wr : World) : Prop :=
  FunRel (rnF ps) n gd w i wr ∧ ∃ k : Nat, i = .int .i64 k ∧ (ps.take k).all okRN = true
set_option maxRecDepth 20000 in
set_option maxHeartbeats 4000000 in
theorem c_splitItemsF (x : ByteArray) (hx : x.size ≤ 1048576) (w : World) (he : ErrsOk w) (hd : DbOk w) (hm : MaxOk w) : Calls Tryd.prog 17 #[.string x, .int .i64 256, .func (.func 18) #[] #[]] w (RetL (vRN x.data.toList).1 (vRN x.data.toList).2 w) := by
  obtain ⟨i0, hi, hz0, hz1, hz2⟩ := info_parts info_f32
  have JI := Lib.hid hi
  have HZ0 := Lib.hid hz0
  have HZ1 := Lib.hid hz1
  have HZ2 := Lib.hid hz2
  have HSN := Lib.hid (c_SplitN x 257 hx (by omega) (by omega) w hm)
  have HXL := Lib.hid (show x.data.toList.length = x.size from Array.length_toList)
  have HRD := Lib.hid (fun p (hp : p ∈ parts 44 x.data.toList) W (hb : Below w.heap.size w W) => c_readNumber (strB p) (by rw [strB_size]; have := parts_sizes hp; have h2 := (show x.data.toList.length = x.size from Array.length_toList); omega) W (he.kept hb) (hd.kept hb))
  clear hi hz0 hz1 hz2 he hd hm
  by_cases hno : x.data.toList = noneT
  · have HV := Lib.hid (vRN_none hno)
    have hxs : x = ⟨#[110, 111, 110, 101]⟩ := by
      apply ByteArray.ext
      apply Array.toList_inj.1
      exact hno
    rw [HV.out]
    clear hno hx HXL HRD HSN
    rw [hxs]
    clear hxs
    go_enter Tryd.func17, Tryd.ntmps17
    go_wp2_with fail
    go_ret2
    exact ⟨_, _, [], rfl, ⟨World.ownsRow_nil _ _ _ _, fun _ h => by cases h⟩, rfl, Below.refl _ _⟩
  · have HNO := Lib.hid hno
    have hnb : (x.toList == [110, 111, 110, 101]) = false := by rw [ByteArray.toList_eq, beq_eq_false_iff_ne]; exact hno
    clear hno
    obtain ⟨ps, hpsE⟩ : ∃ ps, parts 44 x.data.toList = ps := ⟨_, rfl⟩
    have HPE := Lib.hid hpsE
    rw [hpsE] at HSN HRD
    clear hpsE
    by_cases h64 : ps.length ≤ 256
    case neg =>
      have HV := Lib.hid (vRN_no HNO.out (okRNs_long (by rw [HPE.out]; omega)))
      have HG := Lib.hid (show 257 ≤ ps.length by omega)
      clear h64
      go_enter Tryd.func17, Tryd.ntmps17
      go_wp2_with fail
      refine HSN.out.mono ?_
      rintro e w2 ⟨a, c, ss, rfl, _, hb, _, hl⟩
      have HB := Lib.hid hb
      have hsl := hl HG.out
      rw [hsl]
      clear hb hl hsl
      go_wp2_with fail
      go_ret2
      exact ⟨none, 0, [], by rw [HV.out]; rfl, ⟨World.ownsRow_nil _ _ _ _, fun _ h => by cases h⟩, by rw [HV.out]; rfl, HB.out⟩
    case pos =>
      have H64 := Lib.hid h64
      clear h64
      go_enter Tryd.func17, Tryd.ntmps17
      go_wp2_with fail
      refine HSN.out.mono ?_
      rintro e w2 ⟨a, c, ss, rfl, hss, hb, hps, _⟩
      have B2 := Lib.hid hb
      obtain rfl := hps (by have := H64.out; omega)
      have HSS := Lib.hid hss
      rw [List.length_map] at HSS
      rw [List.length_map]
      obtain ⟨n, hn⟩ : ∃ n, ps.length = n := ⟨_, rfl⟩
      have HN := Lib.hid hn
      rw [hn] at HSS H64
      rw [hn]
      have hni : (n : Int) ≤ 256 := by have := H64.out; omega
      have hn0 : (0 : Int) ≤ (n : Int) := by omega
      have hng : ¬ (256 : Int) < (n : Int) := by omega
      have HC1 := Lib.hid (show 4 * n ≤ 281474976710656 by have := H64.out; omega)
      have HC2 := Lib.hid (show n ≤ maxLen by unfold maxLen; have := H64.out; omega)
      clear hb hss hps hn
      go_wp2_with (at_make; refine wpList_make_full _ rfl _ _ 24 rfl w2.heap.size 41 i0 (.float .f32 0) 1 Tryd.underlying24 JI.out HZ0.out HZ1.out _ _ _ _ n rfl rfl rfl rfl ?c1 ?c2 ?c3 ?_; rotate_left 3; intro w3 hown hgrow; refine Hid.out ?_)
      case c1 => rw [HZ2.out]; exact HC1.out
      case c2 => exact HC2.out
      case c3 => exact Nat.le_refl _
      refine Lib.hid ?_
      have B23 := Lib.hid (show Below w2.heap.size w2 w3 from (Below.refl _ _).grown hgrow (Nat.le_refl _) (fun k h => by cases h))
      rw [show (Value.float .f32 0).cells = #[Value.float .f32 0] from rfl, Nat.mul_one, toList_madeCells_one] at hown
      have HO := Lib.hid hown
      clear hown hgrow
      go_wp2_with fail
      go_loopw [29] (fun i wr => SnRel ps n w2.heap.size w2 i wr) (fun i _ => n - (intOf i).toNat)
      case atStart => exact ⟨⟨0, [], Nat.zero_le _, rfl, rfl, by simpa [partF] using HO.out, (fun y hy => absurd hy List.not_mem_nil), rfl, B23.out⟩, 0, rfl, rfl⟩
      case round =>
        obtain ⟨⟨k, ys, hk, rfl, hyl, ho, hty, hcan, hb⟩, k', hk', hal⟩ := hrel
        have HYL := Lib.hid hyl
        have HTY := Lib.hid hty
        have HCAN := Lib.hid hcan
        obtain rfl : k = k' := by injection hk' with _ h; omega
        have HO' := Lib.hid ho
        have HL := Lib.hid hb
        have HA := Lib.hid hal
        have hk0 : (0 : Int) ≤ (k : Int) := by omega
        clear ho hb hal hk' hyl hty hcan
        by_cases hlt : k < n
        · have hlt' : (k : Int) < (n : Int) := by omega
          obtain ⟨b, off, x0, rfl, hbk, hx0, c1, _⟩ := (HSS.out.kept HL.out).one hlt
          obtain ⟨p, hp, rfl⟩ : ∃ p, ps[k]? = some p ∧ strB p = x0 := by
            rw [List.getElem?_map] at hx0
            obtain ⟨p, h1, h2⟩ := Option.map_eq_some_iff.1 hx0
            exact ⟨p, h1, h2⟩
          have HP := Lib.hid hp
          have HBW := Lib.hid (Below.next B2.out HL.out)
          have HCV := Lib.hid (HRD.out p (List.mem_of_getElem? hp) wr HBW.out)
          rw [strB_list] at HCV
          clear hx0 hp hbk
          cases hok : okRN p with
          | false =>
            have HV := Lib.hid (vRN_no HNO.out (okRNs_bad (l := x.data.toList) (k := k) (p := p) (by rw [HPE.out]; exact HP.out) hok))
            rw [vRNum_no hok] at HCV
            clear hok
            go_wp2_with fail
            refine HCV.out.mono ?_
            rintro e w4 ⟨rfl, hb⟩
            have B4 := Lib.hid (Below.next HBW.out hb)
            clear hb
            go_wp2_with fail
            go_ret2
            exact ⟨none, 0, [], by rw [HV.out]; rfl, ⟨World.ownsRow_nil _ _ _ _, fun _ h => by cases h⟩, by rw [HV.out]; rfl, B4.out⟩
          | true =>
            have HAN := Lib.hid (okn_next HP.out HA.out hok)
            rw [vRNum_yes hok] at HCV
            have hcv := (okRN_of hok).2
            have hlt32 := shp8_lt (okRN_of hok).1
            obtain ⟨v, hv⟩ : ∃ v, hval p = v := ⟨_, rfl⟩
            have hf : rnF ps k = v := by unfold rnF; rw [List.getD_eq_getElem?_getD, HP.out]; exact hv
            rw [hv] at hcv hlt32
            have HC := Lib.hid (hcv.trans hf.symm)
            have HL32 := Lib.hid hlt32
            have HF := Lib.hid hf
            simp only [hv] at HCV
            clear hok hv hf hcv hlt32
            go_wp2_with fail
            refine HCV.out.mono ?_
            rintro e w4 ⟨rfl, hb⟩
            have HS := Lib.hid (fun_step (f := rnF ps) (v := v) (Nat.le_refl _) HYL.out hlt HO'.out HTY.out HCAN.out HL.out hb HL32.out HC.out)
            obtain ⟨hfz, v0, hv0⟩ := fun_cell hlt HO'.out hb
            clear hb
            go_wp2_with fail
            go_roundw
            case rel => exact ⟨HS.out, k + 1, by go_num, HAN.out⟩
            case measure => simp [intOf]; omega
        · obtain rfl : k = n := by omega
          have hall : ps.take k = ps := List.take_of_length_le (by rw [HN.out]; exact Nat.le_refl _)
          have hA := HA.out
          rw [hall] at hA
          have HV := Lib.hid (vRN_yes HNO.out (okRNs_yes (by rw [HPE.out, HN.out]; exact H64.out) (by rw [HPE.out]; exact hA)))
          have ho2 := HO'.out
          have hyl := HYL.out
          subst hyl
          rw [partF_all] at ho2
          have HE := Lib.hid (show OwnF wr w2.heap.size _ _ ys from ⟨ho2, HTY.out⟩)
          clear ho2
          have HRA := Lib.hid (rnF_all ps)
          rw [HN.out] at HRA
          have HBW := Lib.hid (Below.next B2.out HL.out)
          clear hall hA
          go_wp2_with fail
          go_ret2
          refine ⟨_, _, ys, ?_, HE.out.base B2.out.size, ?_, HBW.out⟩
          · rw [HV.out]; rfl
          · rw [HV.out, HCAN.out, HRA.out, HPE.out]
theorem t_iReadNumbers (x : ByteArray) (hx : x.size ≤ 1048576) (w : World) (he : ErrsOk w) (hd : DbOk w) (hm : MaxOk w) : Calls Tryd.prog 8 #[.string x] w (RetL (vRN x.data.toList).1 (vRN x.data.toList).2 w) := by
  have H := Lib.hid (c_splitItemsF x hx w he hd hm)
  clear hx he hd hm
  go_enter Tryd.func8, Tryd.ntmps8
  go_wp2_with fail
  refine H.out.mono ?_
  rintro e w2 ⟨a, c, ys, rfl, ho, hy, hb⟩
  have HO := Lib.hid ho
  have HY := Lib.hid hy
  have HB := Lib.hid hb
  clear ho hy hb
  go_wp2_with fail
  go_ret2
  exact ⟨a, c, ys, rfl, HO.out, HY.out, HB.out⟩
end Go.Proofs.YtjecphimknfphaaDoor
