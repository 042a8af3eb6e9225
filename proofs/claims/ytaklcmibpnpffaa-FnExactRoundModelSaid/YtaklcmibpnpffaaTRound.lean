/-
  RoundModel: what the model and the program answer. Conditions: the cells can be read.
-/
import Derived.Test.YtaklcmibpnpffaaTWith
import Derived.Test.YtaklcmibpnpffaaTWithP
import Derived.Test.YtaklcmibpnpffaaTPar
import Derived.Test.YtaklcmibpnpffaaOp5
import Derived.Test.YtaklcmibpnpffaaBfloat
import Derived.Deep.RegionHeld3
namespace Go.Proofs.Ytaklcmibpnpffaa
open Go.RowKit Go.Deep Go.WideShapes Go.ChangeShapes Go.Sort
set_option linter.unusedVariables false

/-- the nearest number of 16 bits, of canonical bits -/
def cb (d : Nat) : Nat := canon .f32 (bf d)
theorem cb_of (x : Nat) : canon .f32 (bf x) = cb (canon .f32 x) := by
  unfold cb
  by_cases h : isNan .f32 x = true
  · have h2 : 2139095040 ≤ x % 2147483648 := by rw [isNan32] at h; have := of_decide_eq_true h; omega
    rw [bf_inf h2, canon_nan h]
    decide +kernel
  · have h : isNan .f32 x = false := by simpa using h
    rw [canon_num h]
theorem range_getD (l : List Nat) (f : Nat → Nat) : (List.range l.length).map (fun i => f (l.getD i 0)) = l.map f := by
  refine List.ext_getElem (by simp) fun i h1 h2 => ?_
  have h3 : i < l.length := by simpa using h1
  simp [List.getD, h3]
theorem withP_canon (ps : List LayP) (zs : List Nat) : (withP ps (zs.map (canon .f32))).map LayP.can = (withP ps zs).map LayP.can := by
  induction ps generalizing zs with
  | nil => rfl
  | cons p ps ih =>
    simp only [withP, List.map_cons, ← List.map_drop, ← List.map_take, ih]
    congr 1
    simp only [LayP.can, List.map_map]
    congr 1 <;> exact List.map_congr_left fun x _ => canon_canon .f32 x
def rounded (ps : List LayP) : List Nat := (parOf ps).map fun x => cb (canon .f32 x)
def vRoundModel (ps : List LayP) : Bool × List LayP := if vMod ps = true then (true, (withP ps (rounded ps)).map LayP.can) else (false, [])
theorem vRoundModel_len (ps : List LayP) : 3 * (vRoundModel ps).2.length + laySum (vRoundModel ps).2 ≤ 1048576 := by
  unfold vRoundModel
  split
  · rename_i h
    have h1 := vMod_parts h
    have h2 := laySum_withP_le ps (rounded ps)
    have h3 := laySum_canP (withP ps (rounded ps))
    have h4 := withP_length ps (rounded ps)
    simp only [List.length_map]
    omega
  · simp [laySum]
theorem round_of {ps : List LayP} {zs : List Nat} (h : zs.map (canon .f32) = rounded ps) : (withP ps zs).map LayP.can = (withP ps (rounded ps)).map LayP.can := by rw [← withP_canon ps zs, h]
theorem Blk.under {w w' : World} {B g : Nat} {t : TypeId} {cs : Array Value} (h : Blk w g t cs) (hb : Below B w w') (hg : g < B) : Blk w' g t cs := (hb.block g hg).trans h
set_option maxRecDepth 20000 in
set_option maxHeartbeats 2000000 in
theorem t_sRoundModel (ps : List LayP) (n : Nat) (g : Option Addr) (c : Nat) (y : List LayA) (w : World) (hp : y.map LayA.p = ps) (h : LaysAt w g n c y) :
    Calls Try.prog 47 #[.agg #[.slice g n c]] w (RetM (vRoundModel ps).1 (vRoundModel ps).2 w) := by
  subst hp
  have H := Lib.hid h
  have hn : n = (y.map LayA.p).length := by simpa using h.1.symm
  have b0 := Lib.hid (((Below.refl w.heap.size w).alloc (Nat.le_refl _) (.cells #[.slice g n c] 66)).alloc (by simp) (.cells #[.slice none 0 0] 66))
  have k1 := Lib.hid (show Blk ((w.alloc (.cells #[.slice g n c] 66)).alloc (.cells #[.slice none 0 0] 66)) (w.heap.size + 1) 66 #[.slice none 0 0] by simpa using Blk.new (w.alloc (.cells #[.slice g n c] 66)) 66 #[.slice none 0 0])
  have k1d := Lib.hid (fun d => k1.out.below (below_drewN (Below.refl _ ((w.alloc (.cells #[.slice g n c] 66)).alloc (.cells #[.slice none 0 0] 66))) d))
  cases hv : vMod (y.map LayA.p) with
  | false =>
    have HV := Lib.hid hv
    rw [show vRoundModel (y.map LayA.p) = (false, []) by simp [vRoundModel, hv]]
    clear h hv hn
    go_enter Try.func47, Try.ntmps47
    go_wp2_with fail
    refine (c_l03Is _ 0 g c n y _ HV.out _ (by go_simp) (H.out.kept b0.out)).mono ?_
    rintro e w' ⟨rfl, d, rfl⟩
    have K1 := Lib.hid (k1d.out d)
    have HB := Lib.hid (below_drewN b0.out d)
    go_wp2_with fail
    obtain ⟨s0, sl⟩ := tb1 K1.out
    refine bodyPost_ret (v := .tuple #[.agg #[.slice none 0 0], .bool false]) (by simp [results, Try.results47, go_sem, s0]; try rfl) rfl ?_
    exact retM_no (HB.out.setCell (p := ⟨w.heap.size + 1, 0, none⟩) (by simp) _)
  | true =>
    have HV := Lib.hid hv
    have HP := Lib.hid (vMod_parts hv)
    have h6 : n ≤ 6 := by have := HP.out; omega
    have H6 := Lib.hid h6
    rw [show vRoundModel (y.map LayA.p) = (true, (withP (y.map LayA.p) (rounded (y.map LayA.p))).map LayP.can) by simp only [vRoundModel, hv]; rfl]
    clear h hv hn h6
    go_enter Try.func47, Try.ntmps47
    go_wp2_with fail
    refine (c_l03Is _ 0 g c n y _ HV.out _ (by go_simp) (H.out.kept b0.out)).mono ?_
    rintro e w' ⟨rfl, d, rfl⟩
    have k0 : Blk ((w.alloc (.cells #[.slice g n c] 66)).alloc (.cells #[.slice none 0 0] 66)) w.heap.size 66 #[.slice g n c] := (Blk.new w 66 #[.slice g n c]).below ((Below.refl (w.alloc (.cells #[.slice g n c] 66)).heap.size _).alloc (Nat.le_refl _) (.cells #[.slice none 0 0] 66))
    have K0 := Lib.hid (k0.below (below_drewN (Below.refl _ _) d))
    have K1 := Lib.hid (k1d.out d)
    have HB := Lib.hid (below_drewN b0.out d)
    clear k0 k1 k1d b0
    go_wp2_with fail
    generalize ((w.alloc (.cells #[.slice g n c] 66)).alloc (.cells #[.slice none 0 0] 66)).drewN d = w1 at K0 K1 HB ⊢
    have SB := Lib.hid (show w.heap.size + 1 < w1.heap.size from K1.out.lt)
    obtain ⟨x0, xl⟩ := tb1 K0.out
    refine (c_l03Params _ 0 g c n y _ xl x0 (H.out.kept HB.out) HP.out.2.2 H6.out).mono ?_
    rintro e w2 ⟨b, cp, rfl, hf, bl⟩
    have HF := Lib.hid hf
    have BL := Lib.hid bl
    clear hf bl x0 xl
    have hlen : (parOf (y.map LayA.p)).length ≤ 432 := by rw [parOf_length]; exact HP.out.2.2
    obtain ⟨zs, hzs⟩ : ∃ zs, parOf (y.map LayA.p) = zs := ⟨_, rfl⟩
    have HZS := Lib.hid hzs
    rw [hzs] at HF hlen
    rw [hzs]
    clear hzs
    go_wp2_with fail
    go_loopw [12] (fun i wr => UpdRel (fun i => cb (canon .f32 (zs.getD i 0))) zs w1.heap.size b cp w2 i wr) (fun i _ => zs.length - (intOf i).toNat)
    case atStart => exact upd_first HF.out (Below.refl _ _)
    case round =>
      obtain ⟨k, ys, hk, rfl, hy, ho, he, hb⟩ := hrel
      have HY := Lib.hid hy
      have HO := Lib.hid ho
      have HE := Lib.hid he
      have HBB := Lib.hid hb
      have hk0 : (0 : Int) ≤ (k : Int) := by omega
      have SZ2 := Lib.hid (show w1.heap.size ≤ wr.heap.size from Nat.le_trans BL.out.size hb.size)
      clear hy ho he hb
      by_cases hlt : k < zs.length
      · have hlt' : (k : Int) < (zs.length : Int) := by omega
        obtain ⟨gd, rfl, hg, hg2⟩ := own_some HO.out (by rw [upd_length hk HY.out]; omega)
        obtain ⟨hc, hfz⟩ := own_cell (k := k) HO.out (by rw [upd_length hk HY.out]; omega)
        rw [upd_at HY.out] at hc
        have hxl : zs.getD k 0 < 4294967296 := by
          have := HF.out.2 (zs.getD k 0) (by unfold List.getD; rw [List.getElem?_eq_getElem hlt]; exact List.getElem_mem _)
          exact this
        obtain ⟨x, hx⟩ : ∃ x, zs.getD k 0 = x := ⟨_, rfl⟩
        rw [hx] at hc hxl
        have HXX := Lib.hid hx
        clear hx
        go_wp2_with fail
        refine (c_l01Bfloat x hxl _).mono ?_
        rintro e w3 ⟨rfl, dn⟩
        have hb3 := Lib.hid dn.below
        have hc3 := (dn.below.cell (p := ⟨gd, k, none⟩) hg2).trans hc
        have hf3 := (dn.below.frozen (p := ⟨gd, k, none⟩) hg2).trans hfz
        clear dn hc hfz
        go_wp2_with fail
        go_roundw
        case rel => exact upd_next hlt HY.out HO.out HE.out HBB.out hb3.out SZ2.out (bf_lt hxl) (by rw [cb_of, HXX.out])
        case measure => simp [intOf]; omega
      · obtain rfl : k = zs.length := by omega
        have K0' := Lib.hid (Blk.under (K0.out.below BL.out) HBB.out (by have := SB.out; omega))
        have K1' := Lib.hid (Blk.under (K1.out.below BL.out) HBB.out SB.out)
        have HB2 := Lib.hid (show Below w.heap.size w wr from (Below.next HB.out BL.out).trans (HBB.out.mono (by have := SB.out; omega)))
        have HYO := Lib.hid (upd_end HY.out HO.out)
        have HYC := Lib.hid (show ys.map (canon .f32) = rounded (y.map LayA.p) by rw [HE.out, range_getD zs (fun x => cb (canon .f32 x)), ← HZS.out]; rfl)
        have HYL := Lib.hid (show ys.length = laySum (y.map LayA.p) by rw [HY.out, ← HZS.out, parOf_length])
        have hfl := HYO.out.isFloats
        rw [HY.out] at hfl
        have HFL := Lib.hid hfl
        have HZL := Lib.hid (show zs.length = laySum (y.map LayA.p) by rw [← HZS.out, parOf_length])
        have SZW := Lib.hid (show w.heap.size < wr.heap.size by have := SB.out; have := SZ2.out; omega)
        clear hfl
        obtain ⟨x0, xl⟩ := tb1 K0'.out
        go_wp2_with fail
        refine (c_l03With _ 0 g c n y b zs.length cp ys _ xl x0 (H.out.kept HB2.out) HFL.out HZL.out (by have := HZL.out; have := HP.out.2.2; omega) H6.out).mono ?_
        rintro e w3 ⟨gs, cap, ls, rfl, hyl, hyp, ho, hnd, bl⟩
        subst hyl
        have K1'' := Lib.hid (K1'.out.below bl)
        have HB3 := Lib.hid (Below.next HB2.out bl)
        have HOO := Lib.hid ho
        have HND := Lib.hid hnd
        have HYP := Lib.hid hyp
        have SZ3 := Lib.hid (show w.heap.size + 1 < wr.heap.size from K1'.out.lt)
        clear ho hnd hyp bl x0 xl
        obtain ⟨s0, sl⟩ := tb1 K1''.out
        have f0 := K1''.out.frozen 0
        go_wp2_with fail
        refine bodyPost_ret (v := .tuple #[.agg #[.slice gs ls.length cap], .bool true]) (by simp [results, Try.results47, go_sem, s0]; try rfl) rfl ⟨gs, cap, ls, rfl, ?_, HND.out, ?_, HB3.out.setCell (p := ⟨w.heap.size + 1, 0, none⟩) (by simp) _⟩
        · refine OwnL.base (by have := SZW.out; omega : w.heap.size ≤ wr.heap.size) _ (HOO.out.far (p := ⟨w.heap.size + 1, 0, none⟩) SZ3.out _)
        · rw [← round_of HYC.out, ← HYP.out, List.map_map]; rfl
theorem x_bfloat (x : Nat) (hx : x < 4294967296) (w : World) : Calls Try.prog 94 (#[.float .f32 x] ++ #[]) w (RetX (cb (canon .f32 x)) w) :=
  (c_iBfloatOf x hx w).mono fun _ _ ⟨r, hr, hl, he, hw⟩ => ⟨r, he, by rw [hr, cb_of], hl, by subst hw; exact Below.refl _ _⟩
set_option maxRecDepth 20000 in
set_option maxHeartbeats 2000000 in
theorem t_iRoundModel (ps : List LayP) (n : Nat) (g : Option Addr) (c : Nat) (y : List LayA) (w : World) (hp : y.map LayA.p = ps) (h : LaysAt w g n c y) :
    Calls Try.prog 49 #[.agg #[.slice g n c]] w (RetM (vRoundModel ps).1 (vRoundModel ps).2 w) := by
  subst hp
  have H := Lib.hid h
  have b0 := Lib.hid (((Below.refl w.heap.size w).alloc (Nat.le_refl _) (.cells #[.slice g n c] 66)).alloc (by simp) (.cells #[.slice none 0 0] 66))
  have k1 := Lib.hid (show Blk ((w.alloc (.cells #[.slice g n c] 66)).alloc (.cells #[.slice none 0 0] 66)) (w.heap.size + 1) 66 #[.slice none 0 0] by simpa using Blk.new (w.alloc (.cells #[.slice g n c] 66)) 66 #[.slice none 0 0])
  have k0 : Blk ((w.alloc (.cells #[.slice g n c] 66)).alloc (.cells #[.slice none 0 0] 66)) w.heap.size 66 #[.slice g n c] := (Blk.new w 66 #[.slice g n c]).below ((Below.refl (w.alloc (.cells #[.slice g n c] 66)).heap.size _).alloc (Nat.le_refl _) (.cells #[.slice none 0 0] 66))
  have K00 := Lib.hid k0
  have HPA := Lib.hid (fun w h => t_iParamsOf (y.map LayA.p) n g c y w rfl h)
  clear k0
  cases hv : vMod (y.map LayA.p) with
  | false =>
    rw [show vParamsOf (y.map LayA.p) = (false, []) by simp [vParamsOf, hv]] at HPA
    rw [show vRoundModel (y.map LayA.p) = (false, []) by simp [vRoundModel, hv]]
    clear h hv
    go_enter Try.func49, Try.ntmps49
    go_wp2_with fail
    refine (HPA.out _ (H.out.kept b0.out)).mono ?_
    rintro e w1 ⟨b, cp, zs, rfl, hf, hz, bl⟩
    have K1 := Lib.hid (k1.out.below bl)
    have HB := Lib.hid (Below.next b0.out bl)
    clear hf bl
    obtain ⟨s0, sl⟩ := tb1 K1.out
    have f0 := K1.out.frozen 0
    go_wp2_with fail
    refine bodyPost_ret (v := .tuple #[.agg #[.slice none 0 0], .bool false]) (by simp [results, Try.results49, go_sem, s0]; try rfl) rfl ?_
    exact retM_no (HB.out.setCell (p := ⟨w.heap.size + 1, 0, none⟩) (by simp) _)
  | true =>
    have HV := Lib.hid hv
    have HP := Lib.hid (vMod_parts hv)
    rw [show vParamsOf (y.map LayA.p) = (true, (parOf (y.map LayA.p)).map (canon .f32)) by simp [vParamsOf, hv]] at HPA
    rw [show vRoundModel (y.map LayA.p) = (true, (withP (y.map LayA.p) (rounded (y.map LayA.p))).map LayP.can) by simp only [vRoundModel, hv]; rfl]
    clear h hv
    go_enter Try.func49, Try.ntmps49
    go_wp2_with fail
    refine (HPA.out _ (H.out.kept b0.out)).mono ?_
    rintro e w1 ⟨b, cp, zs, rfl, hf, hz, bl⟩
    have K0 := Lib.hid (K00.out.below bl)
    have K1 := Lib.hid (k1.out.below bl)
    have HB := Lib.hid (Below.next b0.out bl)
    have HF := Lib.hid hf.isFloats
    have hzl : zs.length = (parOf (y.map LayA.p)).length := by have := congrArg List.length hz; simpa using this
    have HZL := Lib.hid hzl
    have HZ := Lib.hid (show zs.map (fun x => cb (canon .f32 x)) = rounded (y.map LayA.p) by
      have := congrArg (List.map cb) hz
      simpa [rounded, List.map_map, Function.comp_def] using this)
    have h256 : zs.length ≤ 432 := by rw [hzl, parOf_length]; exact HP.out.2.2
    clear hf bl hz hzl b0 k1 K00 HPA
    have HLW := Lib.hid (H.out.kept HB.out)
    obtain ⟨p0, pl⟩ := tb1 K0.out
    go_wp2_with fail
    go_region_held3 (fun w' => w'.cell? ⟨w.heap.size, 0, none⟩ = some (.slice g n c)) (go_keep)
      (first
        | (go_at_call 61
           refine (c_eachOfBig 94 #[] (fun x => cb (canon .f32 x)) b zs.length cp zs _ (HF.out.kept ((Below.refl w1.heap.size w1).drew)) (by omega) (enters_of Try.func94 (by kernel_rfl) (by kernel_rfl)) (fun x wr hx _ => x_bfloat x hx wr)).mono ?_
           rintro e w2 ⟨b2, c2, ys, rfl, ho, he, bl⟩
           have hb1 : Below w1.heap.size w1 w2 := ((Below.refl w1.heap.size w1).drew).trans bl
           have HB1 := Lib.hid hb1
           have HYS := Lib.hid ho.isFloats
           have HE := Lib.hid (show ys.map (canon .f32) = rounded (y.map LayA.p) by rw [he, range_getD zs (fun x => cb (canon .f32 x)), HZ.out])
           have HYL := Lib.hid (show ys.length = (parOf (y.map LayA.p)).length by have := congrArg List.length he; rw [← HZL.out]; simpa using this)
           have K02 := Lib.hid (K0.out.below hb1)
           clear bl hb1 ho he p0 pl
           obtain ⟨p0, pl⟩ := tb1 K02.out)
        | (go_at_call 93
           refine (t_iWithParams (y.map LayA.p) n g c y ys b2 c2 _ rfl (HLW.out.kept HB1.out) HYS.out).mono ?_
           rintro e w3 ⟨gs, cap, ls, rfl, ho, hnd, hyp, bl⟩
           have HOO := Lib.hid ho
           have HND := Lib.hid hnd
           have HYP := Lib.hid hyp
           have HB3 := Lib.hid (Below.next (Below.next HB.out HB1.out) bl)
           have SZ := Lib.hid (Nat.le_trans HB.out.size HB1.out.size)
           have SZ1 := Lib.hid (show w.heap.size + 1 < w2.heap.size from (K1.out.below HB1.out).lt)
           have K13 := Lib.hid ((K1.out.below HB1.out).below bl)
           have K03 := Lib.hid (K02.out.below bl)
           clear ho hnd hyp bl p0 pl
           obtain ⟨p0, pl⟩ := tb1 K03.out
           obtain ⟨s0, sl⟩ := tb1 K13.out
           have f0 := K13.out.frozen 0))
    have hvw : vWithParams (y.map LayA.p) ys = (true, (withP (y.map LayA.p) ys).map LayP.can) := by
      unfold vWithParams okWith
      rw [if_pos (by rw [HV.out, Bool.true_and]; exact decide_eq_true HYL.out)]
    go_wp2_with fail
    refine bodyPost_ret (v := .tuple #[.agg #[.slice gs ls.length cap], .bool true]) (by simp [results, Try.results49, go_sem, s0, hvw]; try rfl) rfl ⟨gs, cap, ls, rfl, ?_, HND.out, ?_, HB3.out.setCell (p := ⟨w.heap.size + 1, 0, none⟩) (by simp) _⟩
    · refine OwnL.base SZ.out _ (HOO.out.far (p := ⟨w.heap.size + 1, 0, none⟩) SZ1.out _)
    · rw [HYP.out, hvw, round_of HE.out]
end Go.Proofs.Ytaklcmibpnpffaa
