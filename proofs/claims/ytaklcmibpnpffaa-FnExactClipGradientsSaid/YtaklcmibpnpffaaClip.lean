/-
  Gradients that are not too long: the same for the program and for its model. Conditions: the numbers can be read.
-/
import Derived.Test.YtaklcmibpnpffaaOp5
import Derived.Test.YtaklcmibpnpffaaDotIn
import Derived.Test.YtaklcmibpnpffaaRoot
import Derived.Deep.RegionLaw
import Derived.BigRegion
namespace Go.Proofs.Ytaklcmibpnpffaa
open Go.RowKit Go.Deep Go.WideShapes Go.ChangeShapes
set_option linter.unusedVariables false

def clong (z : List Nat) : Nat := cnarrow (csq (cwide (cdot z z)))
theorem cdot_canon (xs ys : List Nat) : canon .f32 (cdot xs ys) = cdot xs ys := by
  have h : ∀ (l : List (Nat × Nat)) (s : Nat), canon .f32 s = s → canon .f32 (l.foldl (fun s p => cop .add .f32 s (cop .mul .f32 (canon .f32 p.1) (canon .f32 p.2))) s) = l.foldl (fun s p => cop .add .f32 s (cop .mul .f32 (canon .f32 p.1) (canon .f32 p.2))) s := by
    intro l
    induction l with
    | nil => intro s hs; exact hs
    | cons p l ih => intro s _; exact ih _ (cop_canon _ _ _ _)
  exact h _ _ canon_zero
def cclip (z : List Nat) (m : Nat) : Nat := cop .quo .f32 (canon .f32 m) (clong z)
def isLong (z : List Nat) (m : Nat) : Bool := FloatKind.f32.format.order (clong z) (canon .f32 m) == some .gt
def vClipGradients (z : List Nat) (m : Nat) : Nat × Bool × List Nat :=
  if z.length ≤ 256 then (clong z, true, if isLong z m = true then (List.range z.length).map fun i => cop .mul .f32 (canon .f32 (z.getD i 0)) (cclip z m) else z.map (canon .f32)) else (0, false, [])
theorem vClipGradients_len (z : List Nat) (m : Nat) : (vClipGradients z m).2.2.length ≤ 1048576 := by
  unfold vClipGradients
  split
  · dsimp only
    split <;> simp <;> omega
  · simp
theorem vClip_no {z : List Nat} {m : Nat} (h : ¬ z.length ≤ 256) : vClipGradients z m = (0, false, []) := by unfold vClipGradients; rw [if_neg h]
theorem vClip_keep {z : List Nat} {m : Nat} (h : z.length ≤ 256) (hl : isLong z m = false) : vClipGradients z m = (clong z, true, z.map (canon .f32)) := by unfold vClipGradients; rw [if_pos h, if_neg (by rw [hl]; decide)]
theorem vClip_long {z : List Nat} {m : Nat} (h : z.length ≤ 256) (hl : isLong z m = true) : vClipGradients z m = (clong z, true, (List.range z.length).map fun i => cop .mul .f32 (canon .f32 (z.getD i 0)) (cclip z m)) := by unfold vClipGradients; rw [if_pos h, if_pos hl]
theorem long_test {z : List Nat} {m r : Nat} {b : Bool} (hr : canon .f32 r = clong z) (hl : isLong z m = b) : (FloatKind.f32.format.order r m == some .gt) = b := by rw [← order_canon, hr]; exact hl
theorem root_dot {z : List Nat} {r : Nat} (h : canon .f32 r = cdot z z) : cnarrow (csq (cwide (canon .f32 r))) = clong z := by rw [h]; rfl
set_option maxRecDepth 20000 in
set_option maxHeartbeats 4000000 in
theorem t_sClipGradients (z : List Nat) (m : Nat) (a0 : Option Addr) (w : World) (h : IsFloats .f32 w a0 z.length z.length z) (hm : m < 4294967296) : Calls Try.prog 28 #[.slice a0 z.length z.length, .float .f32 m] w (RetK (vClipGradients z m).1 (vClipGradients z m).2.1 (vClipGradients z m).2.2 w) := by
  have HF := Lib.hid h
  have hmax : z.length ≤ 9223372036854775807 := by have := h.2.1; unfold maxLen at this; exact this
  clear h
  by_cases h2 : z.length ≤ 256
  · have H2 := Lib.hid (show decide (z.length ≤ 256) = true by simp [h2])
    cases hlg : isLong z m with
    | true =>
      have HX := Lib.hid (vClip_long h2 hlg)
      rw [HX.out]
      have HLG := Lib.hid (fun r (hr : canon .f32 r = clong z) => long_test (b := true) hr hlg)
      clear hlg HX
      go_enter Try.func28, Try.ntmps28
      go_wp2_with (first | (go_at_call 58; refine (c_l01Few _ _ _ _).mono ?_; rintro e w' ⟨rfl, rfl⟩; rw [H2.out]) | fail)
      refine (c_l02Own _ _ _ z _ HF.out (by omega)).mono ?_
      rintro e w1 ⟨b, c, rfl, ho, hb⟩
      have HO := Lib.hid ho
      have HB := Lib.hid hb
      clear ho hb
      go_wp2_with fail
      refine (c_l01Dot _ _ _ _ _ z z _ HO.out.isFloats HO.out.isFloats).mono ?_
      rintro e w2 ⟨r, d, hr, hr2, rfl, rfl⟩
      have HR := Lib.hid (root_dot hr)
      clear hr hr2
      go_wp2_with fail
      refine (c_l01Sqrt _ _).mono ?_
      rintro e w2 ⟨l, d2, hl, hl2, rfl, rfl⟩
      have HL := Lib.hid (hl.trans HR.out)
      have ht := HLG.out l HL.out
      clear hl hl2 HLG HR
      rw [World.drewN_drewN]
      go_wp2_with fail
      have HV := Lib.hid (show canon .f32 (fval .quo .f32 m l (w1.drewN (d + d2))) = cclip z m by rw [canon_fval, HL.out]; rfl)
      obtain ⟨v, hv⟩ : ∃ v, fval .quo .f32 m l (w1.drewN (d + d2)) = v := ⟨_, rfl⟩
      rw [hv] at HV ⊢
      clear hv
      have HB2 := Lib.hid (show Below w.heap.size w (w1.drewN (d + d2 + fdr .quo .f32 m l)) from below_drewN HB.out _)
      have HO2 := Lib.hid (HO.out.drewN (d + d2 + fdr .quo .f32 m l))
      generalize w1.drewN (d + d2 + fdr .quo .f32 m l) = w3 at HB2 HO2 ⊢
      clear HB HO ht
      go_loopw [28] (fun i wr => UpdRel (fun i => cop .mul .f32 (canon .f32 (z.getD i 0)) (cclip z m)) z w.heap.size b c w i wr) (fun i _ => z.length - (intOf i).toNat)
      case atStart => exact upd_first HO2.out HB2.out
      case round =>
        obtain ⟨k, ys, hk, rfl, hy, ho, he, hb⟩ := hrel
        have HY := Lib.hid hy
        have HO := Lib.hid ho
        have HE := Lib.hid he
        have HB := Lib.hid hb
        have hk0 : (0 : Int) ≤ (k : Int) := by omega
        clear hy ho he hb HB2 HO2
        by_cases hlt : k < z.length
        · have hlt' : (k : Int) < (z.length : Int) := by omega
          obtain ⟨g, rfl, hg, hg2⟩ := own_some HO.out (by rw [upd_length hk HY.out]; omega)
          obtain ⟨hc, hf⟩ := own_cell (k := k) HO.out (by rw [upd_length hk HY.out]; omega)
          rw [upd_at HY.out] at hc
          have HC := Lib.hid (show ∀ x w1, z.getD k 0 = x → canon .f32 (fval .mul .f32 x v w1) = (fun i => cop .mul .f32 (canon .f32 (z.getD i 0)) (cclip z m)) k by intro x w1 hx; rw [canon_fval, HV.out, ← hx])
          obtain ⟨x, hx⟩ : ∃ x, z.getD k 0 = x := ⟨_, rfl⟩
          rw [hx] at hc
          have HXX := Lib.hid hx
          clear hx
          go_wp2_with fail
          go_roundw
          case rel => exact upd_next hlt HY.out HO.out HE.out HB.out (below_drewN (Below.refl _ _) _) HB.out.size (fval_lt .mul .f32 _ _ _) (HC.out _ _ HXX.out)
          case measure => simp [intOf]; omega
        · obtain rfl : k = z.length := by omega
          go_wp2_with fail
          refine bodyPost_ret (v := .tuple #[.slice b z.length c, .float .f32 l, .bool true]) (by simp [results, Try.results28]) rfl ?_
          exact ⟨l, b, c, ys, HL.out, by rw [HY.out], upd_end HY.out HO.out, HE.out, HB.out⟩
    | false =>
      have HX := Lib.hid (vClip_keep h2 hlg)
      rw [HX.out]
      have HLG := Lib.hid (fun r (hr : canon .f32 r = clong z) => long_test (b := false) hr hlg)
      clear hlg HX
      go_enter Try.func28, Try.ntmps28
      go_wp2_with (first | (go_at_call 58; refine (c_l01Few _ _ _ _).mono ?_; rintro e w' ⟨rfl, rfl⟩; rw [H2.out]) | fail)
      refine (c_l02Own _ _ _ z _ HF.out (by omega)).mono ?_
      rintro e w1 ⟨b, c, rfl, ho, hb⟩
      have HO := Lib.hid ho
      have HB := Lib.hid hb
      clear ho hb
      go_wp2_with fail
      refine (c_l01Dot _ _ _ _ _ z z _ HO.out.isFloats HO.out.isFloats).mono ?_
      rintro e w2 ⟨r, d, hr, hr2, rfl, rfl⟩
      have HR := Lib.hid (root_dot hr)
      clear hr hr2
      go_wp2_with fail
      refine (c_l01Sqrt _ _).mono ?_
      rintro e w2 ⟨l, d2, hl, hl2, rfl, rfl⟩
      have HL := Lib.hid (hl.trans HR.out)
      have ht := HLG.out l HL.out
      clear hl hl2 HLG HR
      rw [World.drewN_drewN]
      go_wp2_with fail
      refine bodyPost_ret (v := .tuple #[.slice b z.length c, .float .f32 l, .bool true]) (by simp [results, Try.results28]) rfl ?_
      exact ⟨l, b, c, z, HL.out, rfl, HO.out.drewN _, rfl, below_drewN HB.out _⟩
  · have HX := Lib.hid (vClip_no (m := m) h2)
    rw [HX.out]
    have H2 := Lib.hid (show decide (z.length ≤ 256) = false by simp [h2])
    clear h2
    go_enter Try.func28, Try.ntmps28
    go_wp2_with (go_at_call 58; refine (c_l01Few _ _ _ _).mono ?_; rintro e w' ⟨rfl, rfl⟩; rw [H2.out])
    refine bodyPost_ret (v := .tuple #[.slice none 0 0, .float .f32 0, .bool false]) (by simp [results, Try.results28]) rfl ?_
    exact ⟨0, none, 0, [], by decide +kernel, rfl, nil_own _ _, rfl, Below.refl _ _⟩
theorem one_row (w : World) (x : Nat) (hx : x < 4294967296) : IsFloats .f32 (w.alloc (.cells #[.float .f32 x] 22)) (some ⟨w.heap.size, 0, none⟩) 1 1 [x] := by
  refine ⟨Nat.le_refl _, by decide, rfl, fun y hy => ?_, .inr ⟨_, _, rfl, by simp, fun i hi => ?_⟩⟩
  · simp at hy; subst hy; exact hx
  · obtain rfl : i = 0 := by omega
    exact (Blk.new w 22 #[.float .f32 x]).cell 0
set_option maxRecDepth 20000 in
set_option maxHeartbeats 4000000 in
theorem t_iClipGradients (z : List Nat) (m : Nat) (a0 : Option Addr) (w : World) (h : IsFloats .f32 w a0 z.length z.length z) (hm : m < 4294967296) : Calls Try.prog 29 #[.slice a0 z.length z.length, .float .f32 m] w (RetK (vClipGradients z m).1 (vClipGradients z m).2.1 (vClipGradients z m).2.2 w) := by
  have HF := Lib.hid h
  have hmax : z.length ≤ 9223372036854775807 := by have := h.2.1; unfold maxLen at this; exact this
  clear h
  by_cases h2 : z.length ≤ 256
  · have h2' : (z.length : Int) ≤ 256 := by omega
    cases hlg : isLong z m with
    | true =>
      have HX := Lib.hid (vClip_long h2 hlg)
      rw [HX.out]
      have HLG := Lib.hid (fun r (hr : canon .f32 r = clong z) => long_test (b := true) hr hlg)
      clear hlg HX
      go_enter Try.func29, Try.ntmps29
      go_wp2_with fail
      refine (c_dotIn32 _ _ _ _ _ z z _ HF.out HF.out).mono ?_
      rintro e w2 ⟨r, d, hr, hr2, rfl, rfl⟩
      have HR := Lib.hid (root_dot hr)
      clear hr hr2
      go_wp2_with fail
      refine (c_iRootNumber _ _).mono ?_
      rintro e w2 ⟨l, d2, hl, hl2, rfl, rfl⟩
      have HL := Lib.hid (hl.trans HR.out)
      have ht := HLG.out l HL.out
      clear hl hl2 HLG HR
      rw [World.drewN_drewN]
      go_wp2_with fail
      have HV := Lib.hid (show canon .f32 (fval .quo .f32 m l (w.drewN (d + d2))) = cclip z m by rw [canon_fval, HL.out]; rfl)
      have HVL := Lib.hid (show fval .quo .f32 m l (w.drewN (d + d2)) < 4294967296 from fval_lt .quo .f32 _ _ _)
      obtain ⟨v, hv⟩ : ∃ v, fval .quo .f32 m l (w.drewN (d + d2)) = v := ⟨_, rfl⟩
      rw [hv] at HV HVL ⊢
      clear hv
      have HB2 := Lib.hid (show Below w.heap.size w (w.drewN (d + d2 + fdr .quo .f32 m l)) from below_drewN (Below.refl _ _) _)
      have HF2 := Lib.hid (HF.out.drewN (d + d2 + fdr .quo .f32 m l))
      have HS := Lib.hid (show (w.drewN (d + d2 + fdr .quo .f32 m l)).heap.size = w.heap.size from rfl)
      generalize w.drewN (d + d2 + fdr .quo .f32 m l) = w3 at HB2 HF2 HS ⊢
      have HR1 := Lib.hid (show IsFloats .f32 (w3.alloc (.cells #[.float .f32 v] 22)) (some ⟨w.heap.size, 0, none⟩) 1 1 [v] by have := one_row w3 v HVL.out; rw [HS.out] at this; exact this)
      have HB3 := Lib.hid (Below.next HB2.out ((Below.refl _ w3).alloc (Nat.le_refl _) (.cells #[.float .f32 v] 22)))
      refine (c_combineLists 57 #[] (fun x y => cop .mul .f32 (canon .f32 x) (canon .f32 y)) _ _ _ _ 1 1 z [v] _ (HF2.out.kept ((Below.refl _ _).alloc (Nat.le_refl _) _)) HR1.out h2 (by decide) (by decide) (enters_of Try.func57 (by kernel_rfl) (by kernel_rfl)) (fun x y wr _ => x_productOfTwo x y wr)).mono ?_
      rintro e w4 ⟨b, c, ys, rfl, ho, he, hb⟩
      have HO := Lib.hid (ho.base HB3.out.size)
      have HE := Lib.hid (show ys.map (canon .f32) = (List.range z.length).map fun i => cop .mul .f32 (canon .f32 (z.getD i 0)) (cclip z m) by
        rw [he]
        refine List.map_congr_left fun i _ => ?_
        rw [Nat.mod_one, ← HV.out]
        rfl)
      have HB := Lib.hid (Below.next HB3.out hb)
      clear ho he hb
      go_wp2_with fail
      refine bodyPost_ret (v := .tuple #[.slice b ys.length c, .float .f32 l, .bool true]) (by simp [results, Try.results29]) rfl ?_
      exact ⟨l, b, c, ys, HL.out, rfl, HO.out, HE.out, HB.out⟩
    | false =>
      have HX := Lib.hid (vClip_keep h2 hlg)
      rw [HX.out]
      have HLG := Lib.hid (fun r (hr : canon .f32 r = clong z) => long_test (b := false) hr hlg)
      clear hlg HX
      go_enter Try.func29, Try.ntmps29
      go_wp2_with fail
      refine (c_dotIn32 _ _ _ _ _ z z _ HF.out HF.out).mono ?_
      rintro e w2 ⟨r, d, hr, hr2, rfl, rfl⟩
      have HR := Lib.hid (root_dot hr)
      clear hr hr2
      go_wp2_with fail
      refine (c_iRootNumber _ _).mono ?_
      rintro e w2 ⟨l, d2, hl, hl2, rfl, rfl⟩
      have HL := Lib.hid (hl.trans HR.out)
      have ht := HLG.out l HL.out
      clear hl hl2 HLG HR
      rw [World.drewN_drewN]
      go_wp2_with fail
      refine (c_copyOf _ _ _ z _ (HF.out.drewN _) (by omega)).mono ?_
      rintro e w4 ⟨b, c, rfl, ho, hb⟩
      have HO := Lib.hid ho
      have HB := Lib.hid (Below.next (below_drewN (Below.refl _ _) (d + d2)) hb)
      clear ho hb
      go_wp2_with fail
      refine bodyPost_ret (v := .tuple #[.slice b z.length c, .float .f32 l, .bool true]) (by simp [results, Try.results29]) rfl ?_
      exact ⟨l, b, c, z, HL.out, rfl, HO.out, rfl, HB.out⟩
  · have HX := Lib.hid (vClip_no (m := m) h2)
    rw [HX.out]
    have h2' : (256 : Int) < (z.length : Int) := by omega
    clear h2
    go_enter Try.func29, Try.ntmps29
    go_wp2_with fail
    refine bodyPost_ret (v := .tuple #[.slice none 0 0, .float .f32 0, .bool false]) (by simp [results, Try.results29]) rfl ?_
    exact ⟨0, none, 0, [], by decide +kernel, rfl, nil_own _ _, rfl, Below.refl _ _⟩
end Go.Proofs.Ytaklcmibpnpffaa
