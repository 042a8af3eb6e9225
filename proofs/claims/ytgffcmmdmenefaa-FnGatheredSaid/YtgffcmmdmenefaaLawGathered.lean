/-
  FnGathered holds. No condition.
-/
import Derived.Test.YtgffcmmdmenefaaR8
import Derived.Test.YtgffcmmdmenefaaGac
import Derived.Test.YtgffcmmdmenefaaRn
import Derived.ChangeOld
import Derived.Below
namespace Go.Proofs.Ytgffcmmdmenefaa.fnGathered
open Go.ChangeShapes Go.WideShapes Go.ChangeAt Go.RowKit
open Go.ChangeMaps (open_string shut_string)
set_option linter.unusedVariables false

theorem gS_zero (z : List Nat) (k j : Nat) : gS z k 0 j = (gst (canon .f32 (z.getD j 0)) k).1 := rfl
theorem gR_zero (z : List Nat) (k j : Nat) : gR z k 0 j = (gst (canon .f32 (z.getD j 0)) k).2 := rfl
theorem vG_yes {z : List Nat} {R : Nat} (h1 : z.length ≤ 8) (h2 : R ≤ 8) : vGatherRounding z (R : Int) = (true, (List.range z.length).map (gS z R 0), (List.range z.length).map (gR z R 0)) := by
  unfold vGatherRounding okG
  rw [decide_eq_true (show z.length ≤ 256 by omega), decide_eq_true (show (0 : Int) ≤ R by omega), decide_eq_true (show (R : Int) ≤ 20 by omega), Int.toNat_natCast]
  rfl
def FarRel (n : Nat) (W : World) (i : Value) (wr : World) : Prop := ∃ j : Nat, j ≤ n ∧ i = .int .i64 j ∧ Below W.heap.size W wr
def NearRel (x R : Nat) (W : World) (s r k : Value) (wr : World) : Prop :=
  ∃ (j sv rv : Nat), j ≤ R ∧ k = .int .i64 j ∧ s = .float .f32 sv ∧ r = .float .f32 rv ∧ sv < 4294967296 ∧ rv < 4294967296 ∧ canon .f32 sv = (gst (canon .f32 x) j).1 ∧ canon .f32 rv = (gst (canon .f32 x) j).2 ∧ Below W.heap.size W wr

theorem walk (a0 : Option Addr) (len0 cap0 : Nat) (z0 : List Int) (a1 : Option Addr) (len1 cap1 : Nat) (z1 : List Int) (w : World) (w0 : IsRow .u8 w a0 len0 cap0 z0) (w1 : IsRow .u8 w a1 len1 cap1 z1) :
    Calls Try.prog 12 #[.slice a0 len0 cap0, .slice a1 len1 cap1] w fun e w' => e = .returned (.bool true) ∧ Below w.heap.size w w' := by
  obtain ⟨hm0, hm1, rfl⟩ : len0 ≤ cap0 ∧ cap0 ≤ maxLen ∧ z0.length = len0 := ⟨w0.1, w0.2.1, w0.2.2.1⟩
  obtain ⟨hn0, hn1, rfl⟩ : len1 ≤ cap1 ∧ cap1 ≤ maxLen ∧ z1.length = len1 := ⟨w1.1, w1.2.1, w1.2.2.1⟩
  have HI0 := Lib.hid w0
  have HI1 := Lib.hid w1
  clear hm0 hm1 hn0 hn1 w0 w1
  by_cases hL : 48 < z0.length ∨ 48 < z1.length
  · have HL := Lib.hid hL
    clear hL
    go_enter Try.func12, Try.ntmps12
    go_wp2_with fail
    refine (c_r8Long_yes _ _ _ _ _ _ HL.out _).mono ?_
    rintro e w' ⟨rfl, rfl⟩
    go_wp2_with fail
    go_ret
    exact ⟨rfl, Below.refl _ _⟩
  · have HL0 := Lib.hid (show z0.length ≤ 48 by omega)
    have HL1 := Lib.hid (show z1.length ≤ 48 by omega)
    clear hL
    go_enter Try.func12, Try.ntmps12
    go_wp2_with fail
    refine (c_r8Long_no _ _ _ _ _ _ HL0.out HL1.out _).mono ?_
    rintro e w' ⟨rfl, rfl⟩
    go_wp2_with fail
    refine (c_R8Numbers 8 (by decide) _ _ _ z0 _ HI0.out (by have := HL0.out; omega)).mono ?_
    rintro e w2 ⟨la, lc, zs, hz, rfl, ho, hb⟩
    have HZ := Lib.hid hz
    have HLI := Lib.hid ho.isFloats
    have HB := Lib.hid hb
    have HI2 := Lib.hid (HI1.out.kept hb)
    clear hz ho hb
    go_wp2_with fail
    refine (c_r8At _ _ _ z1 0 9 _ HI2.out (by decide) (by decide) (by decide)).mono ?_
    rintro e w3 ⟨v0, p0, p1, rfl, rfl⟩
    obtain ⟨R, rfl⟩ := Int.eq_ofNat_of_zero_le p0
    have HR := Lib.hid (show R ≤ 8 by omega)
    clear p0 p1
    go_wp2_with fail
    have HG := Lib.hid (t_iGatherRoundingC zs R la lc w2 HLI.out)
    rw [vG_yes HZ.out HR.out] at HG
    refine HG.out.mono ?_
    rintro e w4 ⟨sa, sc, xs, ra, rc, ys, rfl, ho1, ho2, _, e1, e2, hb⟩
    have hxl : xs.length = zs.length := by simpa using congrArg List.length e1
    have hyl : ys.length = zs.length := by simpa using congrArg List.length e2
    obtain ⟨n, hn⟩ : ∃ n, zs.length = n := ⟨_, rfl⟩
    have K0 := HLI.out.kept hb
    have K1 := ho1.isFloats
    have K2 := ho2.isFloats
    have hn8 : n ≤ 8 := by have := HZ.out; omega
    rw [hn] at hxl hyl e1 e2 K0
    rw [hxl] at K1
    rw [hyl] at K2
    have HK0 := Lib.hid K0
    have HK1 := Lib.hid K1
    have HK2 := Lib.hid K2
    have HE1 := Lib.hid e1
    have HE2 := Lib.hid e2
    have HB4 := Lib.hid (Below.next HB.out hb)
    simp only [hn, hxl, hyl]
    clear HG hxl hyl hn K0 K1 K2 e1 e2 hb ho1 ho2 HLI HB HI2 HZ
    go_wp2_with fail
    go_loopw [10] (fun i wr => FarRel n w4 i wr) (fun i _ => n - (intOf i).toNat)
    case atStart => exact ⟨0, Nat.zero_le _, rfl, Below.refl _ _⟩
    case round =>
      obtain ⟨i, hi, rfl, hb⟩ := hrel
      have HBR := Lib.hid hb
      have hi0 : (0 : Int) ≤ (i : Int) := by omega
      clear hb
      by_cases hlt : i < n
      · have hlt' : (i : Int) < (n : Int) := by omega
        rcases HK0.out.2.2.2.2 with h' | ⟨g0, o0, rfl, hg0, hc0⟩
        · omega
        rcases HK1.out.2.2.2.2 with h' | ⟨g1, o1, rfl, hg1, hc1⟩
        · omega
        rcases HK2.out.2.2.2.2 with h' | ⟨g2, o2, rfl, hg2, hc2⟩
        · omega
        have C0 := Lib.hid (fun wr (hl : Below w4.heap.size w4 wr) => (hl.cell (p := ⟨g0, o0 + i, none⟩) hg0).trans (hc0 i hlt))
        have C1 := Lib.hid (fun wr (hl : Below w4.heap.size w4 wr) => (hl.cell (p := ⟨g1, o1 + i, none⟩) hg1).trans (hc1 i hlt))
        have C2 := Lib.hid (fun wr (hl : Below w4.heap.size w4 wr) => (hl.cell (p := ⟨g2, o2 + i, none⟩) hg2).trans (hc2 i hlt))
        have F1 := Lib.hid (canon_at HE1.out hlt)
        have F2 := Lib.hid (canon_at HE2.out hlt)
        have L1 := Lib.hid (show xs.getD i 0 < 4294967296 from HK1.out.2.2.2.1 _ (by have := HK1.out.2.2.1; simp [List.getD, show i < xs.length by omega]))
        have L2 := Lib.hid (show ys.getD i 0 < 4294967296 from HK2.out.2.2.2.1 _ (by have := HK2.out.2.2.1; simp [List.getD, show i < ys.length by omega]))
        rw [gS_zero] at F1
        rw [gR_zero] at F2
        obtain ⟨x, hx⟩ : ∃ x, zs.getD i 0 = x := ⟨_, rfl⟩
        obtain ⟨y, hy⟩ : ∃ x, xs.getD i 0 = x := ⟨_, rfl⟩
        obtain ⟨z, hz⟩ : ∃ x, ys.getD i 0 = x := ⟨_, rfl⟩
        rw [hx] at C0 F1 F2
        rw [hy] at C1 F1 L1
        rw [hz] at C2 F2 L2
        clear hx hy hz hc0 hc1 hc2
        go_wp2_with fail
        go_loopw [11, 12, 13] (fun s r k wr => NearRel x R w4 s r k wr) (fun _ _ k _ => R - (intOf k).toNat)
        case atStart => exact ⟨0, 0, 0, Nat.zero_le _, rfl, rfl, rfl, by decide, by decide, canon_zero, canon_zero, HBR.out⟩
        case round =>
          obtain ⟨j, sv, rv, hj, rfl, rfl, rfl, hsv, hrv, hs, hr, hb⟩ := hrel
          have HS := Lib.hid hs
          have HRR := Lib.hid hr
          have HBJ := Lib.hid hb
          have HSV := Lib.hid hsv
          have HRV := Lib.hid hrv
          have hj0 : (0 : Int) ≤ (j : Int) := by omega
          have hr8 := HR.out
          clear hs hr hb hsv hrv
          by_cases hlj : j < R
          · have hlj' : (j : Int) < (R : Int) := by omega
            have p0 := C0.out _ HBJ.out
            go_wp2_with fail
            refine (c_iBfloatOf _ (fval_lt .add .f32 x rv wr) _).mono ?_
            rintro e w5 ⟨r, hr, hrl, rfl, rfl⟩
            have HX := Lib.hid (show canon .f32 (fval .add .f32 x rv wr) = cop .add .f32 (canon .f32 x) (gst (canon .f32 x) j).2 by rw [canon_fval, HRR.out])
            have HB := Lib.hid (show canon .f32 r = cbf (cop .add .f32 (canon .f32 x) (gst (canon .f32 x) j).2) by rw [hr, cbf_of, HX.out])
            have HRL := Lib.hid hrl
            clear hr hrl p0
            go_wp2_with fail
            go_roundw
            case rel =>
              refine ⟨j + 1, _, _, hlj, by go_num, rfl, rfl, fval_lt .add .f32 _ _ _, fval_lt .sub .f32 _ _ _, ?_, ?_, ?_⟩
              · rw [canon_fval, HS.out, HB.out]; rfl
              · rw [canon_fval, HX.out, HB.out]; rfl
              · exact below_drewN HBJ.out _
            case measure => simp [intOf]; omega
          · obtain rfl : j = R := by omega
            have p1 := C1.out _ HBJ.out
            have p2 := C2.out _ HBJ.out
            go_wp2_with fail
            refine (c_iSameNumber y sv L1.out HSV.out _).mono ?_
            rintro e w5 ⟨rfl, rfl⟩
            rw [show ((canon .f32 y : Int) == (canon .f32 sv : Int)) = true by rw [HS.out, F1.out]; simp]
            go_wp2_with fail
            refine (c_iSameNumber z rv L2.out HRV.out _).mono ?_
            rintro e w5 ⟨rfl, rfl⟩
            rw [show ((canon .f32 z : Int) == (canon .f32 rv : Int)) = true by rw [HRR.out, F2.out]; simp]
            go_wp2_with fail
            go_roundw
            case rel => exact ⟨i + 1, hlt, by go_num, HBJ.out⟩
            case measure => simp [intOf]; omega
      · obtain rfl : i = n := by omega
        go_wp2_with fail
        go_ret
        exact ⟨rfl, Below.next HB4.out HBR.out⟩

/-! the row's step -/
set_option maxRecDepth 100000 in
theorem lifted (os : Os) (started : os.Started) (H : Type) (enc : TypeId × Value → H) :
    ReturnsInHanded {} Try.checked os 12 .any (Rows.fnGatheredSpec.pre6 enc Try.prog Try.f12 Rows.fnGatheredRow.domain false) (Rows.fnGatheredSpec.post enc Try.prog Try.f12 false true false false) := by
  refine returnsInHanded_of_change (C := Try.checked) own started (by kernel_rfl) Try.func12
    (ChangeSpec.witness6 (enc := enc) (C := Try.checked) false ⟨#[], #[.slice none 0 0, .slice none 0 0], []⟩ 8 (by kernel_rfl) (by kernel_rfl) (by kernel_rfl) (by kernel_rfl)) ?_
  intro W base args ds gs before hval0 hW hcnd _
  have hval : ∀ (j : Nat) t v, Try.f12.params[j]? = some t → args[j]? = some v → Value.okWide Try.prog W .any base t v := hval0
  have hW' := hW
  obtain ⟨p, q, hA0, hV, rfl, hfz, hnd⟩ := hW
  have hA : DataW.TrodAll enc Try.prog W 0 (fun _ => true) true Try.f12.params.toList args.toList ds p := hA0
  rw [Try.params12] at hA hval
  obtain ⟨v0, vs0, d0, ds0, p0, q0, hargs, rfl, rfl, h0, rest0⟩ := trodAll_cons hA
  obtain ⟨v1, vs1, d1, ds1, p1, q1, rfl, rfl, rfl, h1, rest1⟩ := trodAll_cons rest0
  obtain ⟨rfl, rfl, rfl⟩ := trodAll_nil rest1
  obtain rfl : args = #[v0, v1] := by cases args; simp_all
  obtain ⟨rfl, rfl⟩ := trodVars_none hV
  obtain ⟨a0, len0, cap0, rfl⟩ := okWide_slice Try.underlying59 (hval 0 59 v0 rfl rfl)
  have k0 := h0
  have lt0 : ∀ x ∈ p0, x.block < W.heap.size := by obtain ⟨m, hm⟩ := k0; exact DataW.trod_lt m _ _ _ hm
  obtain ⟨z0, w0⟩ := isRow_of (k := .u8) Try.underlying59 Try.underlying5 (by kernel_rfl) h0
  obtain ⟨a1, len1, cap1, rfl⟩ := okWide_slice Try.underlying59 (hval 1 59 v1 rfl rfl)
  have k1 := h1
  have lt1 : ∀ x ∈ p1, x.block < W.heap.size := by obtain ⟨m, hm⟩ := k1; exact DataW.trod_lt m _ _ _ hm
  obtain ⟨z1, w1⟩ := isRow_of (k := .u8) Try.underlying59 Try.underlying5 (by kernel_rfl) h1
  clear hA0 hval0
  refine (walk a0 len0 cap0 z0 a1 len1 cap1 z1 W w0 w1).mono fun e W' ⟨he, bel⟩ => ?_
  subst he
  exact ⟨_, rfl, _, _, _, [], _, [], hW', trodAll_mk1 (shut_bool Try.underlying4 _), (trodAll_cons_mk (Below.trod laidOut (by kernel_rfl) (of_decide_eq_true (by kernel_rfl)) k0 bel lt0) (trodAll_cons_mk (Below.trod laidOut (by kernel_rfl) (of_decide_eq_true (by kernel_rfl)) k1 bel lt1) trodAll_mk0)), rfl, bel.frame _, fun h => by cases h⟩

theorem over : Rows.fnGatheredRow.holds Try.pinned (OpenSpec.ofChange Rows.fnGatheredSpec) :=
  OpenClaim.holds_of_wide 12 Try.f12 rfl rfl rfl rfl rfl rfl rfl ⟨rfl, rfl, rfl, rfl, rfl⟩ rfl rfl rfl rfl rfl (by kernel_rfl) Try.func12 (by kernel_rfl)
    (of_decide_eq_true (by kernel_rfl)) (by unfold Func.isWrapper; first | (rw [if_pos (by decide +kernel)]; kernel_rfl) | (rw [if_neg (by decide +kernel)]; exact ⟨rfl, rfl⟩))
    (fun os started H enc _ => lifted os started H enc)

/-- the statement -/
theorem proved : Rows.FnGatheredSaid := over
end Go.Proofs.Ytgffcmmdmenefaa.fnGathered
