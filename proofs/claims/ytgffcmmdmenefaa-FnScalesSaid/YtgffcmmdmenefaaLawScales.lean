/-
  FnScales holds. No condition.
-/
import Derived.Test.YtgffcmmdmenefaaR8
import Derived.Test.YtgffcmmdmenefaaScd
import Derived.ChangeOld
import Derived.Below
namespace Go.Proofs.Ytgffcmmdmenefaa.fnScales
open Go.ChangeShapes Go.WideShapes Go.ChangeAt Go.RowKit
open Go.ChangeMaps (open_string shut_string)
set_option linter.unusedVariables false

/-- the powers of two -/
def fS (a : Nat) : Nat := 1065353216 + a * 8388608
theorem fS_all : ((List.range 25).all fun a => floatOfInt .f32 (wrap64 (2 ^ a)) == fS a) = true := by decide +kernel
theorem fS_eq {a : Nat} (h : a ≤ 24) : floatOfInt .f32 (wrap64 (2 ^ a)) = fS a := by
  have := List.all_eq_true.1 fS_all a (List.mem_range.2 (by omega))
  simpa using this
theorem fS_ok {a : Nat} (h : a ≤ 24) : 1065353216 ≤ fS a ∧ fS a ≤ 1266679808 := by unfold fS; omega
theorem okLS_in {s : Nat} {g q : Int} (h1 : 947912704 ≤ s) (h2 : s ≤ 1266679808) (h3 : 0 ≤ g) (h4 : g ≤ 1000) (h5 : 1 ≤ q) (h6 : q ≤ 1000) : okLS s g q = true := by
  simp only [okLS, okSc, Bool.and_eq_true, decide_eq_true_eq]; omega
theorem same_eq {x : Nat} (h : x ≤ 2139095040) : FloatKind.f32.format.order x x = some .eq := ord_same (num32_of h)
/-- the scale behind so many finite steps -/
def upS (f : Nat) : Nat := clampS (f + 8388608)
def nowS (f : Nat) (q : Int) (k : Nat) : Nat := if (k : Int) ≤ q then f else upS f
def nowG (q : Int) (k : Nat) : Int := if (k : Int) ≤ q then (k : Int) - 1 else 0
def NowRel (W : World) (gs gn : Nat) (f : Nat) (q : Int) (i : Value) (wr : World) : Prop :=
  ∃ k : Nat, 1 ≤ k ∧ (k : Int) ≤ q + 1 ∧ i = .int .i64 k ∧ Blk wr gs 26 #[.float .f32 f, .int .i64 0, .int .i64 q] ∧
    Blk wr gn 26 #[.float .f32 (nowS f q k), .int .i64 (nowG q k), .int .i64 q] ∧ Below W.heap.size W wr

theorem walk (a0 : Option Addr) (len0 cap0 : Nat) (z0 : List Int) (a1 : Option Addr) (len1 cap1 : Nat) (z1 : List Int) (w : World) (w0 : IsRow .u8 w a0 len0 cap0 z0) (w1 : IsRow .u8 w a1 len1 cap1 z1) :
    Calls Try.prog 11 #[.slice a0 len0 cap0, .slice a1 len1 cap1] w fun e w' => e = .returned (.bool true) ∧ Below w.heap.size w w' := by
  obtain ⟨hm0, hm1, rfl⟩ : len0 ≤ cap0 ∧ cap0 ≤ maxLen ∧ z0.length = len0 := ⟨w0.1, w0.2.1, w0.2.2.1⟩
  obtain ⟨hn0, hn1, rfl⟩ : len1 ≤ cap1 ∧ cap1 ≤ maxLen ∧ z1.length = len1 := ⟨w1.1, w1.2.1, w1.2.2.1⟩
  have HI0 := Lib.hid w0
  have HI1 := Lib.hid w1
  clear hm0 hm1 hn0 hn1 w0 w1
  by_cases hL : 48 < z0.length ∨ 48 < z1.length
  · have HL := Lib.hid hL
    clear hL
    go_enter Try.func11, Try.ntmps11
    go_wp2_with fail
    refine (c_r8Long_yes _ _ _ _ _ _ HL.out _).mono ?_
    rintro e w' ⟨rfl, rfl⟩
    go_wp2_with fail
    go_ret
    exact ⟨rfl, Below.refl _ _⟩
  · have HL0 := Lib.hid (show z0.length ≤ 48 by omega)
    have HL1 := Lib.hid (show z1.length ≤ 48 by omega)
    clear hL
    go_enter Try.func11, Try.ntmps11
    go_wp2_with fail
    refine (c_r8Long_no _ _ _ _ _ _ HL0.out HL1.out _).mono ?_
    rintro e w' ⟨rfl, rfl⟩
    go_wp2_with fail
    refine (c_r8At _ _ _ z0 0 25 _ HI0.out (by decide) (by decide) (by decide)).mono ?_
    rintro e w2 ⟨v0, p0, p1, rfl, rfl⟩
    go_wp2_with fail
    refine (c_r8At _ _ _ z0 1 6 _ HI0.out (by decide) (by decide) (by decide)).mono ?_
    rintro e w2 ⟨u, u0, u1, rfl, rfl⟩
    go_wp2_with fail
    obtain ⟨a, rfl⟩ := Int.eq_ofNat_of_zero_le p0
    have hf := fS_eq (show a ≤ 24 by omega)
    obtain ⟨f1, f2⟩ := fS_ok (show a ≤ 24 by omega)
    have hup : fS a < 1266679808 → fS a + 8388608 ≤ 1266679808 := by unfold fS; omega
    have HUP := Lib.hid hup
    rw [Int.toNat_natCast, hf]
    obtain ⟨f, hff⟩ : ∃ f, fS a = f := ⟨_, rfl⟩
    rw [hff] at f1 f2 HUP ⊢
    obtain ⟨q, hq⟩ : ∃ q, 1 + u = q := ⟨_, rfl⟩
    have q1 : 1 ≤ q := by omega
    have q2 : q ≤ 6 := by omega
    rw [hq]
    clear hf hff hup hq u0 u1 p0 p1
    have HV0 := Lib.hid (okLS_in (s := f) (g := 0) (q := q) (by omega) f2 (by decide) (by decide) q1 (by omega))
    have K1 := Lib.hid (Blk.new w 26 #[.float .f32 f, .int .i64 0, .int .i64 q])
    have B1 := Lib.hid (b_alloc (Below.refl w.heap.size w) (.cells #[.float .f32 f, .int .i64 0, .int .i64 q] 26))
    generalize w.alloc (.cells #[.float .f32 f, .int .i64 0, .int .i64 q] 26) = wa at *
    have HN1 := Lib.hid (t_iNextScale f 0 q false (by omega) wa)
    rw [vNext_yes HV0.out, nS_no, nG_no, clamp_mid (by omega) (by omega)] at HN1
    unfold RetSc scV at HN1
    dsimp only at HN1
    refine HN1.out.mono ?_
    rintro e w1 ⟨rfl, hb⟩
    have B2 := Lib.hid (Below.next B1.out hb)
    have B2size := Lib.hid B2.out.size
    have K2 := Lib.hid (K1.out.below hb)
    clear hb K1 B1 HN1
    have HH := Lib.hid (half_num (s := f) (by omega) f2)
    obtain ⟨h, hh⟩ : ∃ h, f - 8388608 = h := ⟨_, rfl⟩
    rw [hh] at HH ⊢
    have h1 : 947912704 ≤ h := by omega
    have h2 : h ≤ 1266679808 := by omega
    obtain ⟨p0, p1, p2, p3⟩ := tb K2.out
    have hw1 := HH.out.1
    have ho := same_eq (show h ≤ 2139095040 by omega)
    clear hh
    go_wp2_with fail
    clear p0 p1 p2 p3
    have al := below_drewN (b_alloc (Below.refl w1.heap.size w1) (.cells #[.float .f32 h, .int .i64 0, .int .i64 q] 26)) (fdr BinOp.quo FloatKind.f32 f 1073741824)
    have K3 := Lib.hid (K2.out.below al)
    have J3 := Lib.hid ((Blk.new w1 26 #[.float .f32 h, .int .i64 0, .int .i64 q]).below (below_drewN (Below.refl _ _) (fdr BinOp.quo FloatKind.f32 f 1073741824)))
    have B3 := Lib.hid (Below.next B2.out al)
    generalize (w1.alloc (.cells #[.float .f32 h, .int .i64 0, .int .i64 q] 26)).drewN (fdr BinOp.quo FloatKind.f32 f 1073741824) = wb at *
    clear al K2 B2
    have HV1 := Lib.hid (t_iValidScale f 0 q (by omega) wb)
    rw [HV0.out] at HV1
    unfold scV at HV1
    refine HV1.out.mono ?_
    rintro e w2 ⟨rfl, hb⟩
    have K4 := Lib.hid (K3.out.below hb)
    have J4 := Lib.hid (J3.out.below hb)
    have B4 := Lib.hid (Below.next B3.out hb)
    clear hb K3 J3 B3 HV1
    obtain ⟨g, hg⟩ : ∃ g, w1.heap.size = g := ⟨_, rfl⟩
    have G1 := Lib.hid (show w.heap.size ≤ g by rw [← hg]; exact B2size.out)
    rw [hg] at J4 ⊢
    obtain ⟨p0, p1, p2, p3⟩ := tb J4.out
    go_wp2_with fail
    clear p0 p1 p2 p3
    have HV2 := Lib.hid (t_iValidScale h 0 q (by omega) w2)
    rw [okLS_in (s := h) (g := 0) (q := q) h1 h2 (by decide) (by decide) q1 (by omega)] at HV2
    unfold scV at HV2
    refine HV2.out.mono ?_
    rintro e w3 ⟨rfl, hb⟩
    have K5 := Lib.hid (K4.out.below hb)
    have J5 := Lib.hid (J4.out.below hb)
    have B5 := Lib.hid (Below.next B4.out hb)
    clear hb K4 J4 B4 HV2
    obtain ⟨p0, p1, p2, p3⟩ := tb J5.out
    obtain ⟨r0, r1, r2, r3⟩ := tb K5.out
    go_wp2_with fail
    clear p0 p1 p2 p3 r0 r1 r2 r3
    have al := b_alloc (Below.refl w3.heap.size w3) (.cells #[.float .f32 f, .int .i64 0, .int .i64 q] 26)
    have K6 := Lib.hid (K5.out.below al)
    have N6 := Lib.hid (Blk.new w3 26 #[.float .f32 f, .int .i64 0, .int .i64 q])
    have B6 := Lib.hid (Below.next B5.out al)
    have G2 := Lib.hid (show w.heap.size < w3.heap.size by have := K5.out.lt; exact this)
    generalize w3.alloc (.cells #[.float .f32 f, .int .i64 0, .int .i64 q] 26) = wc at *
    obtain ⟨gn, hgn⟩ : ∃ x, w3.heap.size = x := ⟨_, rfl⟩
    obtain ⟨gs, hgs⟩ : ∃ x, w.heap.size = x := ⟨_, rfl⟩
    have HGS := Lib.hid hgs
    rw [hgn] at N6 G2 ⊢
    rw [hgs] at K6 G2 ⊢
    clear al K5 J5 B5 hgn hgs
    go_loopw [10] (fun i wr => NowRel w gs gn f q i wr) (fun i _ => (q + 1 - intOf i).toNat)
    case atStart =>
      refine ⟨1, Nat.le_refl _, by omega, rfl, K6.out, ?_, B6.out⟩
      have e1 : nowS f q 1 = f := if_pos (by omega)
      have e2 : nowG q 1 = 0 := if_pos (by omega)
      rw [e1, e2]
      exact N6.out
    case round =>
      obtain ⟨k, k1, k2, rfl, hK, hN, hB⟩ := hrel
      have K7 := Lib.hid hK
      have B7 := Lib.hid hB
      clear K6 N6 B6
      by_cases hk : (k : Int) ≤ q
      · have e1 : nowS f q k = f := if_pos hk
        have e2 : nowG q k = (k : Int) - 1 := if_pos hk
        rw [e1, e2] at hN
        obtain ⟨c, hc⟩ : ∃ c : Int, (k : Int) - 1 = c := ⟨_, rfl⟩
        have hkc : (k : Int) = c + 1 := by omega
        rw [hc] at hN
        have N7 := Lib.hid hN
        have HVc := Lib.hid (okLS_in (s := f) (g := c) (q := q) (by omega) f2 (by omega) (by omega) q1 (by omega))
        have HNc := Lib.hid (fun w => t_iNextScale f c q true (by omega) w)
        rw [vNext_yes HVc.out] at HNc
        unfold RetSc scV at HNc
        dsimp only at HNc
        have HNEXT := Lib.hid (show (q ≤ c + 1 ∧ nS f c q true = upS f ∧ nG c q true = 0 ∧ (k : Int) = q) ∨ (¬ q ≤ c + 1 ∧ nS f c q true = f ∧ nG c q true = (k : Int) ∧ (k : Int) < q) by
          by_cases hq : q ≤ c + 1
          · exact .inl ⟨hq, nS_up hq, nG_up hq, by omega⟩
          · exact .inr ⟨hq, nS_on hq, by rw [nG_on hq]; omega, by omega⟩)
        have HREL := Lib.hid (show nowS f q (k + 1) = nS f c q true ∧ nowG q (k + 1) = nG c q true by
          rcases HNEXT.out with ⟨h1, h2, h3, h4⟩ | ⟨h1, h2, h3, h4⟩
          · rw [h2, h3]; exact ⟨if_neg (by omega), if_neg (by omega)⟩
          · rw [h2, h3]; exact ⟨if_pos (by omega), by unfold nowG; rw [if_pos (by omega)]; omega⟩)
        have HUPS := Lib.hid (show 947912704 ≤ upS f ∧ upS f ≤ 1266679808 by
          unfold upS clampS
          split
          · omega
          · split <;> omega)
        obtain ⟨S', hS⟩ : ∃ x, nS f c q true = x := ⟨_, rfl⟩
        obtain ⟨G', hG⟩ : ∃ x, nG c q true = x := ⟨_, rfl⟩
        rw [hS, hG] at HNEXT HREL HNc
        have HVn := Lib.hid (show okLS S' G' q = true ∧ S' ≤ 1266679808 by
          rcases HNEXT.out with ⟨h1, h2, h3, h4⟩ | ⟨h1, h2, h3, h4⟩
          · rw [h2, h3]
            exact ⟨okLS_in HUPS.out.1 HUPS.out.2 (by omega) (by omega) q1 (by omega), HUPS.out.2⟩
          · rw [h2, h3]
            exact ⟨okLS_in (by omega) f2 (by omega) (by omega) q1 (by omega), f2⟩)
        have HKC := Lib.hid hkc
        have HK1 := Lib.hid k1
        clear hS hG e1 e2 hN hK hB hc hkc k1 k2
        obtain ⟨p0, p1, p2, p3⟩ := tb K7.out
        obtain ⟨r0, r1, r2, r3⟩ := tb N7.out
        go_wp2_with fail
        clear p0 p1 p2 p3 r0 r1 r2 r3
        refine (HNc.out _).mono ?_
        rintro e w4 ⟨rfl, hb⟩
        have al := b_alloc (Below.refl w4.heap.size w4) (.cells #[.float .f32 S', .int .i64 G', .int .i64 q] 26)
        have K8 := Lib.hid ((K7.out.below hb).below al)
        have N8 := Lib.hid ((N7.out.below hb).below al)
        have M8 := Lib.hid (Blk.new w4 26 #[.float .f32 S', .int .i64 G', .int .i64 q])
        have B8 := Lib.hid (Below.next (Below.next B7.out hb) al)
        clear hb al K7 N7 B7 HNc
        obtain ⟨go, hgo⟩ : ∃ x, w4.heap.size = x := ⟨_, rfl⟩
        have M8 := Lib.hid (show Blk _ go _ _ by rw [← hgo]; exact M8.out)
        have M8' := Lib.hid M8.out
        clear M8
        have HGO := Lib.hid hgo
        obtain ⟨p0, p1, p2, p3⟩ := tb M8'.out
        go_wp2_with fail
        clear p0 p1 p2 p3
        have HV3 := Lib.hid (fun w => t_iValidScale S' G' q (by have := HVn.out.2; omega) w)
        rw [HVn.out.1] at HV3
        unfold scV at HV3
        refine (HV3.out _).mono ?_
        rintro e w5 ⟨rfl, hb⟩
        have K9 := Lib.hid (K8.out.below hb)
        have N9 := Lib.hid (N8.out.below hb)
        have M9 := Lib.hid (M8'.out.below hb)
        have B9 := Lib.hid (Below.next B8.out hb)
        clear hb K8 N8 M8' B8 HV3
        obtain ⟨p0, p1, p2, p3⟩ := tb M9.out
        obtain ⟨r0, r1, r2, r3⟩ := tb K9.out
        obtain ⟨s0, s1, s2, s3⟩ := tb N9.out
        obtain ⟨t0, t1, t2⟩ := tbf N9.out
        have st := store3 N9.out (x' := .float .f32 S') (y' := .int .i64 G') (z' := .int .i64 q)
        have HST := Lib.hid st
        have K10 := Lib.hid (K9.out.off st.2 (Nat.ne_of_lt G2.out))
        have B10 := Lib.hid (Below.at_ B9.out st.2 (by have := G2.out; have := HGS.out; omega))
        clear st
        rcases HNEXT.out with ⟨n1, n2, n3, n4⟩ | ⟨n1, n2, n3, n4⟩
        · have hkq : ¬ (k : Int) < q := by omega
          clear n1 n2 n3 n4
          go_wp2_with fail
          go_roundw
          case rel =>
            refine ⟨k + 1, by omega, by omega, by go_num, K10.out, ?_, B10.out⟩
            rw [HREL.out.1, HREL.out.2]
            exact HST.out.1
          case measure => simp [intOf]; omega
        · subst n2
          subst n3
          have hff := same_eq (show S' ≤ 2139095040 by omega)
          clear n1
          go_wp2_with fail
          go_roundw
          case rel =>
            refine ⟨k + 1, by omega, by omega, by go_num, K10.out, ?_, B10.out⟩
            rw [HREL.out.1, HREL.out.2]
            exact HST.out.1
          case measure => simp [intOf]; omega
      · have e1 : nowS f q k = upS f := if_neg hk
        have e2 : nowG q k = 0 := if_neg hk
        rw [e1, e2] at hN
        have N7 := Lib.hid hN
        have HVc := Lib.hid (show okLS 947912704 0 1 = true by decide)
        have HNc := Lib.hid (fun w => t_iNextScale 947912704 0 1 false (by decide) w)
        rw [vNext_yes HVc.out, nS_no, nG_no, clamp_lo (by decide)] at HNc
        unfold RetSc scV at HNc
        dsimp only at HNc
        have hk' : q + 1 ≤ (k : Int) := by omega
        have hl := same_eq (show 947912704 ≤ 2139095040 by decide)
        have HW := Lib.hid (show ∃ x, x = upS f ∧ x ≤ 1266679808 ∧ ((f < 1266679808 ∧ f + 8388608 = x) ∨ (¬ f < 1266679808 ∧ x = 1266679808)) by
          by_cases hlt : f < 1266679808
          · exact ⟨f + 8388608, (clamp_mid (by omega) (HUP.out hlt)).symm, HUP.out hlt, .inl ⟨hlt, rfl⟩⟩
          · refine ⟨1266679808, (clamp_hi (by omega) (by omega)).symm, Nat.le_refl _, .inr ⟨hlt, rfl⟩⟩)
        obtain ⟨x, hx, hx1, hx2⟩ := HW.out
        rw [← hx] at N7
        have hxx := same_eq (show x ≤ 2139095040 by omega)
        clear e1 e2 hN hK hB hx
        obtain ⟨p0, p1, p2, p3⟩ := tb K7.out
        obtain ⟨r0, r1, r2, r3⟩ := tb N7.out
        rcases hx2 with ⟨hlt, hx2⟩ | ⟨hlt, rfl⟩
        · have ho := Lib.hid (ord_lt (x := f) (y := 1266679808) (by omega) (by decide) (num32_of (by omega)) num_most (by rw [k32_nn (by omega), k32_nn (by decide)]; omega))
          have ho' := ho.out
          have hd := (dbl_num (s := f) (by omega) f2).1
          rw [hx2] at hd
          have hu : ∀ w1 : World, ∀ d, ((w1.drewN d).heap.size = w1.heap.size) := fun _ _ => rfl
          clear hlt hx2 hu
          go_wp2_with fail
          clear p0 p1 p2 p3 r0 r1 r2 r3
          refine (HNc.out _).mono ?_
          rintro e w4 ⟨rfl, hb⟩
          have N8 := Lib.hid ((N7.out.below (below_drewN (Below.refl wr.heap.size wr) (fdr BinOp.mul FloatKind.f32 f 1073741824))).below hb)
          have B8 := Lib.hid (Below.next (Below.next B7.out (below_drewN (Below.refl wr.heap.size wr) (fdr BinOp.mul FloatKind.f32 f 1073741824))) hb)
          clear hb
          have al := b_alloc (Below.refl w4.heap.size w4) (.cells #[.float .f32 947912704, .int .i64 0, .int .i64 1] 26)
          have N9 := Lib.hid (N8.out.below al)
          have B9 := Lib.hid (Below.next B8.out al)
          clear al
          obtain ⟨p0, p1, p2, p3⟩ := tb N9.out
          go_wp2_with fail
          go_ret
          exact ⟨rfl, B9.out⟩
        · have hff : f = 1266679808 := by omega
          subst hff
          clear hlt
          go_wp2_with fail
          clear p0 p1 p2 p3 r0 r1 r2 r3
          refine (HNc.out _).mono ?_
          rintro e w4 ⟨rfl, hb⟩
          have N8 := Lib.hid ((N7.out.below (Below.refl wr.heap.size wr)).below hb)
          have B8 := Lib.hid (Below.next (Below.next B7.out (Below.refl wr.heap.size wr)) hb)
          clear hb
          have al := b_alloc (Below.refl w4.heap.size w4) (.cells #[.float .f32 947912704, .int .i64 0, .int .i64 1] 26)
          have N9 := Lib.hid (N8.out.below al)
          have B9 := Lib.hid (Below.next B8.out al)
          clear al
          obtain ⟨p0, p1, p2, p3⟩ := tb N9.out
          go_wp2_with fail
          go_ret
          exact ⟨rfl, B9.out⟩

/-! the row's step -/
set_option maxRecDepth 100000 in
theorem lifted (os : Os) (started : os.Started) (H : Type) (enc : TypeId × Value → H) :
    ReturnsInHanded {} Try.checked os 11 .any (Rows.fnScalesSpec.pre6 enc Try.prog Try.f11 Rows.fnScalesRow.domain false) (Rows.fnScalesSpec.post enc Try.prog Try.f11 false true false false) := by
  refine returnsInHanded_of_change (C := Try.checked) own started (by kernel_rfl) Try.func11
    (ChangeSpec.witness6 (enc := enc) (C := Try.checked) false ⟨#[], #[.slice none 0 0, .slice none 0 0], []⟩ 8 (by kernel_rfl) (by kernel_rfl) (by kernel_rfl) (by kernel_rfl)) ?_
  intro W base args ds gs before hval0 hW hcnd _
  have hval : ∀ (j : Nat) t v, Try.f11.params[j]? = some t → args[j]? = some v → Value.okWide Try.prog W .any base t v := hval0
  have hW' := hW
  obtain ⟨p, q, hA0, hV, rfl, hfz, hnd⟩ := hW
  have hA : DataW.TrodAll enc Try.prog W 0 (fun _ => true) true Try.f11.params.toList args.toList ds p := hA0
  rw [Try.params11] at hA hval
  obtain ⟨v0, vs0, d0, ds0, p0, q0, hargs, rfl, rfl, h0, rest0⟩ := trodAll_cons hA
  obtain ⟨v1, vs1, d1, ds1, p1, q1, rfl, rfl, rfl, h1, rest1⟩ := trodAll_cons rest0
  obtain ⟨rfl, rfl, rfl⟩ := trodAll_nil rest1
  obtain rfl : args = #[v0, v1] := by cases args; simp_all
  obtain ⟨rfl, rfl⟩ := trodVars_none hV
  obtain ⟨a0, len0, cap0, rfl⟩ := okWide_slice Try.underlying59 (hval 0 59 v0 rfl rfl)
  have k0 := h0
  have lt0 : ∀ x ∈ p0, x.block < W.heap.size := by obtain ⟨m, hm⟩ := k0; exact DataW.trod_lt m _ _ _ hm
  obtain ⟨z0, w0⟩ := isRow_of (k := .u8) Try.underlying59 Try.underlying5 (by kernel_rfl) h0
  obtain ⟨a1, len1, cap1, rfl⟩ := okWide_slice Try.underlying59 (hval 1 59 v1 rfl rfl)
  have k1 := h1
  have lt1 : ∀ x ∈ p1, x.block < W.heap.size := by obtain ⟨m, hm⟩ := k1; exact DataW.trod_lt m _ _ _ hm
  obtain ⟨z1, w1⟩ := isRow_of (k := .u8) Try.underlying59 Try.underlying5 (by kernel_rfl) h1
  clear hA0 hval0
  refine (walk a0 len0 cap0 z0 a1 len1 cap1 z1 W w0 w1).mono fun e W' ⟨he, bel⟩ => ?_
  subst he
  exact ⟨_, rfl, _, _, _, [], _, [], hW', trodAll_mk1 (shut_bool Try.underlying4 _), (trodAll_cons_mk (Below.trod laidOut (by kernel_rfl) (of_decide_eq_true (by kernel_rfl)) k0 bel lt0) (trodAll_cons_mk (Below.trod laidOut (by kernel_rfl) (of_decide_eq_true (by kernel_rfl)) k1 bel lt1) trodAll_mk0)), rfl, bel.frame _, fun h => by cases h⟩

theorem over : Rows.fnScalesRow.holds Try.pinned (OpenSpec.ofChange Rows.fnScalesSpec) :=
  OpenClaim.holds_of_wide 11 Try.f11 rfl rfl rfl rfl rfl rfl rfl ⟨rfl, rfl, rfl, rfl, rfl⟩ rfl rfl rfl rfl rfl (by kernel_rfl) Try.func11 (by kernel_rfl)
    (of_decide_eq_true (by kernel_rfl)) (by unfold Func.isWrapper; first | (rw [if_pos (by decide +kernel)]; kernel_rfl) | (rw [if_neg (by decide +kernel)]; exact ⟨rfl, rfl⟩))
    (fun os started H enc _ => lifted os started H enc)

/-- the statement -/
theorem proved : Rows.FnScalesSaid := over
end Go.Proofs.Ytgffcmmdmenefaa.fnScales
