/-
  FnSums holds. No condition.
-/
import Derived.Test.YthcacaafaifnfaaDotW
import Derived.Test.YthcacaafaifnfaaRns
import Derived.ChangeOld
import Derived.Below
namespace Go.Proofs.Ythcacaafaifnfaa.fnSums
open Go.ChangeShapes Go.WideShapes Go.ChangeAt Go.RowKit
open Go.ChangeMaps (open_string shut_string)
set_option linter.unusedVariables false

theorem sum_step {zs : List Nat} {k r : Nat} (h : k < zs.length) (hr : canon .f32 r = csum (zs.take k)) (w : World) : canon .f32 (fval .add .f32 r (zs.getD k 0) w) = csum (zs.take (k + 1)) := by
  rw [canon_fval, hr, take_snoc zs k h]
  unfold csum
  rw [List.foldl_append]
  rfl
theorem run_f2i32 {v : Nat} {n : Int} (h : floatToIntVal .f32 v .i64 = some n) (w : World) : (convert 27 2 (.float .f32 v)).run Try.prog w = .ok (.int .i64 n) w :=
  run_convert_float_int w _ _ .f32 .i64 v n (by rw [Try.underlying27]; rfl) Try.underlying2 h
/-- ones, and the sum so far -/
def OneRel (zs : List Nat) (n B : Nat) (W : World) (s x i : Value) (wr : World) : Prop :=
  ∃ (k : Nat) (b : Option Addr) (c r : Nat), k ≤ n ∧ i = .int .i64 k ∧ s = .slice b k c ∧ x = .float .f32 r ∧ OwnF wr B b c (List.replicate k 1065353216) ∧ canon .f32 r = csum (zs.take k) ∧ r < 4294967296 ∧ Below B W wr
theorem one_next {zs : List Nat} {n B k r : Nat} {W wr w' : World} {b a' : Option Addr} {cp cp' m : Nat} (hk : k < n) (hz : n = zs.length) (ho : OwnF wr B b cp (List.replicate k 1065353216)) (hB : B ≤ wr.heap.size) (hl : Below B W wr)
    (hr : canon .f32 r = csum (zs.take k)) (w2 : World)
    (hown : w'.ownsRow B 27 1 (.slice a' (k + 1) cp') (k + 1) ((List.replicate k 1065353216).map (Value.float .f32) ++ [.float .f32 1065353216])) (hg : (wr.alloc (.cells #[.float .f32 1065353216] 27)).grownBy w' (Value.ownBlock (.slice b k cp))) :
    Below B wr w' ∧ ∀ d, OneRel zs n B W (.slice a' (k + 1) cp') (.float .f32 (fval .add .f32 r (zs.getD k 0) w2)) (.int .i64 ((k : Int) + 1)) (w'.drewN d) := by
  rw [ownBlock_slice] at hg
  have bw : Below wr.heap.size wr (wr.alloc (.cells #[.float .f32 1065353216] 27)) := (Below.refl _ _).alloc (Nat.le_refl _) _
  have ho1 := ho.kept bw
  have h1 : Below B wr w' := (bw.mono hB).grown hg (Nat.le_trans hB bw.size) (fun g h => (ho1.lt g h).1)
  have ow : OwnF w' B a' cp' (List.replicate (k + 1) 1065353216) := by
    refine ⟨?_, fun y hy => ?_⟩
    · rw [List.length_replicate, List.replicate_succ', List.map_append]
      exact hown
    · have := List.eq_of_mem_replicate hy
      subst this; decide
  refine ⟨h1, fun d => ⟨k + 1, a', cp', _, hk, by go_num, rfl, rfl, ow.drewN d, sum_step (by omega) hr w2, fval_lt .add .f32 _ _ _, below_drewN (hl.trans h1) d⟩⟩
theorem halves (n : Nat) : ((n : Int) + 1) / 2 = ((n + 1) / 2 : Nat) := by omega
theorem own_shape {w : World} {B : Nat} {a : Option Addr} {cap : Nat} {ys : List Nat} (h : OwnF w B a cap ys) : (a = none ∧ cap = 0) ∨ ∃ g, a = some ⟨g, 0, none⟩ := by
  rcases h.1.2 with ⟨hv, h0⟩ | ⟨g, c, cur, hv, _⟩
  · simp only [Value.slice.injEq] at hv
    exact .inl ⟨hv.1, hv.2.2⟩
  · simp only [Value.slice.injEq] at hv
    exact .inr ⟨g, hv.1⟩
theorem isFloats_nil {w : World} {a : Option Addr} {c : Nat} (h : c ≤ maxLen) : IsFloats .f32 w a 0 c [] := ⟨Nat.zero_le _, h, rfl, (fun _ h => by cases h), .inl rfl⟩
def ExRel (cs : List Int) (W : World) (e q i : Value) (wr : World) : Prop :=
  ∃ j : Nat, j ≤ cs.length ∧ i = .int .i64 j ∧ e = .int .i64 (isum (cs.take j)) ∧ q = .int .i64 (isq (cs.take j)) ∧ Below W.heap.size W wr
def PartRel (v : Nat) (W : World) (x y : Value) (wx : World) : Prop := ∃ r m, x = .float .f32 r ∧ y = .bool true ∧ canon .f32 r = v ∧ r < 4294967296 ∧ wx = W.drewN m

set_option maxRecDepth 20000 in
set_option maxHeartbeats 4000000 in
theorem walk (a0 : Option Addr) (len0 cap0 : Nat) (z0 : List Int) (a1 : Option Addr) (len1 cap1 : Nat) (z1 : List Int) (w : World) (w0 : IsRow .u8 w a0 len0 cap0 z0) (w1 : IsRow .u8 w a1 len1 cap1 z1) :
    Calls Try.prog 3 #[.slice a0 len0 cap0, .slice a1 len1 cap1] w fun e w' => e = .returned (.bool true) ∧ Below w.heap.size w w' := by
  obtain ⟨hm0, hm1, rfl⟩ : len0 ≤ cap0 ∧ cap0 ≤ maxLen ∧ z0.length = len0 := ⟨w0.1, w0.2.1, w0.2.2.1⟩
  obtain ⟨hn0, hn1, rfl⟩ : len1 ≤ cap1 ∧ cap1 ≤ maxLen ∧ z1.length = len1 := ⟨w1.1, w1.2.1, w1.2.2.1⟩
  have HI0 := Lib.hid w0
  have HI1 := Lib.hid w1
  clear hm0 hm1 hn0 hn1 w0 w1
  by_cases hL : 1048576 < z0.length ∨ 1048576 < z1.length
  · have HL := Lib.hid hL
    clear hL
    go_enter Try.func3, Try.ntmps3
    go_wp2_with fail
    refine (c_b10Long_yes _ _ _ _ _ _ HL.out _).mono ?_
    rintro e w' ⟨rfl, rfl⟩
    go_wp2_with fail
    go_ret
    exact ⟨rfl, Below.refl _ _⟩
  · have HL0 := Lib.hid (show z0.length ≤ 1048576 by omega)
    have HL1 := Lib.hid (show z1.length ≤ 1048576 by omega)
    obtain ⟨i0, hi, hz0, hz1, hz2⟩ := info_parts info_f32
    have JI := Lib.hid hi
    have HZ0 := Lib.hid hz0
    have HZ1 := Lib.hid hz1
    have HZ2 := Lib.hid hz2
    clear hL hi hz0 hz1 hz2
    go_enter Try.func3, Try.ntmps3
    go_wp2_with fail
    refine (c_b10Long_no _ _ _ _ _ _ HL0.out HL1.out _).mono ?_
    rintro e w' ⟨rfl, rfl⟩
    go_wp2_with fail
    refine (c_b10At _ _ _ z0 0 20 _ HI0.out (by decide) (by decide) (by decide)).mono ?_
    rintro e w3 ⟨v0, p0, p1, rfl, rfl⟩
    obtain ⟨n, rfl⟩ := Int.eq_ofNat_of_zero_le p0
    have hn19 : n ≤ 19 := by omega
    clear p0 p1
    go_wp2_with fail
    refine (c_B10Numbers n (by omega) _ _ _ z0 _ HI0.out HL0.out).mono ?_
    rintro e w2 ⟨la, lc, zs, hz, rfl, ho, hb⟩
    have HZ := Lib.hid hz
    have hli := ho.isFloats
    rw [hz] at hli
    have HLI := Lib.hid hli
    have HB := Lib.hid hb
    have HSH := Lib.hid (own_shape ho)
    simp only [hz]
    clear hz ho hb hli
    go_wp2_with fail
    obtain ⟨B, hB⟩ : ∃ B, w2.heap.size = B := ⟨_, rfl⟩
    have HBB := Lib.hid hB
    have HST := Lib.hid (show OneRel zs n B w2 (.slice (some ⟨B, 0, none⟩) 0 0) (.float .f32 0) (.int .i64 0) (w2.alloc (.cells #[] 27)) from by
      subst hB
      exact ⟨0, _, 0, 0, Nat.zero_le _, rfl, rfl, rfl, ⟨World.ownsRow_made w2 #[] 0 (Nat.le_refl _) (by unfold maxLen; omega) rfl, fun _ h => by cases h⟩, canon_zero, by decide, (Below.refl _ _).alloc (Nat.le_refl _) _⟩)
    rw [hB]
    clear hB
    go_loopw [7, 8, 9] (fun s x i wr => OneRel zs n B w2 s x i wr) (fun _ _ i _ => n - (intOf i).toNat)
    case atStart => exact HST.out
    case round =>
      obtain ⟨k, b, cp, r, hk, rfl, rfl, rfl, ho, hr, hrl, hbl⟩ := hrel
      have HO := Lib.hid ho
      have HR := Lib.hid hr
      have HRL := Lib.hid hrl
      have HBL := Lib.hid hbl
      have hk0 : (0 : Int) ≤ (k : Int) := by omega
      clear ho hr hrl hbl HST
      by_cases hlt : k < n
      · have hlt' : (k : Int) < (n : Int) := by omega
        rcases HLI.out.2.2.2.2 with h' | ⟨g0, o0, rfl, hg0, hc0⟩
        · omega
        have HC0 := Lib.hid (fun wr (hl : Below B w2 wr) => (hl.cell (p := ⟨g0, o0 + k, none⟩) (by rw [← HBB.out]; exact hg0)).trans (hc0 k hlt))
        have A1 := Lib.hid (show k + 1 ≤ maxLen by unfold maxLen; omega)
        have A2 := Lib.hid (show (k + 1) * 4 ≤ 140737488355328 by omega)
        have A3 := Lib.hid (show B ≤ wr.heap.size by rw [← HBB.out]; exact HBL.out.size)
        have hown0 := grow0_own (v := 1065353216) HO.out
        rw [List.length_replicate] at hown0
        have HOWN := Lib.hid hown0
        have HNX := Lib.hid (fun (w' : World) (a' : Option Addr) (cp' : Nat) w2' hown hg => one_next (m := 0) (w' := w') (a' := a') (cp' := cp') hlt HZ.out.symm HO.out A3.out HBL.out HR.out w2' hown hg)
        obtain ⟨x, hx⟩ : ∃ x, zs.getD k 0 = x := ⟨_, rfl⟩
        rw [hx] at HC0 HNX
        clear hc0 hown0 hx
        go_wp2_with (at_builtin; refine wpList_append_any _ rfl (.tmp 49) (.tmp 50) 25 rfl B 27 i0 (.float .f32 0) 1 4 Try.underlying25 JI.out HZ0.out HZ1.out HZ2.out rfl Nat.one_pos (.slice b k cp) k ((List.replicate k 1065353216).map (Value.float .f32)) rfl HOWN.out (wr.heap.size + 1) (some ⟨wr.heap.size, 0, none⟩) 1 1 [.float .f32 1065353216] rfl grow0_reads (one_f32 _) A1.out A2.out (grow0_base A3.out) ?_; intro v' w' hown hgr hat; obtain ⟨a', c', rfl⟩ := ownsRow_slice hown; have HMD := Lib.hid (fun w2' => HNX.out _ _ _ w2' hown hgr); have q0 := HC0.out _ (HBL.out.trans (HMD.out w').1); clear hown hgr hat)
        go_roundw
        case rel => exact (HMD.out _).2 _
        case measure => simp [intOf]; omega
      · obtain rfl : k = n := by omega
        have HWW := Lib.hid (show Below w2.heap.size w2 wr by rw [HBB.out]; exact HBL.out)
        have HLR := Lib.hid (HLI.out.kept HWW.out)
        have hro := HO.out.isFloats
        rw [List.length_replicate] at hro
        have HRO := Lib.hid hro
        have HTK := Lib.hid (show canon .f32 r = csum zs by rw [HR.out, List.take_of_length_le (by rw [HZ.out]; omega)])
        clear hro HO HR HBL
        go_wp2_with fail
        refine (c_iSumNumbers _ _ _ zs _ HLR.out (by omega)).mono ?_
        rintro e w5 ⟨s1, m1, hs1, hs1l, rfl, rfl⟩
        have HS1 := Lib.hid hs1
        have HS1L := Lib.hid hs1l
        clear hs1 hs1l
        go_wp2_with fail
        refine (c_iDotNumbers _ _ _ _ _ _ zs (List.replicate k 1065353216) _ (HLR.out.drewN m1) (HRO.out.drewN m1) (by omega) rfl).mono ?_
        rintro e w5 ⟨s2, m2, hs2, hs2l, rfl, rfl⟩
        have HS2 := Lib.hid (show canon .f32 s2 = csum zs from hs2.trans (by rw [show (List.replicate k 1065353216 : List Nat) = List.replicate zs.length 1065353216 by rw [HZ.out]]; exact cdot_ones' HLR.out.2.2.2.1))
        have HS2L := Lib.hid hs2l
        clear hs2 hs2l
        have HB5 := Lib.hid (below_drewN (below_drewN (Below.next HB.out HWW.out) m1) m2)
        have HL5 := Lib.hid ((HLR.out.drewN m1).drewN m2)
        generalize (wr.drewN m1).drewN m2 = w5 at *
        clear HLR HRO HWW HB HLI HBB
        obtain ⟨half, hhalf⟩ : ∃ half, half = (k + 1) / 2 := ⟨_, rfl⟩
        have eh : ((k : Int) + 1) / 2 = (half : Int) := by rw [hhalf]; omega
        have HH := Lib.hid hhalf
        have h1 : half ≤ k := by omega
        clear hhalf
        go_wp2_with fail
        refine (c_iSumPairs _ _ _ zs _ HL5.out (by omega)).mono ?_
        rintro e w6 ⟨s3, m3, hs3, hs3l, rfl, rfl⟩
        have HS3 := Lib.hid hs3
        have HS3L := Lib.hid hs3l
        have HB6 := Lib.hid (below_drewN HB5.out m3)
        have HL6 := Lib.hid (HL5.out.drewN m3)
        generalize w5.drewN m3 = w6 at *
        clear hs3 hs3l HB5 HL5
        have hcap : k ≤ lc := HL6.out.1
        have hcm : lc ≤ 9223372036854775807 := by have := HL6.out.2.1; unfold maxLen at this; omega
        go_upto_region 16 with fail
        go_cut [17, 18] (fun x y wx => PartRel (cpair 256 (zs.take half)) w6 x y wx)
        case first =>
          rcases HSH.out with ⟨rfl, rfl⟩ | ⟨g, rfl⟩
          · obtain rfl : k = 0 := by omega
            obtain rfl : half = 0 := by omega
            go_wp2_with fail
            refine (c_iSumPairs _ _ _ [] _ (isFloats_nil (Nat.zero_le _)) (by omega)).mono ?_
            rintro e w7 ⟨r, m, hr, hrl, rfl, rfl⟩
            go_wp2_with fail
            go_meet
            exact ⟨r, m, rfl, rfl, hr, hrl, rfl⟩
          · have H1 := Lib.hid (isFloats_take HL6.out half h1)
            go_wp2_with fail
            refine (c_iSumPairs _ _ _ _ _ H1.out (by omega)).mono ?_
            rintro e w7 ⟨r, m, hr, hrl, rfl, rfl⟩
            go_wp2_with fail
            go_meet
            exact ⟨r, m, rfl, rfl, hr, hrl, rfl⟩
        case rest =>
          obtain ⟨r4, m4, rfl, rfl, hr4, hr4l, rfl⟩ := hcut
          have HR4 := Lib.hid hr4
          have HR4L := Lib.hid hr4l
          have HB7 := Lib.hid (below_drewN HB6.out m4)
          have HL7 := Lib.hid (HL6.out.drewN m4)
          generalize w6.drewN m4 = w7 at *
          clear hr4 hr4l HB6 HL6
          go_upto_region 17 with fail
          go_cut [19, 20] (fun x y wx => PartRel (cpair 256 (zs.drop half)) w7 x y wx)
          case first =>
            rcases HSH.out with ⟨rfl, rfl⟩ | ⟨g, rfl⟩
            · obtain rfl : k = 0 := by omega
              obtain rfl : half = 0 := by omega
              have e0 : zs = [] := List.eq_nil_of_length_eq_zero HZ.out
              subst e0
              go_wp2_with fail
              refine (c_iSumPairs _ _ _ [] _ (isFloats_nil (Nat.zero_le _)) (by omega)).mono ?_
              rintro e w8 ⟨r, m, hr, hrl, rfl, rfl⟩
              go_wp2_with fail
              go_meet
              exact ⟨r, m, rfl, rfl, hr, hrl, rfl⟩
            · by_cases hlh : lc = half
              · have hkh : k = half := by omega
                have e0 : zs.drop half = [] := by rw [List.drop_eq_nil_iff, HZ.out]; omega
                subst hlh
                subst hkh
                go_wp2_with fail
                refine (c_iSumPairs _ _ _ [] _ (isFloats_nil (Nat.zero_le _)) (by omega)).mono ?_
                rintro e w8 ⟨r, m, hr, hrl, rfl, rfl⟩
                go_wp2_with fail
                go_meet
                exact ⟨r, m, rfl, rfl, by rw [e0]; exact hr, hrl, rfl⟩
              · have h1' := isFloats_drop HL7.out half h1
                rw [Nat.zero_add] at h1'
                have H1 := Lib.hid h1'
                clear h1'
                go_wp2_with fail
                refine (c_iSumPairs _ _ _ _ _ H1.out (by omega)).mono ?_
                rintro e w8 ⟨r, m, hr, hrl, rfl, rfl⟩
                go_wp2_with fail
                go_meet
                exact ⟨r, m, rfl, rfl, hr, hrl, rfl⟩
          case rest =>
            obtain ⟨r5, m5, rfl, rfl, hr5, hr5l, rfl⟩ := hcut
            have HR5 := Lib.hid hr5
            have HR5L := Lib.hid hr5l
            have HB8 := Lib.hid (below_drewN HB7.out m5)
            generalize w7.drewN m5 = w8 at *
            clear hr5 hr5l HB7 HL7
            go_upto_region 18 with fail
            go_cut [132] (fun v wx => v = .bool false ∧ ∃ m, wx = w8.drewN m)
            case first =>
              go_wp2_with fail
              refine (c_sSameNumber s1 r HS1L.out HRL.out _).mono ?_
              rintro e w9 ⟨rfl, rfl⟩
              rw [show ((canon .f32 s1 : Int) == (canon .f32 r : Int)) = true by rw [HS1.out, HTK.out]; simp]
              go_wp2_with fail
              refine (c_sSameNumber s2 r HS2L.out HRL.out _).mono ?_
              rintro e w9 ⟨rfl, rfl⟩
              rw [show ((canon .f32 s2 : Int) == (canon .f32 r : Int)) = true by rw [HS2.out, HTK.out]; simp]
              by_cases h2 : 1 < k
              · have h2' : (1 : Int) < (k : Int) := by omega
                have HSP := Lib.hid (show canon .f32 s3 = cop .add .f32 (canon .f32 r4) (canon .f32 r5) by
                  rw [HS3.out, HR4.out, HR5.out, cpair_split (by rw [HZ.out]; omega) (by rw [HZ.out]; omega), HZ.out, ← HH.out])
                go_wp2_with fail
                refine (c_sSameNumber s3 _ HS3L.out (fval_lt .add .f32 _ _ _) _).mono ?_
                rintro e w9 ⟨rfl, rfl⟩
                rw [canon_fval, HSP.out]
                simp only [BEq.rfl]
                go_wp2_with fail
                go_meet
                exact ⟨rfl, _, rfl⟩
              · have h2' : (k : Int) ≤ 1 := by omega
                go_wp2_with fail
                go_meet
                exact ⟨rfl, 0, by rw [World.drewN_zero]⟩
            case rest =>
              obtain ⟨rfl, m6, rfl⟩ := hcut
              have HB9 := Lib.hid (below_drewN HB8.out m6)
              generalize w8.drewN m6 = w9 at *
              clear HB8 HS1 HS1L HS2 HS2L HS3 HS3L HR4 HR4L HR5 HR5L HTK HRL HSH HZ HH eh h1 hcap hcm
              go_wp2_with fail
              refine (c_B10Whole k (by omega) _ _ _ z1 _ (HI1.out.kept HB9.out) HL1.out).mono ?_
              rintro e wa ⟨wb, wc, ws, hwl, rfl, hwo, hwb, cs, hcs, hws⟩
              have hcl : cs.length = k := by rw [← hwl, hws, List.length_map]
              have hwf := hwo.isFloats
              rw [hwl, hws] at hwf
              have HWF := Lib.hid (show IsFloats .f32 wa wb k wc (cs.map fi32) from hwf)
              have HSM := Lib.hid (show small cs from hcs)
              have HCL := Lib.hid hcl
              have HBA := Lib.hid (Below.next HB9.out hwb)
              have hsb := isum_small hcs
              have hqb := isq_small hcs cs.length (Nat.le_refl _)
              rw [List.take_length] at hqb
              rw [hcl] at hsb hqb
              have HSB := Lib.hid hsb
              have HQB := Lib.hid hqb
              simp only [hwl]
              clear hwl hwo hwb hws hwf hcs hcl hsb hqb HB9
              go_wp2_with fail
              refine (c_iSumNumbers _ _ _ (cs.map fi32) _ HWF.out (by omega)).mono ?_
              rintro e wd ⟨t1, n1, ht1, _, rfl, rfl⟩
              have T1 := Lib.hid (canon_back (z := floatOfInt .f32 (isum cs)) (ht1.trans (csum_whole HSM.out (by rw [HCL.out]; omega))) (fi32_num _))
              have HWG := Lib.hid (HWF.out.drewN n1)
              have HBG := Lib.hid (below_drewN HBA.out n1)
              generalize wa.drewN n1 = wz1 at *
              clear ht1 HWF HBA
              have HWF := Lib.hid HWG.out
              have HBA := Lib.hid HBG.out
              clear HWG HBG
              go_wp2_with fail
              refine (c_iSumPairs _ _ _ (cs.map fi32) _ HWF.out (by omega)).mono ?_
              rintro e wd ⟨t2, n2, ht2, _, rfl, rfl⟩
              have T2 := Lib.hid (canon_back (z := floatOfInt .f32 (isum cs)) (ht2.trans (cpair_whole 256 cs HSM.out (by rw [HCL.out]; omega) (by rw [HCL.out]; omega))) (fi32_num _))
              have HWG := Lib.hid (HWF.out.drewN n2)
              have HBG := Lib.hid (below_drewN HBA.out n2)
              generalize wz1.drewN n2 = wz2 at *
              clear ht2 HWF HBA
              have HWF := Lib.hid HWG.out
              have HBA := Lib.hid HBG.out
              clear HWG HBG
              go_wp2_with fail
              refine (c_iSumCarried _ _ _ (cs.map fi32) _ HWF.out (by omega)).mono ?_
              rintro e wd ⟨t3, n3, ht3, _, rfl, rfl⟩
              have T3 := Lib.hid (canon_back (z := floatOfInt .f32 (isum cs)) (ht3.trans (ccar_whole HSM.out (by rw [HCL.out]; omega))) (fi32_num _))
              have HWG := Lib.hid (HWF.out.drewN n3)
              have HBG := Lib.hid (below_drewN HBA.out n3)
              generalize wz2.drewN n3 = wz3 at *
              clear ht3 HWF HBA
              have HWF := Lib.hid HWG.out
              have HBA := Lib.hid HBG.out
              clear HWG HBG
              go_wp2_with fail
              refine (c_iDotNumbers _ _ _ _ _ _ (cs.map fi32) (cs.map fi32) _ HWF.out HWF.out (by omega) rfl).mono ?_
              rintro e wd ⟨t4, n4, ht4, _, rfl, rfl⟩
              have T4 := Lib.hid (canon_back (z := floatOfInt .f32 (isq cs)) (ht4.trans (cdot_whole HSM.out (by rw [HCL.out]; omega))) (fi32_num _))
              have HWG := Lib.hid (HWF.out.drewN n4)
              have HBG := Lib.hid (below_drewN HBA.out n4)
              generalize wz3.drewN n4 = wz4 at *
              clear ht4 HWF HBA
              have HWF := Lib.hid HWG.out
              have HBA := Lib.hid HBG.out
              clear HWG HBG
              go_wp2_with fail
              refine (c_iDotWide _ _ _ _ _ cs HSM.out (by omega) _ HWF.out HWF.out (by have := HQB.out; omega)).mono ?_
              rintro e wd ⟨t5, n5, ht5, _, rfl, rfl⟩
              have T5 := Lib.hid (canon_back (z := floatOfInt .f32 (isq cs)) (ht5) (fi32_num _))
              have HWG := Lib.hid (HWF.out.drewN n5)
              have HBG := Lib.hid (below_drewN HBA.out n5)
              generalize wz4.drewN n5 = we at *
              clear ht5 HWF HBA
              have HWF := Lib.hid HWG.out
              have HBA := Lib.hid HBG.out
              clear HWG HBG
              rw [T1.out, T2.out, T3.out, T4.out, T5.out]
              have HWE := Lib.hid HWF.out
              have HBE := Lib.hid HBA.out
              clear T1 T2 T3 T4 T5 HWF HBA
              go_wp2_with fail
              go_loopw [32, 33, 34] (fun e q i wr => ExRel cs we e q i wr) (fun _ _ i _ => k - (intOf i).toNat)
              case atStart => exact ⟨0, Nat.zero_le _, rfl, rfl, rfl, Below.refl _ _⟩
              case round =>
                obtain ⟨j, hj, rfl, rfl, rfl, hbj⟩ := hrel
                have HBJ := Lib.hid hbj
                clear hbj
                have hj0 : (0 : Int) ≤ (j : Int) := by omega
                rw [HCL.out] at hj
                by_cases hlt : j < k
                · have hlt' : (j : Int) < (k : Int) := by omega
                  have hjc : j < cs.length := by rw [HCL.out]; exact hlt
                  have hc := HSM.out (cs.getD j 0) (by simp [List.getD, hjc])
                  have hs1 := isum_small (small_take HSM.out j)
                  have hq1 := isq_small HSM.out j (by omega)
                  have hpp := sq_small hc
                  rw [List.length_take] at hs1
                  have hf := (fi_at hc).2.2.2
                  have HSN := Lib.hid (show isum (cs.take (j + 1)) = isum (cs.take j) + cs.getD j 0 by rw [take_one hjc, isum_snoc])
                  have HQN := Lib.hid (show isq (cs.take (j + 1)) = isq (cs.take j) + cs.getD j 0 * cs.getD j 0 by rw [take_one hjc, isq_snoc])
                  rcases HWE.out.2.2.2.2 with h' | ⟨g0, o0, rfl, hg0, hc0⟩
                  · omega
                  have q0 : wr.cell? ⟨g0, o0 + j, none⟩ = some (.float .f32 (fi32 (cs.getD j 0))) := by
                    have := (HBJ.out.cell (p := ⟨g0, o0 + j, none⟩) hg0).trans (hc0 j hlt)
                    rw [show (cs.map fi32).getD j 0 = fi32 (cs.getD j 0) by simp [List.getD, hjc]] at this
                    exact this
                  obtain ⟨c, hcc⟩ : ∃ c, cs.getD j 0 = c := ⟨_, rfl⟩
                  obtain ⟨E, hE⟩ : ∃ c, isum (cs.take j) = c := ⟨_, rfl⟩
                  obtain ⟨Q, hQ⟩ : ∃ c, isq (cs.take j) = c := ⟨_, rfl⟩
                  rw [hcc] at hc hpp hf HSN HQN q0
                  rw [hE] at hs1 HSN
                  rw [hQ] at hq1 HQN
                  rw [hE, hQ]
                  obtain ⟨x, hx⟩ : ∃ x, fi32 c = x := ⟨_, rfl⟩
                  rw [hx] at hf q0
                  have hcv := fun w => run_f2i32 hf w
                  obtain ⟨p, hp⟩ : ∃ p, c * c = p := ⟨_, rfl⟩
                  rw [hp] at hpp HQN
                  have k1 : IntKind.i64.wrap (c * c) = p := by rw [hp]; exact IntWalk.i64_in _ (by omega)
                  have k2 : IntKind.i64.wrap (Q + p) = Q + p := IntWalk.i64_in _ (by omega)
                  have k3 : IntKind.i64.wrap (E + c) = E + c := IntWalk.i64_in _ (by omega)
                  clear hc0 hf hx hcc hE hQ hp hs1 hq1 hpp hc hjc
                  go_wp2_with fail
                  go_quiet (fail)
                  all_goals
                    go_wp2_with fail
                    go_roundw
                    case rel => exact ⟨j + 1, by rw [HCL.out]; exact hlt, by go_num, by rw [HSN.out], by rw [HQN.out], below_drewN HBJ.out _⟩
                    case measure => simp [intOf]; omega
                · obtain rfl : j = k := by omega
                  rw [← HCL.out, List.take_length]
                  have f1 : FloatKind.f32.format.order (floatOfInt .f32 (isum cs)) (floatOfInt .f32 (isum cs)) = some .eq := order_refl (fi32_num _)
                  have f2 : FloatKind.f32.format.order (floatOfInt .f32 (isq cs)) (floatOfInt .f32 (isq cs)) = some .eq := order_refl (fi32_num _)
                  go_wp2_with fail
                  go_ret
                  exact ⟨rfl, Below.next HBE.out HBJ.out⟩

/-! the row's step -/
set_option maxRecDepth 100000 in
theorem lifted (os : Os) (started : os.Started) (H : Type) (enc : TypeId × Value → H) :
    ReturnsInHanded {} Try.checked os 3 .any (Rows.fnSumsSpec.pre6 enc Try.prog Try.f3 Rows.fnSumsRow.domain false) (Rows.fnSumsSpec.post enc Try.prog Try.f3 false true false false) := by
  refine returnsInHanded_of_change (C := Try.checked) own started (by kernel_rfl) Try.func3
    (ChangeSpec.witness6 (enc := enc) (C := Try.checked) false ⟨#[], #[.slice none 0 0, .slice none 0 0], []⟩ 8 (by kernel_rfl) (by kernel_rfl) (by kernel_rfl) (by kernel_rfl)) ?_
  intro W base args ds gs before hval0 hW hcnd _
  have hval : ∀ (j : Nat) t v, Try.f3.params[j]? = some t → args[j]? = some v → Value.okWide Try.prog W .any base t v := hval0
  have hW' := hW
  obtain ⟨p, q, hA0, hV, rfl, hfz, hnd⟩ := hW
  have hA : DataW.TrodAll enc Try.prog W 0 (fun _ => true) true Try.f3.params.toList args.toList ds p := hA0
  rw [Try.params3] at hA hval
  obtain ⟨v0, vs0, d0, ds0, p0, q0, hargs, rfl, rfl, h0, rest0⟩ := trodAll_cons hA
  obtain ⟨v1, vs1, d1, ds1, p1, q1, rfl, rfl, rfl, h1, rest1⟩ := trodAll_cons rest0
  obtain ⟨rfl, rfl, rfl⟩ := trodAll_nil rest1
  obtain rfl : args = #[v0, v1] := by cases args; simp_all
  obtain ⟨rfl, rfl⟩ := trodVars_none hV
  obtain ⟨a0, len0, cap0, rfl⟩ := okWide_slice Try.underlying22 (hval 0 22 v0 rfl rfl)
  have k0 := h0
  have lt0 : ∀ x ∈ p0, x.block < W.heap.size := by obtain ⟨m, hm⟩ := k0; exact DataW.trod_lt m _ _ _ hm
  obtain ⟨z0, w0⟩ := isRow_of (k := .u8) Try.underlying22 Try.underlying5 (by kernel_rfl) h0
  obtain ⟨a1, len1, cap1, rfl⟩ := okWide_slice Try.underlying22 (hval 1 22 v1 rfl rfl)
  have k1 := h1
  have lt1 : ∀ x ∈ p1, x.block < W.heap.size := by obtain ⟨m, hm⟩ := k1; exact DataW.trod_lt m _ _ _ hm
  obtain ⟨z1, w1⟩ := isRow_of (k := .u8) Try.underlying22 Try.underlying5 (by kernel_rfl) h1
  clear hA0 hval0
  refine (walk a0 len0 cap0 z0 a1 len1 cap1 z1 W w0 w1).mono fun e W' ⟨he, bel⟩ => ?_
  subst he
  exact ⟨_, rfl, _, _, _, [], _, [], hW', trodAll_mk1 (shut_bool Try.underlying4 _), (trodAll_cons_mk (Below.trod laidOut (by kernel_rfl) (of_decide_eq_true (by kernel_rfl)) k0 bel lt0) (trodAll_cons_mk (Below.trod laidOut (by kernel_rfl) (of_decide_eq_true (by kernel_rfl)) k1 bel lt1) trodAll_mk0)), rfl, bel.frame _, fun h => by cases h⟩

theorem over : Rows.fnSumsRow.holds Try.pinned (OpenSpec.ofChange Rows.fnSumsSpec) :=
  OpenClaim.holds_of_wide 3 Try.f3 rfl rfl rfl rfl rfl rfl rfl ⟨rfl, rfl, rfl, rfl, rfl⟩ rfl rfl rfl rfl rfl (by kernel_rfl) Try.func3 (by kernel_rfl)
    (of_decide_eq_true (by kernel_rfl)) (by unfold Func.isWrapper; first | (rw [if_pos (by decide +kernel)]; kernel_rfl) | (rw [if_neg (by decide +kernel)]; exact ⟨rfl, rfl⟩))
    (fun os started H enc _ => lifted os started H enc)

/-- the statement -/
theorem proved : Rows.FnSumsSaid := over
end Go.Proofs.Ythcacaafaifnfaa.fnSums
