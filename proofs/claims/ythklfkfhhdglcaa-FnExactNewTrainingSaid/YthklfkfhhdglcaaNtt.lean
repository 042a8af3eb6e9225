/-
  NewTraining: the model's call. Conditions: the cells can be read.
-/
import Derived.Test.YthklfkfhhdglcaaNts
namespace Go.Proofs.Ythklfkfhhdglcaa
open Go.RowKit Go.Deep Go.WideShapes Go.ChangeShapes Go.Maps
set_option linter.unusedVariables false
attribute [local go_sem] World.drewN_zero

/-- what NewTraining answers -/
def RetNew (k : Int) (ps : List LayP) (sd : Int) : World → Ending → World → Prop :=
  if okNew k ps sd = true then RetNt true (ps.map LayP.can) (zeros k ps) sd oneF else RetNt false [] [] 0 0
theorem retNew_no {k : Int} {ps : List LayP} {sd : Int} (h : okNew k ps sd = false) : RetNew k ps sd = RetNt false [] [] 0 0 := by unfold RetNew; rw [h]; rfl
theorem retNew_yes {k : Int} {ps : List LayP} {sd : Int} (h : okNew k ps sd = true) : RetNew k ps sd = RetNt true (ps.map LayP.can) (zeros k ps) sd oneF := by unfold RetNew; rw [h]; rfl
theorem vTrs_new {k : Int} {q : TrsA} (h1 : isKind k = true) (h2 : vMod q.ps = true) (h3 : q.st = 0) (h4 : fitS k q.ss ((laySum q.ps : Nat) : Int) = true) : vTrs k q = okNew k q.ps q.sd := by
  unfold vTrs okNew
  rw [h1, h2, h3, h4]
  simp [isStepV]
theorem okNew_a {k : Int} {ps : List LayP} {sd : Int} (h : vMod ps = false) : okNew k ps sd = false := by simp [okNew, h]
theorem okNew_b {k : Int} {ps : List LayP} {sd : Int} (h : isKind k = false) : okNew k ps sd = false := by simp [okNew, h]
set_option maxRecDepth 20000 in
set_option maxHeartbeats 4000000 in
theorem t_sNewTraining (k : Int) (r b1 b2 ep : Nat) (g : Option Addr) (n c : Nat) (ls : List LayA) (sd : Int) (w : World) (h : LaysAt w g n c ls) :
    Calls Try.prog 41 #[.agg #[.slice g n c], optV k r b1 b2 ep, .int .i64 sd] w (RetNew k (ls.map LayA.p) sd w) := by
  unfold optV
  have H := Lib.hid h
  have HN := Lib.hid h.1
  have b0 := (((Below.refl w.heap.size w).alloc (Nat.le_refl _) (.cells #[.slice g n c] 68)).alloc (by simp) (.cells #[.int .i64 k, .float .f32 r, .float .f32 b1, .float .f32 b2, .float .f32 ep] 75)).alloc (by simp; omega) (.cells #[.slice none 0 0, .slice none 0 0, .int .i64 0, .int .i64 0, .float .f32 0] 71)
  have k1 := ((Blk.new w 68 #[.slice g n c]).below ((Below.refl _ _).alloc (Nat.le_refl _) (.cells #[.int .i64 k, .float .f32 r, .float .f32 b1, .float .f32 b2, .float .f32 ep] 75))).below ((Below.refl _ _).alloc (Nat.le_refl _) (.cells #[.slice none 0 0, .slice none 0 0, .int .i64 0, .int .i64 0, .float .f32 0] 71))
  have k2 := (Blk.new (w.alloc (.cells #[.slice g n c] 68)) 75 #[.int .i64 k, .float .f32 r, .float .f32 b1, .float .f32 b2, .float .f32 ep]).below ((Below.refl _ _).alloc (Nat.le_refl _) (.cells #[.slice none 0 0, .slice none 0 0, .int .i64 0, .int .i64 0, .float .f32 0] 71))
  have k3 := Blk.new ((w.alloc (.cells #[.slice g n c] 68)).alloc (.cells #[.int .i64 k, .float .f32 r, .float .f32 b1, .float .f32 b2, .float .f32 ep] 75)) 71 #[.slice none 0 0, .slice none 0 0, .int .i64 0, .int .i64 0, .float .f32 0]
  simp only [World.size_alloc] at k2 k3
  have KM := Lib.hid k1
  have KO := Lib.hid k2
  have KR := Lib.hid k3
  have B := Lib.hid b0
  clear k1 k2 k3 b0
  obtain ⟨u, hu⟩ : ∃ u, vMod (ls.map LayA.p) = u := ⟨_, rfl⟩
  obtain ⟨v, hv⟩ : ∃ v, isKind k = v := ⟨_, rfl⟩
  have HM := Lib.hid (fun W (hb : Below w.heap.size w W) hq => c_l03Is w.heap.size 0 g c n ls u hu W hq (h.kept hb))
  have HK := fun W h => c_l05Is (w.heap.size + 1) k W h
  simp only [hv] at HK
  have HK' := Lib.hid HK
  have HU := Lib.hid hu
  have HVK := Lib.hid hv
  clear hu hv HK h
  cases u with
  | false =>
    have HNO := Lib.hid (retNew_no (sd := sd) (okNew_a (k := k) HU.out))
    go_enter Try.func41, Try.ntmps41
    go_wp2_with fail
    generalize ((w.alloc (.cells #[.slice g n c] 68)).alloc (.cells #[.int .i64 k, .float .f32 r, .float .f32 b1, .float .f32 b2, .float .f32 ep] 75)).alloc (.cells #[.slice none 0 0, .slice none 0 0, .int .i64 0, .int .i64 0, .float .f32 0] 71) = w1 at KM KO KR B ⊢
    refine (HM.out _ B.out (KM.out.cell 0)).mono ?_
    rintro e w2 ⟨rfl, dn⟩
    have bl := dn.below
    have KR2 := Lib.hid (KR.out.below bl)
    have B2 := Lib.hid (Below.next B.out bl)
    clear dn bl KM KO KR B
    obtain ⟨q0, q1, q2, q3, q4, q5⟩ := tbt5 KR2.out
    obtain ⟨f0, f1, f2, f3, f4⟩ := tbtf5 KR2.out
    obtain ⟨hz, hgz⟩ := storet5 KR2.out (y0 := .slice none 0 0) (y1 := .slice none 0 0) (y2 := .int .i64 0) (y3 := .int .i64 0) (y4 := .float .f32 0)
    obtain ⟨m0, m1, m2, m3, m4, m5⟩ := tbt5 hz
    have MB := Lib.hid (Below.at_ B2.out hgz (by omega))
    clear hz hgz m5
    go_wp2_with fail
    refine bodyPost_ret (v := .tuple #[.agg #[.slice none 0 0, .slice none 0 0, .int .i64 0, .int .i64 0, .float .f32 0], .bool false]) (by simp [results, Try.results41, go_sem, m0, m1, m2, m3, m4]) rfl ?_
    rw [HNO.out]
    exact retNt_no MB.out
  | true =>
  cases v with
  | false =>
    have HNO := Lib.hid (retNew_no (sd := sd) (ps := ls.map LayA.p) (okNew_b HVK.out))
    go_enter Try.func41, Try.ntmps41
    go_wp2_with fail
    generalize ((w.alloc (.cells #[.slice g n c] 68)).alloc (.cells #[.int .i64 k, .float .f32 r, .float .f32 b1, .float .f32 b2, .float .f32 ep] 75)).alloc (.cells #[.slice none 0 0, .slice none 0 0, .int .i64 0, .int .i64 0, .float .f32 0] 71) = w1 at KM KO KR B ⊢
    refine (HM.out _ B.out (KM.out.cell 0)).mono ?_
    rintro e w2 ⟨rfl, dn⟩
    have bl := dn.below
    have KO2 := Lib.hid (KO.out.below bl)
    have KR2 := Lib.hid (KR.out.below bl)
    have B2 := Lib.hid (Below.next B.out bl)
    clear dn bl KM KO KR B
    go_wp2_with fail
    refine (HK'.out _ (KO2.out.cell 0)).mono ?_
    rintro e w3 ⟨rfl, rfl⟩
    obtain ⟨q0, q1, q2, q3, q4, q5⟩ := tbt5 KR2.out
    obtain ⟨f0, f1, f2, f3, f4⟩ := tbtf5 KR2.out
    obtain ⟨hz, hgz⟩ := storet5 KR2.out (y0 := .slice none 0 0) (y1 := .slice none 0 0) (y2 := .int .i64 0) (y3 := .int .i64 0) (y4 := .float .f32 0)
    obtain ⟨m0, m1, m2, m3, m4, m5⟩ := tbt5 hz
    have MB := Lib.hid (Below.at_ B2.out hgz (by omega))
    clear hz hgz m5
    go_wp2_with fail
    refine bodyPost_ret (v := .tuple #[.agg #[.slice none 0 0, .slice none 0 0, .int .i64 0, .int .i64 0, .float .f32 0], .bool false]) (by simp [results, Try.results41, go_sem, m0, m1, m2, m3, m4]) rfl ?_
    rw [HNO.out]
    exact retNt_no MB.out
  | true =>
    obtain ⟨v1, v2, v3⟩ := vMod_parts HU.out
    have hn6 : n ≤ 6 := by rw [← HN.out]; simpa using v2
    have HO := Lib.hid (fun W (hb : Below w.heap.size w W) hgp hq => c_l07Own w.heap.size g c n ls W hgp hq (H.out.kept hb) v3 hn6)
    have HP := Lib.hid (fun W (hb : Below w.heap.size w W) hgp hq => c_l03Params w.heap.size 0 g c n ls W hgp hq (H.out.kept hb) v3 hn6)
    have HPL := Lib.hid (parOf_length (ls.map LayA.p))
    obtain ⟨N, hN⟩ : ∃ N, laySum (ls.map LayA.p) = N := ⟨_, rfl⟩
    have HLN := Lib.hid hN
    rw [hN] at HPL v3
    have hNi : (N : Int) ≤ 432 := by omega
    clear v1 v2 hN hn6
    obtain ⟨Z, hZ⟩ : ∃ Z, parOf (ls.map LayA.p) = Z := ⟨_, rfl⟩
    rw [hZ] at HP HPL
    clear hZ
    go_enter Try.func41, Try.ntmps41
    go_wp2_with fail
    generalize ((w.alloc (.cells #[.slice g n c] 68)).alloc (.cells #[.int .i64 k, .float .f32 r, .float .f32 b1, .float .f32 b2, .float .f32 ep] 75)).alloc (.cells #[.slice none 0 0, .slice none 0 0, .int .i64 0, .int .i64 0, .float .f32 0] 71) = w1 at KM KO KR B ⊢
    refine (HM.out _ B.out (KM.out.cell 0)).mono ?_
    rintro e w2 ⟨rfl, dn⟩
    have bl := dn.below
    have KM2 := Lib.hid (KM.out.below bl)
    have KO2 := Lib.hid (KO.out.below bl)
    have KR2 := Lib.hid (KR.out.below bl)
    have B2 := Lib.hid (Below.next B.out bl)
    clear dn bl KM KO KR B
    go_wp2_with fail
    refine (HK'.out _ (KO2.out.cell 0)).mono ?_
    rintro e w3 ⟨rfl, rfl⟩
    go_wp2_with fail
    refine (HO.out _ B2.out KM2.out.lt (KM2.out.cell 0)).mono ?_
    rintro e w3 ⟨gs, cp, ys, rfl, hyl, hyp, ho, hnd, bl⟩
    have S2 := Lib.hid (show w.heap.size + 2 < w2.heap.size from KR2.out.lt)
    have HYL := Lib.hid hyl
    have HYP := Lib.hid hyp
    have ND := Lib.hid hnd
    have O3 := Lib.hid ho
    have HSZ := Lib.hid bl.size
    have KM3 := Lib.hid (KM2.out.below bl)
    have KO3 := Lib.hid (KO2.out.below bl)
    have KR3 := Lib.hid (KR2.out.below bl)
    have B3 := Lib.hid (Below.next B2.out bl)
    clear bl ho hnd hyl hyp KM2 KO2 KR2 B2
    go_wp2_with fail
    have bl := (Below.refl w3.heap.size w3).alloc (Nat.le_refl _) (.cells #[.slice gs n cp, .slice none 0 0, .int .i64 0, .int .i64 sd, .float .f32 1065353216] 71)
    have KT4 := Lib.hid (Blk.new w3 71 #[.slice gs n cp, .slice none 0 0, .int .i64 0, .int .i64 sd, .float .f32 1065353216])
    have O4 := Lib.hid (OwnL.kept O3.out bl)
    have OLT := Lib.hid (OwnL.lt _ O3.out)
    have KM4 := Lib.hid (KM3.out.below bl)
    have KO4 := Lib.hid (KO3.out.below bl)
    have KR4 := Lib.hid (KR3.out.below bl)
    have B4 := Lib.hid (Below.next B3.out bl)
    have S3 := Lib.hid (show w.heap.size + 2 < w3.heap.size from KR3.out.lt)
    have S23 := Lib.hid (show w2.heap.size ≤ w3.heap.size from HSZ.out)
    clear bl O3 KM3 KO3 KR3 B3
    generalize w3.alloc (.cells #[.slice gs n cp, .slice none 0 0, .int .i64 0, .int .i64 sd, .float .f32 1065353216] 71) = w4 at KT4 O4 KM4 KO4 KR4 B4 ⊢
    refine (HP.out _ B4.out KM4.out.lt (KM4.out.cell 0)).mono ?_
    rintro e w5 ⟨za, zc, rfl, ho, bl⟩
    have S5 := Lib.hid (show w3.heap.size < w5.heap.size from (KT4.out.below bl).lt)
    have KT5 := Lib.hid (KT4.out.below bl)
    have O5 := Lib.hid (OwnL.kept O4.out bl)
    have KM5 := Lib.hid (KM4.out.below bl)
    have KO5 := Lib.hid (KO4.out.below bl)
    have KR5 := Lib.hid (KR4.out.below bl)
    have B5 := Lib.hid (Below.next B4.out bl)
    clear bl ho KT4 O4 KM4 KO4 KR4 B4
    rw [HPL.out]
    go_wp2_with fail
    refine (c_l05EmptyW (w.heap.size + 1) k N _ (by omega) KO5.out.lt (KO5.out.cell 0)).mono ?_
    rintro e w6 ⟨hs2, hp2, zs, rfl, hzl, hzz, ho, hnd, bl⟩
    have HZL := Lib.hid hzl
    have HZZ := Lib.hid hzz
    have ND2 := Lib.hid hnd
    have OZ6 := Lib.hid ho
    have KT6 := Lib.hid (KT5.out.below bl)
    have O6 := Lib.hid (OwnL.kept O5.out bl)
    have KO6 := Lib.hid (KO5.out.below bl)
    have KR6 := Lib.hid (KR5.out.below bl)
    have B6 := Lib.hid (Below.next B5.out bl)
    clear bl ho hnd hzl hzz KT5 O5 KM5 KO5 KR5 B5
    obtain ⟨s0, s1, s2, s3, s4, s5⟩ := tbt5 KT6.out
    obtain ⟨e0, e1, e2, e3, e4⟩ := tbtf5 KT6.out
    go_wp2_with fail
    obtain ⟨hk, hg⟩ := storet_1 KT6.out (y1 := .slice hs2 zs.length hp2)
    have KT7 := Lib.hid hk
    have O7 := Lib.hid (O6.out.upg hg (fun q hq => by have := (OLT.out q hq).2; omega))
    have OZ7 := Lib.hid (OZ6.out.offg hg S5.out)
    have KO7 := Lib.hid (KO6.out.off hg (by have := S3.out; omega))
    have KR7 := Lib.hid (KR6.out.off hg (by have := S3.out; omega))
    have B7 := Lib.hid (Below.at_ B6.out hg (by have := S3.out; omega))
    clear hk hg s0 s1 s2 s3 s4 s5 e0 e1 e2 e3 e4 KT6 O6 OZ6 KO6 KR6 B6
    generalize w6.setCell ⟨w3.heap.size, 1, none⟩ (.slice hs2 zs.length hp2) = w7 at KT7 O7 OZ7 KO7 KR7 B7 ⊢
    have KQ := Lib.hid (show Blk w7 w3.heap.size 71 (⟨gs, cp, ys, hs2, hp2, zs, 0, sd, 1065353216⟩ : TrsA).cells by simp only [TrsA.cells, HYL.out]; exact KT7.out)
    have OWN7 := Lib.hid (show TrsOwn w7 w2.heap.size ⟨gs, cp, ys, hs2, hp2, zs, 0, sd, 1065353216⟩ from ⟨by
      refine ⟨?_, ?_⟩
      · have h1 := O7.out
        simp only [OwnL, and_true] at h1
        simp only [lsC, HYL.out]
        exact h1
      · have h1 := OwnL.base (show w2.heap.size ≤ w5.heap.size by have := S5.out; have := S23.out; omega) _ OZ7.out
        exact h1, show (1065353216 : Nat) < 2 ^ 32 by decide⟩)
    have hfit : fitS k zs (N : Int) = true := fit_zeros HZL.out HZZ.out
    have hvt := vTrs_new (k := k) (q := ⟨gs, cp, ys, hs2, hp2, zs, 0, sd, 1065353216⟩) HVK.out (by show vMod (ys.map LayA.p) = true; rw [HYP.out]; exact HU.out) rfl (by show fitS k zs ((laySum (ys.map LayA.p) : Nat) : Int) = true; rw [HYP.out, HLN.out]; exact hfit)
    have hvt2 : vTrs k ⟨gs, cp, ys, hs2, hp2, zs, 0, sd, 1065353216⟩ = okNew k (ls.map LayA.p) sd := by rw [hvt]; show okNew k (ys.map LayA.p) sd = _; rw [HYP.out]
    have hc := c_l07Is (w.heap.size + 1) w3.heap.size k ⟨gs, cp, ys, hs2, hp2, zs, 0, sd, 1065353216⟩ w7 OWN7.out.at (KO7.out.cell 0) KQ.out
    rw [hvt2] at hc
    have HCC := Lib.hid hc
    clear hc hvt hvt2 hfit
    obtain ⟨t, ht⟩ : ∃ t, okNew k (ls.map LayA.p) sd = t := ⟨_, rfl⟩
    rw [ht] at HCC
    cases t with
    | false =>
      have HNO := Lib.hid (retNew_no ht)
      clear ht
      refine HCC.out.mono ?_
      rintro e w8 ⟨rfl, bl⟩
      have KR8 := Lib.hid (KR7.out.below bl)
      have B8 := Lib.hid (Below.next B7.out bl)
      clear bl HCC
      obtain ⟨q0, q1, q2, q3, q4, q5⟩ := tbt5 KR8.out
      obtain ⟨f0, f1, f2, f3, f4⟩ := tbtf5 KR8.out
      obtain ⟨hz, hgz⟩ := storet5 KR8.out (y0 := .slice none 0 0) (y1 := .slice none 0 0) (y2 := .int .i64 0) (y3 := .int .i64 0) (y4 := .float .f32 0)
      obtain ⟨m0, m1, m2, m3, m4, m5⟩ := tbt5 hz
      have MB := Lib.hid (Below.at_ B8.out hgz (by omega))
      clear hz hgz m5
      go_wp2_with fail
      refine bodyPost_ret (v := .tuple #[.agg #[.slice none 0 0, .slice none 0 0, .int .i64 0, .int .i64 0, .float .f32 0], .bool false]) (by simp [results, Try.results41, go_sem, m0, m1, m2, m3, m4]) rfl ?_
      rw [HNO.out]
      exact retNt_no MB.out
    | true =>
      have HYS := Lib.hid (retNew_yes ht)
      clear ht
      refine HCC.out.mono ?_
      rintro e w8 ⟨rfl, bl⟩
      have KR8 := Lib.hid (KR7.out.below bl)
      have KT8 := Lib.hid (KT7.out.below bl)
      have OW8 := Lib.hid (OWN7.out.kept bl)
      have B8 := Lib.hid (Below.next B7.out bl)
      clear bl HCC
      obtain ⟨q0, q1, q2, q3, q4, q5⟩ := tbt5 KR8.out
      obtain ⟨f0, f1, f2, f3, f4⟩ := tbtf5 KR8.out
      obtain ⟨s0, s1, s2, s3, s4, s5⟩ := tbt5 KT8.out
      obtain ⟨hz, hgz⟩ := storet5 KR8.out (y0 := .slice gs n cp) (y1 := .slice hs2 zs.length hp2) (y2 := .int .i64 0) (y3 := .int .i64 sd) (y4 := .float .f32 1065353216)
      obtain ⟨m0, m1, m2, m3, m4, m5⟩ := tbt5 hz
      have MB := Lib.hid (Below.at_ B8.out hgz (by omega))
      have MO := Lib.hid (show TrsOwn _ w.heap.size ⟨gs, cp, ys, hs2, hp2, zs, 0, sd, 1065353216⟩ from ⟨OwnL.base (show w.heap.size ≤ w2.heap.size by have := S2.out; omega) _ (OW8.out.1.offg hgz S2.out), show (1065353216 : Nat) < 2 ^ 32 by decide⟩)
      clear hz hgz m5
      go_wp2_with fail
      refine bodyPost_ret (v := .tuple #[.agg #[.slice gs n cp, .slice hs2 zs.length hp2, .int .i64 0, .int .i64 sd, .float .f32 1065353216], .bool true]) (by simp [results, Try.results41, go_sem, m0, m1, m2, m3, m4]) rfl ?_
      rw [HYS.out]
      refine ⟨⟨gs, cp, ys, hs2, hp2, zs, 0, sd, 1065353216⟩, by simp only [TrsA.cells, HYL.out], ?_, ?_, rfl, rfl, rfl, MO.out, ?_, MB.out⟩
      · have h1 := congrArg (List.map LayP.can) HYP.out
        simpa [List.map_map, Function.comp_def] using h1
      · show zs.map (fun x => x.z.map (canon .f32)) = zeros k (ls.map LayA.p)
        rw [zeros_end HZZ.out HZL.out, zeros, HLN.out]
      · simp only [TrsA.bl, blL, List.append_nil]
        have n1 := ND.out
        have n2 := ND2.out
        simp only [blL, List.append_nil] at n1 n2
        refine List.nodup_append.2 ⟨by simp only [lsC, HYL.out]; exact n1, by simp only [slC]; exact n2, ?_⟩
        intro x hx y hy e
        have h1 := (OLT.out x (by simp only [lsC, HYL.out] at hx; simpa only [blL, List.append_nil] using hx)).2
        have h2 := (OwnL.lt _ OZ7.out y (by simpa only [slC, blL, List.append_nil] using hy)).1
        have := S5.out
        omega
end Go.Proofs.Ythklfkfhhdglcaa
