/-
  StagesOf: what the model and the program answer. Conditions: the cells can be read.
-/
import Derived.Test.YtnkmgeiehhonkaaStg
import Derived.Test.YtnkmgeiehhonkaaApp
namespace Go.Proofs.Ytnkmgeiehhonkaa
open Go.RowKit Go.Deep Go.WideShapes Go.ChangeShapes
set_option linter.unusedVariables false
set_option linter.unusedSimpArgs false

theorem vStages_yes {ps : List LayP} {z : List Nat} (h1 : vMod ps = true) (h2 : goesIn ps z.length = true) : vStagesOf ps z = (true, (List.range ps.length).map fun j => stageV ps z (j + 1)) := by
  unfold vStagesOf
  rw [h1, h2]
  rfl
theorem vStages_no {ps : List LayP} {z : List Nat} (h : vMod ps = false ∨ goesIn ps z.length = false) : vStagesOf ps z = (false, []) := by
  unfold vStagesOf
  rcases h with h | h
  · rw [h]; rfl
  · rw [h, Bool.and_false]; rfl
theorem goesIn_at {ps : List LayP} {m : Nat} {p : LayP} (h : ps[0]? = some p) : goesIn ps m = decide ((m : Int) = p.i) := by unfold goesIn; rw [h]
theorem stage_len8 {ps : List LayP} {z : List Nat} (h1 : vMod ps = true) (h2 : goesIn ps z.length = true) : ∀ j, j < ps.length → (stageV ps z (j + 1)).length ≤ 8 := by
  intro j hj
  have h0 : ps[0]? = some ps[0] := List.getElem?_eq_getElem (by omega)
  obtain ⟨p0, hp0⟩ : ∃ p, ps[0] = p := ⟨_, rfl⟩
  rw [hp0] at h0
  rw [goesIn_at h0, decide_eq_true_eq] at h2
  have hx : ps[j]? = some ps[j] := List.getElem?_eq_getElem hj
  have hl := stage_last h1 h0 h2 hx
  have hv := (vLay_iff _ _ _ _ _).1 (mod_one h1 hx)
  omega
theorem vStagesOf_len (ps : List LayP) (z : List Nat) : (vStagesOf ps z).2.length + cntZZ (vStagesOf ps z).2 ≤ 1048576 := by
  by_cases h : (vMod ps && goesIn ps z.length) = true
  · rw [Bool.and_eq_true] at h
    rw [vStages_yes h.1 h.2]
    have h6 := mod_len h.1
    have : ∀ n, n ≤ ps.length → cntZZ ((List.range n).map fun j => stageV ps z (j + 1)) ≤ n * 8 := by
      intro n
      induction n with
      | zero => intro _; simp [cntZZ]
      | succ n ih =>
        intro hn
        have h8 := stage_len8 h.1 h.2 n (by omega)
        have := ih (by omega)
        rw [List.range_succ, List.map_append]
        unfold cntZZ at *
        rw [List.map_append, List.sum_append]
        simp only [List.map_cons, List.map_nil, List.sum_cons, List.sum_nil]
        omega
    have := this ps.length (Nat.le_refl _)
    simp only [List.length_map, List.length_range]
    omega
  · unfold vStagesOf
    rw [if_neg h]
    simp [cntZZ]
theorem ss_side {w wr w1 w' : World} {gs a : Option Addr} {cp c : Nat} {z : List Nat} {ys : List FlA} {v : Value} (ho : OwnL wr w.heap.size [.sl 50 1 ys.length gs cp (ssC ys)]) (hl : Below w.heap.size w wr) (hb : Below wr.heap.size wr w1) (hm : OwnF w1 wr.heap.size a c z)
    (hg : (w1.alloc (.cells #[v] 50)).grownBy w' (Value.ownBlock (.slice gs ys.length cp))) : OwnF w' w.heap.size a c z := by
  rw [ownBlock_slice] at hg
  simp only [OwnL, Cl.Own, and_true] at ho
  have hlt := ownsRow_lt ho.1
  have ba : Below w1.heap.size w1 (w1.alloc (.cells #[v] 50)) := (Below.refl _ _).alloc (Nat.le_refl _) _
  have hnew := hm.lt
  refine ((hm.kept ba).apart hg (fun q h1 h2 => ?_)).base hl.size
  have e := hlt q (by rw [h2]; simp)
  have e2 := hnew q h1
  omega
theorem ss_made (w : World) : OwnL (w.alloc (.cells #[] 50)) w.heap.size [.sl 50 1 0 (some ⟨w.heap.size, 0, none⟩) 0 (ssC [])] ∧ (blL [.sl 50 1 0 (some ⟨w.heap.size, 0, none⟩) 0 (ssC [])]).Nodup := by
  refine ⟨?_, by simp [blL, Cl.bl, ssC, blk]⟩
  simp only [OwnL, Cl.Own, and_true, ssC, vs, List.map_nil]
  exact World.ownsRow_made w #[] 0 (Nat.le_refl _) (by unfold maxLen; omega) rfl
set_option maxRecDepth 20000 in
set_option maxHeartbeats 2000000 in
theorem c_takes (g : Option Addr) (c n : Nat) (y : List LayA) (m : Nat) (w : World) (h : LaysAt w g n c y) :
    Calls Try.prog 127 #[.agg #[.slice g n c], .int .i64 m] w fun e w' => e = .returned (.bool (vMod (y.map LayA.p) && goesIn (y.map LayA.p) m)) ∧ Below w.heap.size w w' := by
  have hln : y.length = n := h.1
  have al := (Below.refl w.heap.size w).alloc (Nat.le_refl _) (.cells #[.slice g n c] 92)
  have B0 := Lib.hid al
  have H0 := Lib.hid (h.kept al)
  have K0 := Lib.hid (Blk.new w 92 #[.slice g n c])
  cases hv : vMod (y.map LayA.p) with
  | false =>
    have HV := Lib.hid hv
    clear al h hv hln
    go_enter Try.func127, Try.ntmps127
    go_upto_region 1 with fail
    generalize w.alloc (.cells #[.slice g n c] 92) = w0 at B0 H0 K0 ⊢
    obtain ⟨p0, pl⟩ := tb1 K0.out
    go_wp2_with (go_at_call 113; refine (c_iValidModel g c n y false HV.out _ H0.out).mono ?_; rintro e w2 ⟨rfl, bl⟩; have B2 := Lib.hid (Below.next B0.out bl); clear bl)
    go_ret
    exact ⟨rfl, B2.out⟩
  | true =>
    have HV := Lib.hid hv
    have h6 := mod_len hv
    rw [List.length_map, hln] at h6
    obtain ⟨b, off, k, ii, oo, ws, bs, a0, c0, a1, c1, rfl, hbk, hx, q0, q1, q2, q3, q4, f0, f1⟩ := h.one (show 0 < n by omega)
    have hx' := at_map hx
    have HG := Lib.hid (show (true && goesIn (y.map LayA.p) m) = decide ((ii : Int) = (m : Int)) by
      rw [goesIn_at hx', Bool.true_and]
      exact decide_eq_decide.2 eq_comm)
    rw [Nat.zero_mul, Nat.add_zero] at q1
    have Q := Lib.hid q1
    have HBK := Lib.hid hbk
    have n1 : (0 : Int) < (n : Int) := by omega
    clear al h hv hln h6 hx hx' q0 q1 q2 q3 q4 f0 f1 hbk
    go_enter Try.func127, Try.ntmps127
    go_upto_region 1 with fail
    generalize w.alloc (.cells #[.slice (some ⟨b, off, none⟩) n c] 92) = w0 at B0 H0 K0 ⊢
    obtain ⟨p0, pl⟩ := tb1 K0.out
    go_wp2_with (go_at_call 113; refine (c_iValidModel (some ⟨b, off, none⟩) c n y true HV.out _ H0.out).mono ?_; rintro e w2 ⟨rfl, bl⟩; have B2 := Lib.hid (Below.next B0.out bl); have K2 := Lib.hid (K0.out.below bl); have r1 := (B2.out.cell (p := ⟨b, off + 1, none⟩) HBK.out).trans Q.out; clear bl p0 pl; obtain ⟨p0, pl⟩ := tb1 K2.out)
    go_ret
    rw [HG.out]
    exact ⟨rfl, B2.out⟩
set_option maxRecDepth 20000 in
set_option maxHeartbeats 2000000 in
theorem t_iStagesOf (ps : List LayP) (n : Nat) (g : Option Addr) (c : Nat) (y : List LayA) (z : List Nat) (x : Option Addr) (cx : Nat) (w : World) (hp : y.map LayA.p = ps) (h : LaysAt w g n c y) (hx : IsFloats .f32 w x z.length cx z) :
    Calls Try.prog 64 #[.agg #[.slice g n c], .slice x z.length cx] w (RetSS (vStagesOf ps z).1 (vStagesOf ps z).2 w) := by
  have hln : y.length = n := h.1
  have hlp : ps.length = n := by rw [← hp, List.length_map]; exact hln
  have HLP := Lib.hid hlp
  have al := (Below.refl w.heap.size w).alloc (Nat.le_refl _) (.cells #[.slice g n c] 92)
  have B0 := Lib.hid al
  have H0 := Lib.hid (h.kept al)
  have HX := Lib.hid (hx.kept al)
  have K0 := Lib.hid (Blk.new w 92 #[.slice g n c])
  have HP := Lib.hid hp
  cases ht : (vMod ps && goesIn ps z.length) with
  | false =>
    have HV := Lib.hid (vStages_no (ps := ps) (z := z) (by rw [Bool.and_eq_false_iff] at ht; exact ht))
    have HT := Lib.hid ht
    clear al h hx hp ht hln hlp
    go_enter Try.func64, Try.ntmps64
    go_upto_region 1 with fail
    generalize w.alloc (.cells #[.slice g n c] 92) = w0 at B0 H0 HX K0 ⊢
    obtain ⟨p0, pl⟩ := tb1 K0.out
    go_wp2_with (go_at_call 127; have hc := c_takes g c n y z.length _ H0.out; rw [HP.out, HT.out] at hc; refine hc.mono ?_; clear hc; rintro e w2 ⟨rfl, bl⟩; have B2 := Lib.hid (Below.next B0.out bl); clear bl)
    go_ret2
    rw [HV.out]
    exact retSS_no B2.out
  | true =>
    have ht2 := ht
    rw [Bool.and_eq_true] at ht2
    have HV := Lib.hid (vStages_yes ht2.1 ht2.2)
    have HT := Lib.hid ht
    have HT1 := Lib.hid ht2.1
    have HT2 := Lib.hid ht2.2
    clear al h hx hp ht ht2 hln hlp
    go_enter Try.func64, Try.ntmps64
    go_upto_region 1 with fail
    generalize w.alloc (.cells #[.slice g n c] 92) = w0 at B0 H0 HX K0 ⊢
    obtain ⟨p0, pl⟩ := tb1 K0.out
    go_wp2_with (go_at_call 127; have hc := c_takes g c n y z.length _ H0.out; rw [HP.out, HT.out] at hc; refine hc.mono ?_; clear hc; rintro e w2 ⟨rfl, bl⟩; have B2 := Lib.hid (Below.next B0.out bl); have K2 := Lib.hid (K0.out.below bl); have H2 := Lib.hid (H0.out.kept bl); have HX2 := Lib.hid (HX.out.kept bl); clear bl p0 pl; obtain ⟨p0, pl⟩ := tb1 K2.out)
    refine (c_stages g c n y x cx z _ (by rw [HP.out]; exact HT1.out) (by rw [HP.out]; exact HT2.out) H2.out HX2.out).mono ?_
    rintro e w3 ⟨gs, cp, ys, rfl, hyl, ho, hnd, hyz, hb⟩
    have HR := Lib.hid (show RetSS (vStagesOf ps z).1 (vStagesOf ps z).2 w (.returned (.tuple #[.slice gs ys.length cp, .bool (vStagesOf ps z).1])) w3 from
      ⟨gs, cp, ys, rfl, OwnL.base B2.out.size _ ho, hnd, by rw [hyz, HV.out, HLP.out, HP.out], Below.next B2.out hb⟩)
    clear hyl ho hnd hyz hb p0 pl
    go_wp2_with fail
    go_ret2
    have hr := HR.out
    rw [HV.out] at hr ⊢
    exact hr
theorem c_l03In (gp op : Nat) (g : Option Addr) (c n : Nat) (y : List LayA) (p : LayP) (w : World) (hq : w.cell? ⟨gp, op, none⟩ = some (.slice g n c)) (h : LaysAt w g n c y) (hx : (y.map LayA.p)[0]? = some p) :
    Calls Try.prog 124 #[.pointer (some ⟨gp, op, none⟩)] w fun e w' => e = .returned (.int .i64 p.i) ∧ w = w' := by
  have hn : 0 < n := by
    have := (List.getElem?_eq_some_iff.1 hx).1
    rw [List.length_map, h.1] at this
    exact this
  obtain ⟨b, off, k, ii, oo, ws, bs, a0, c0, a1, c1, rfl, hbk, hy, q0, q1, q2, q3, q4, f0, f1⟩ := h.one hn
  have e := at_map hy
  rw [hx] at e
  cases e
  rw [Nat.zero_mul, Nat.add_zero] at q1
  have n1 : (0 : Int) < (n : Int) := by omega
  dsimp only
  clear h hx hy q0 q2 q3 q4 f0 f1 hn
  go_enter Try.func124, Try.ntmps124
  go_wp2
  go_ret
  exact ⟨rfl, rfl⟩
set_option maxRecDepth 20000 in
set_option maxHeartbeats 4000000 in
theorem t_sStagesOf (ps : List LayP) (n : Nat) (g : Option Addr) (c : Nat) (y : List LayA) (z : List Nat) (x : Option Addr) (cx : Nat) (w : World) (hp : y.map LayA.p = ps) (h : LaysAt w g n c y) (hx : IsFloats .f32 w x z.length cx z) :
    Calls Try.prog 62 #[.agg #[.slice g n c], .slice x z.length cx] w (RetSS (vStagesOf ps z).1 (vStagesOf ps z).2 w) := by
  have hln : y.length = n := h.1
  have hlp : ps.length = n := by rw [← hp, List.length_map]; exact hln
  have hmax : z.length ≤ 9223372036854775807 := by have h1 := hx.1; have h2 := hx.2.1; unfold maxLen at h2; omega
  have HLP := Lib.hid hlp
  have HW := Lib.hid h
  have al := (Below.refl w.heap.size w).alloc (Nat.le_refl _) (.cells #[.slice g n c] 92)
  have B0 := Lib.hid al
  have H0 := Lib.hid (h.kept al)
  have HX := Lib.hid (hx.kept al)
  have K0 := Lib.hid (Blk.new w 92 #[.slice g n c])
  have HP := Lib.hid hp
  cases hv : vMod ps with
  | false =>
    have HV := Lib.hid (vStages_no (ps := ps) (z := z) (.inl hv))
    have HM := Lib.hid hv
    clear al h hx hp hv hln hlp
    go_enter Try.func62, Try.ntmps62
    go_upto_region 1 with fail
    generalize w.alloc (.cells #[.slice g n c] 92) = w0 at B0 H0 HX K0 ⊢
    obtain ⟨p0, pl⟩ := tb1 K0.out
    go_wp2_with (go_at_call 109; refine (c_l03Is w.heap.size 0 g c n y false (by rw [HP.out]; exact HM.out) _ p0 H0.out).mono ?_; rintro e w2 ⟨rfl, dn⟩; have B2 := Lib.hid (Below.next B0.out dn.below); clear dn)
    go_ret2
    rw [HV.out]
    exact retSS_no B2.out
  | true =>
    have h6 := mod_len hv
    obtain ⟨p, hp0⟩ : ∃ p, ps[0]? = some p := ⟨_, List.getElem?_eq_getElem (by omega)⟩
    have HPI := Lib.hid (show (y.map LayA.p)[0]? = some p by rw [hp]; exact hp0)
    have hgi := goesIn_at (m := z.length) hp0
    by_cases hz : (z.length : Int) = p.i
    case neg =>
      have HV := Lib.hid (vStages_no (ps := ps) (z := z) (.inr (by rw [hgi]; simpa using hz)))
      have HM := Lib.hid hv
      obtain ⟨pi, hpi⟩ : ∃ q, p.i = q := ⟨_, rfl⟩
      have HPP := Lib.hid hpi
      rw [hpi] at hz
      have hne : ((z.length : Int) != pi) = true := by simpa using hz
      clear al h hx hp hv hln hlp h6 hp0 hgi hz hpi
      go_enter Try.func62, Try.ntmps62
      go_upto_region 1 with fail
      generalize w.alloc (.cells #[.slice g n c] 92) = w0 at B0 H0 HX K0 ⊢
      obtain ⟨p0, pl⟩ := tb1 K0.out
      go_wp2_with (first | (go_at_call 109; refine (c_l03Is w.heap.size 0 g c n y true (by rw [HP.out]; exact HM.out) _ p0 H0.out).mono ?_; rintro e w2 ⟨rfl, dn⟩; have B2 := Lib.hid (Below.next B0.out dn.below); have K2 := Lib.hid (K0.out.below dn.below); have H2 := Lib.hid (H0.out.kept dn.below); clear dn p0 pl; obtain ⟨p0, pl⟩ := tb1 K2.out) | (go_at_call 124; refine (c_l03In w.heap.size 0 g c n y p _ p0 H2.out HPI.out).mono ?_; rintro e w3 ⟨rfl, rfl⟩; rw [HPP.out]))
      go_ret2
      rw [HV.out]
      exact retSS_no B2.out
    case pos =>
      have HV := Lib.hid (vStages_yes hv (by rw [hgi]; simpa using hz))
      have HM := Lib.hid hv
      have HSL := Lib.hid (fun j q hq => stage_len hv hp0 hz j q hq)
      have n6 : (n : Int) ≤ 6 := by omega
      obtain ⟨pi, hpi⟩ : ∃ q, p.i = q := ⟨_, rfl⟩
      have HPP := Lib.hid hpi
      rw [hpi] at hz
      have hne : ((z.length : Int) != pi) = false := by simpa using hz
      obtain ⟨j0, ji, jz0, jz1, jz2⟩ := info_parts info_ssP
      have JI := Lib.hid ji
      have JZ0 := Lib.hid jz0
      have JZ1 := Lib.hid jz1
      have JZ2 := Lib.hid jz2
      clear al h hx hp hv hln hlp h6 hp0 hgi hz hpi ji jz0 jz1 jz2
      go_enter Try.func62, Try.ntmps62
      go_upto_region 1 with fail
      generalize w.alloc (.cells #[.slice g n c] 92) = w0 at B0 H0 HX K0 ⊢
      obtain ⟨p0, pl⟩ := tb1 K0.out
      go_wp2_with (first | (go_at_call 109; refine (c_l03Is w.heap.size 0 g c n y true (by rw [HP.out]; exact HM.out) _ p0 H0.out).mono ?_; rintro e w2 ⟨rfl, dn⟩; have B2 := Lib.hid (Below.next B0.out dn.below); have K2 := Lib.hid (K0.out.below dn.below); have H2 := Lib.hid (H0.out.kept dn.below); have HX2 := Lib.hid (HX.out.kept dn.below); clear dn p0 pl; obtain ⟨p0, pl⟩ := tb1 K2.out) | (go_at_call 124; refine (c_l03In w.heap.size 0 g c n y p _ p0 H2.out HPI.out).mono ?_; rintro e w3 ⟨rfl, rfl⟩; rw [HPP.out]))
      clear p0 pl
      go_loopw [1, 6, 7] (fun xv sv iv wr => StgRel ps z n w2 xv sv iv wr) (fun _ _ iv _ => n - (intOf iv).toNat)
      case atStart =>
        have al2 := (Below.refl w2.heap.size w2).alloc (Nat.le_refl _) (.cells #[] 50)
        exact ⟨0, x, cx, z, _, 0, [], Nat.zero_le _, rfl, rfl, HX2.out.kept al2, rfl, rfl, rfl, (ss_made w2).1, (ss_made w2).2, rfl, (fun _ h => by cases h), al2⟩
      case round =>
        obtain ⟨j, xa, xc, xz, gs, cp, ys, hj, rfl, rfl, hxf, hxz, rfl, hyl, ho, hnd, hyz, hlast, hb⟩ := hrel
        have HXF := Lib.hid hxf
        have HXZ := Lib.hid hxz
        have HYL := Lib.hid hyl
        have HO := Lib.hid ho
        have HND := Lib.hid hnd
        have HYZ := Lib.hid hyz
        have HB := Lib.hid hb
        have hj0 : (0 : Int) ≤ (j : Int) := by omega
        obtain ⟨p0, pl⟩ := tb1 (K2.out.below hb)
        clear hxf hxz hyl ho hnd hyz hb hlast
        by_cases hlt : j < n
        · have hlt' : (j : Int) < (n : Int) := by omega
          obtain ⟨b, off, k, ii, oo, ws, bs, a0, c0, a1, c1, rfl, hbk, hx, q0, q1, q2, q3, q4, f0, f1⟩ := (H2.out.kept HB.out).one hlt
          have hx' := at_map hx
          rw [HP.out] at hx'
          have hone := mod_one HM.out hx'
          have hsl := HSL.out j _ hx'
          have HSV := Lib.hid (stageV_succ (z := z) hx')
          unfold vOne at hone
          dsimp only at hone hsl
          obtain ⟨i', o', hi, ho', h1, h2, _⟩ := lay_nat hone
          subst hi; subst ho'
          have HLP2 := Lib.hid (show LayPtr wr b (off + j * 5) k i' o' a0 a1 ws.length bs.length c0 c1 from ⟨hbk, q0, q1, q2, q3, q4⟩)
          have F0 := Lib.hid f0
          have F1 := Lib.hid f1
          have HONE := Lib.hid hone
          have HXL := Lib.hid (show xz.length = i' by have e := congrArg List.length HXZ.out; rw [List.length_map] at e; omega)
          have HI8 := Lib.hid h1
          have A1 := Lib.hid (show ys.length + 1 ≤ maxLen by have := HYL.out; unfold maxLen; omega)
          have A2 := Lib.hid (show (ys.length + 1) * 24 ≤ 140737488355328 by have := HYL.out; omega)
          clear f0 f1 hx hx' hone hsl q0 q1 q2 q3 q4
          go_wp2_with fail
          refine (c_l03Run b (off + j * 5) k i' o' a0 a1 xa c0 c1 xc ws bs xz _ HONE.out HLP2.out F0.out F1.out HXF.out HXL.out).mono ?_
          rintro e w4 ⟨a4, c4, zs, rfl, ho4, he4, hb4⟩
          have BW2 := Lib.hid hb4
          have HE4 := Lib.hid (show zs.map (canon .f32) = stageV ps z (j + 1) by
            rw [he4, HSV.out, ← HXZ.out, runV_can]
            rfl)
          have O4 := Lib.hid ho4
          have HZ8 := Lib.hid (show zs.length ≤ 1048576 by
            have e := congrArg List.length he4
            rw [List.length_map, runV_len HONE.out HXL.out] at e
            omega)
          clear ho4 he4 hb4
          go_wp2_with fail
          refine (c_l02Own a4 zs.length c4 zs _ O4.out.isFloats HZ8.out).mono ?_
          rintro e w5 ⟨a5, c5, rfl, ho5, hb5⟩
          have BW3 := Lib.hid (Below.next BW2.out hb5)
          have O5 := Lib.hid (show OwnF w5 wr.heap.size a5 c5 zs from ho5.base BW2.out.size)
          have O4' := Lib.hid (O4.out.kept hb5)
          have HRA := Lib.hid (ss_row HO.out BW3.out (.slice a5 zs.length c5))
          have A3 := Lib.hid (ss_base HB.out BW3.out (.slice a5 zs.length c5))
          clear ho5 hb5
          go_wp2_with (at_builtin; refine wpList_append_any _ rfl (.tmp 30) (.tmp 33) 48 rfl w2.heap.size 50 j0 (.slice none 0 0) 1 24 Try.underlying48 JI.out JZ0.out JZ1.out JZ2.out rfl Nat.one_pos (.slice gs ys.length cp) ys.length (ys.map FlA.v) rfl HRA.out (w5.heap.size + 1) (some ⟨w5.heap.size, 0, none⟩) 1 1 [.slice a5 zs.length c5] rfl ss_reads (one_ss _ _ _) A1.out A2.out A3.out ?_; intro v' w' hown hgr hat; obtain ⟨a', c', rfl⟩ := ownsRow_slice hown; have HMD := Lib.hid (ss_push (x := ⟨zs, a5, c5⟩) HO.out HND.out HB.out BW3.out O5.out hown hgr hat); have HSD := Lib.hid (ss_side HO.out HB.out BW3.out O4'.out hgr); clear hown hgr hat)
          go_roundw
          case rel =>
            obtain ⟨m1, m2, m3, m4⟩ := HMD.out
            refine ⟨j + 1, a4, c4, zs, a', c', ys ++ [⟨zs, a5, c5⟩], hlt, by go_num, rfl, HSD.out.isFloats, HE4.out, by simp, by simp [HYL.out], m1, m2, ?_, ?_, m3⟩
            · rw [List.map_append, HYZ.out, List.range_succ, List.map_append]
              simp [HE4.out]
            · intro x hx
              simp at hx
              subst hx
              rfl
          case measure => simp [intOf]; omega
        · obtain rfl : j = n := by omega
          go_wp2_with fail
          go_ret2
          rw [HV.out]
          exact ⟨gs, cp, ys, rfl, OwnL.base B2.out.size _ HO.out, HND.out, by rw [HYZ.out, HLP.out], Below.next B2.out HB.out⟩
end Go.Proofs.Ytnkmgeiehhonkaa
