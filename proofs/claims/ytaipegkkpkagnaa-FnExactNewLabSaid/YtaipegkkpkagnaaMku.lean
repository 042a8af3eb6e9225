/-
  Marks of states of trainings of any size that a law draws. Conditions: the lists are the call's own, each once.
-/
import Derived.Test.YtaipegkkpkagnaaMkT
import Derived.Test.YtaipegkkpkagnaaSmn
namespace Go.Proofs.Ytaipegkkpkagnaa
open Go.RowKit Go.Deep Go.WideShapes Go.ChangeShapes
set_option linter.unusedVariables false

theorem cntTrs_le (q : TrsA) : cntTrs q ≤ 3 * trsSum q := by
  simp only [cntTrs, cntLays, trsSum]
  omega
theorem trsSum_parts {q : TrsA} (h : trsSum q ≤ 1048576) : laySum (q.ls.map LayA.p) ≤ 1048576 ∧ q.ss.length ≤ 1048576 ∧ cntSS q.ss ≤ 1048576 := by
  simp only [trsSum] at h
  omega
theorem cntSS_zs (ls : List FlA) : cntSS ls = ((ls.map FlA.z).map List.length).sum := by simp [cntSS, Function.comp_def]
theorem cntTrs_of {r q : TrsA} (h : TrsEq r q) : cntTrs r = cntTrs q := by
  obtain ⟨h1, h2, _⟩ := h
  have e1 : r.ls.map LayA.p = q.ls.map LayA.p := h1
  have e2 : r.ss.map FlA.z = q.ss.map FlA.z := h2
  have e3 : r.ls.length = q.ls.length := by simpa using congrArg List.length e1
  simp only [cntTrs, cntLays, cntSS_zs, e1, e2, e3]
theorem trsSum_of {r q : TrsA} (h : TrsEq r q) : trsSum r = trsSum q := by
  obtain ⟨h1, h2, _⟩ := h
  have e1 : r.ls.map LayA.p = q.ls.map LayA.p := h1
  have e2 : r.ss.map FlA.z = q.ss.map FlA.z := h2
  have e3 : r.ls.length = q.ls.length := by simpa using congrArg List.length e1
  have e4 : r.ss.length = q.ss.length := by simpa using congrArg List.length e2
  simp only [trsSum, cntSS_zs, e1, e2, e3, e4]
theorem c_toTrsN (q : TrsA) (w : World) (h : TrsAt w q) (hl : trsSum q ≤ 1048576) :
    Calls Try.prog 63 #[.agg q.cells] w fun e w' => ∃ r : TrsA, e = .returned (.agg r.cells) ∧ TrsEq r q ∧ OwnL w' w.heap.size [lsC 113 r, slC 25 r] ∧ r.sc < 2 ^ 32 ∧ r.bl.Nodup ∧ Below w.heap.size w w' :=
  (c_toTrs q w h hl).mono fun e w' ⟨r, he, h1, h2, h3, h4, h5, ho, hnd, hb⟩ => ⟨r, he, ⟨h1, h2, h3, h4, h5⟩, ho.1, ho.2, hnd, hb⟩
set_option maxRecDepth 20000 in
set_option maxHeartbeats 4000000 in
theorem c_markSSW (gs : Option Addr) (cap n k m B : Nat) (ls : List FlA) (w : World) (hn : ls.length = n) (ho : OwnL w B [.sl 25 1 n gs cap (ssC ls)]) (hnd : (blL [.sl 25 1 n gs cap (ssC ls)]).Nodup)
    (hm : k + cntSS ls = m) (hm2 : m ≤ 4194304) (hcs : cntSS ls ≤ 1048576) (hnm : n ≤ 1048576) :
    Calls Try.prog 140 #[.slice gs n cap, .int .i64 k] w fun e w' => e = .returned (.int .i64 (m : Int)) ∧ OwnL w' B [.sl 25 1 n gs cap (ssC (mkSS k ls))] ∧ GrownIn w w' (blL [.sl 25 1 n gs cap (ssC ls)]) := by
  have hrow := ho.1.1
  have hown := ho.1.2
  rw [vs_ssC] at hrow
  simp only [blL, Cl.bl, List.append_nil] at hnd ⊢
  have HN := Lib.hid hn
  have HR := Lib.hid hrow
  have HO := Lib.hid hown
  have HD := Lib.hid hnd
  have HM := Lib.hid hm
  have HM2 := Lib.hid hm2
  have HCS := Lib.hid hcs
  clear hn hrow hown hnd hm hm2 hcs ho
  go_enter Try.func140, Try.ntmps140
  go_wp2
  go_loopw [1, 5] (fun kv iv wr => MkSSRel gs cap n k B ls w kv iv wr) (fun _ iv _ => n - (intOf iv).toNat)
  case atStart => exact ⟨[], ls, rfl, rfl, by simp [cntSS], HR.out, by simp [mkSS, ssC, OwnL], HO.out, GrownIn.refl _ _⟩
  case round =>
    obtain ⟨pre, post, rfl, rfl, rfl, hrow, hpre, hpost, hg⟩ := hrel
    have HRW := Lib.hid hrow
    have HPR := Lib.hid hpre
    have HPO := Lib.hid hpost
    have HG := Lib.hid hg
    obtain ⟨j, hj⟩ : ∃ j, pre.length = j := ⟨_, rfl⟩
    have HJ := Lib.hid hj
    rw [hj]
    have hnl := HN.out
    rw [List.length_append, hj] at hnl
    have hjn : j ≤ n := by omega
    obtain ⟨kk, hkk⟩ : ∃ kk, k + cntSS pre = kk := ⟨_, rfl⟩
    have HKK := Lib.hid hkk
    rw [hkk]
    clear hrow hpre hpost hg hj
    by_cases hlt : j < n
    · cases post with
      | nil => simp at hnl; omega
      | cons x post =>
        obtain ⟨z, a, c⟩ := x
        have hcm := HM.out
        rw [cntSS_append, cntSS_cons] at hcm
        dsimp only at hcm
        have hlt' : (j : Int) < (n : Int) := by omega
        obtain ⟨g, rfl⟩ : ∃ g, gs = some ⟨g, 0, none⟩ := by
          rcases HRW.out.2 with ⟨hv, h0⟩ | ⟨g, c, cur, hv, _⟩
          · omega
          · simp only [Value.slice.injEq] at hv; exact ⟨g, hv.1⟩
        have hcell : wr.cell? ⟨g, j, none⟩ = some (.slice a z.length c) := by
          rw [HRW.out.cellAt j (by omega), List.map_append, List.getElem?_append_right (by rw [List.length_map, HJ.out]; omega), List.length_map, HJ.out, Nat.sub_self]
          rfl
        have hpo := HPO.out
        rw [ssC_own] at hpo
        have HX := Lib.hid (hpo ⟨z, a, c⟩ (List.mem_cons_self ..))
        have HPP := Lib.hid (ssC_own.2 fun y hy => hpo y (List.mem_cons_of_mem _ hy))
        have hd := HD.out
        rw [ssC_append, blL_append, blL_cl] at hd
        have HDD := Lib.hid (dis_SS hd)
        obtain ⟨kn, hkn⟩ : ∃ kn, kk + z.length = kn := ⟨_, rfl⟩
        have HKN := Lib.hid hkn
        have hk4 : kk ≤ 4194304 := by have := HM2.out; omega
        have hzl : z.length ≤ 1048576 := by have h := HCS.out; rw [cntSS_append, cntSS_cons] at h; dsimp only at h; omega
        have HZL := Lib.hid hzl
        have HK4 := Lib.hid hk4
        have hk40 : (kk : Int) ≤ 4194304 := by omega
        have hkn0 : (kn : Int) ≤ 4194304 := by have := HM2.out; omega
        clear hpo hd hnl hcm hkn hk4 hzl
        go_wp2_with fail
        refine (c_markFloats' a c B kk kn z _ HX.out HKN.out HK4.out HZL.out).mono ?_
        rintro e w2 ⟨rfl, ho, hg⟩
        have G := Lib.hid (GrownIn.of_grown hg)
        have OX := Lib.hid ho
        have RW2 := Lib.hid (ownsRow_in HRW.out G.out (fun q h1 h2 => HDD.out.1 q h2 h1))
        have PR2 := Lib.hid (OwnL.apart G.out _ HPR.out (by rw [bl_mkSS]; exact fun q h1 h2 => HDD.out.2.1 q h2 h1))
        have PO2 := Lib.hid (OwnL.apart G.out _ HPP.out (fun q h1 h2 => HDD.out.2.2 q h2 h1))
        clear ho hg hcell
        go_wp2_with fail
        go_roundw
        case rel =>
          refine ⟨pre ++ [⟨z, a, c⟩], post, by simp, by rw [List.length_append, HJ.out]; go_num, ?_, RW2.out, ?_, PO2.out, HG.out.trans (G.out.mono ?_)⟩
          · have := HKN.out; have := HKK.out
            rw [cntSS_append, cntSS_cons]
            simp only [cntSS, List.map_nil, List.sum_nil] at *
            congr 2
            omega
          · rw [mkSS_append, HKK.out, ssC_append, OwnL_append]
            refine ⟨PR2.out, ?_⟩
            simp only [mkSS, ssC_cons, OwnL, FlA.cl, flC_own]
            exact ⟨OX.out, by simp [ssC, OwnL]⟩
          · intro q hq
            rw [ssC_append, blL_append, blL_cl]
            simp only [List.mem_append]
            exact .inr (.inl hq)
        case measure => simp [intOf]; omega
    · have hz : post = [] := List.eq_nil_of_length_eq_zero (by omega)
      subst hz
      obtain rfl : j = n := by omega
      have hfin : (kk : Int) = (m : Int) := by
        have h1 := HKK.out; have h2 := HM.out
        rw [List.append_nil] at h2
        omega
      go_wp2_with fail
      go_ret
      refine ⟨ret_i hfin, ?_, HG.out.mono fun q hq => List.mem_append_right _ hq⟩
      simp only [OwnL, Cl.Own, and_true, List.append_nil, vs_ssC, mkSS_v]
      exact ⟨by simpa using HRW.out, HPR.out⟩
set_option maxHeartbeats 2000000 in
theorem c_markTrsW (q : TrsA) (B k m : Nat) (w : World) (ho : TrsOwn w B q) (hnd : q.bl.Nodup) (hm : k + cntTrs q = m) (hm4 : m ≤ 4194304) (hcs : cntSS q.ss ≤ 1048576) (hsz : laySum (q.ls.map LayA.p) ≤ 1048576) (hsl : q.ss.length ≤ 1048576) :
    Calls Try.prog 73 #[.agg q.cells, .int .i64 k] w fun e w' => e = .returned (.int .i64 (m : Int)) ∧ TrsOwn w' B (mkTrs k q) ∧ GrownIn w w' q.bl := by
  have hd : (blL [lsC 113 q] ++ blL [slC 25 q]).Nodup := by simpa only [TrsA.bl, blL, List.append_nil] using hnd
  have hbl : q.bl = blL [lsC 113 q] ++ blL [slC 25 q] := by simp only [TrsA.bl, blL, List.append_nil]
  obtain ⟨d1, d2, d3⟩ := List.nodup_append.1 hd
  have O1 := Lib.hid ho.layers
  have O2 := Lib.hid ho.slots
  have O3 := Lib.hid ho.2
  have HBL := Lib.hid hbl
  clear ho hnd hd hbl
  obtain ⟨g, c, ls, g', c', ss, st, sd, sc⟩ := q
  unfold TrsA.cells
  simp only [cntTrs] at hm
  simp only [lsC, slC] at O1 O2 d1 d2 d3 HBL
  simp only at hsz hsl hcs O3 ⊢
  obtain ⟨u, hu⟩ : ∃ u, k + cntLays ls = u := ⟨_, rfl⟩
  have HM1 := Lib.hid (fun W (h : OwnL W B [.sl 113 5 ls.length g c (laysC ls)]) => c_markMod g c ls.length k u B ls W rfl h d1 hu (by omega) hsz)
  have HM2 := Lib.hid (fun W (h : OwnL W B [.sl 25 1 ss.length g' c' (ssC ss)]) => c_markSSW g' c' ss.length u m B ss W rfl h d2 (by omega) hm4 hcs hsl)
  have D12 := Lib.hid (fun x (hx : x ∈ blL [Cl.sl 25 1 ss.length g' c' (ssC ss)]) (hy : x ∈ blL [Cl.sl 113 5 ls.length g c (laysC ls)]) => d3 x hy x hx rfl)
  have HU := Lib.hid hu
  have hl1 : (mkLays k ls).length = ls.length := mkLays_length k ls
  have HL1 := Lib.hid hl1
  have K := Lib.hid (Blk.new w 48 #[.slice g ls.length c, .slice g' ss.length c', .int .i64 st, .int .i64 sd, .float .f32 sc])
  have al := (Below.refl w.heap.size w).alloc (Nat.le_refl _) (.cells #[.slice g ls.length c, .slice g' ss.length c', .int .i64 st, .int .i64 sd, .float .f32 sc] 48)
  have P1 := Lib.hid (OwnL.kept O1.out al)
  have P2 := Lib.hid (OwnL.kept O2.out al)
  have LT := Lib.hid (OwnL.lt _ O1.out)
  have G := Lib.hid (GrownIn.of_below al (TrsA.bl ⟨g, c, ls, g', c', ss, st, sd, sc⟩))
  clear hm hu d1 d2 d3 hl1 al hm4 hsz hsl hcs
  go_enter Try.func73, Try.ntmps73
  go_wp2_with fail
  generalize w.alloc (.cells #[.slice g ls.length c, .slice g' ss.length c', .int .i64 st, .int .i64 sd, .float .f32 sc] 48) = w1 at K P1 P2 G ⊢
  refine (HM1.out _ P1.out).mono ?_
  rintro e w2 ⟨rfl, ho, hg⟩
  have Q1 := Lib.hid ho
  have Q2 := Lib.hid (OwnL.apart hg _ P2.out D12.out)
  have K2 := Lib.hid (K.out.inn hg (fun hx => by have := (LT.out _ hx).2; omega))
  have G2 := Lib.hid (G.out.trans (hg.mono fun x hx => by rw [HBL.out]; exact List.mem_append_left _ hx))
  clear ho hg K P1 P2 G
  obtain ⟨p0, p1, p2, p3, p4, p5⟩ := tbt5 K2.out
  go_wp2_with fail
  refine (HM2.out _ Q2.out).mono ?_
  rintro e w3 ⟨rfl, ho, hg⟩
  have R1 := Lib.hid (OwnL.apart hg _ Q1.out (fun x hx hy => by
    have hb : blL [Cl.sl 113 5 ls.length g c (laysC (mkLays k ls))] = blL [Cl.sl 113 5 ls.length g c (laysC ls)] := by simp only [blL, Cl.bl, bl_mkLays]
    rw [hb] at hx
    exact D12.out x hy hx))
  have R2 := Lib.hid ho
  have G3 := Lib.hid (G2.out.trans (hg.mono fun x hx => by rw [HBL.out]; exact List.mem_append_right _ hx))
  clear ho hg p0 p1 p2 p3 p4 p5
  go_wp2_with fail
  go_ret
  refine ⟨rfl, ⟨⟨?_, ?_⟩, O3.out⟩, G3.out⟩
  · have h1 := R1.out
    simp only [OwnL, and_true] at h1
    simp only [lsC, mkTrs, HL1.out]
    exact h1
  · have h1 := R2.out
    simp only [OwnL, and_true] at h1
    simp only [slC, mkTrs, mkSS_length, HU.out, OwnL, and_true]
    exact h1
theorem c_markTrsX (q r : TrsA) (B k m : Nat) (w : World) (he : TrsEq r q) (ho : OwnL w B [lsC 113 r, slC 25 r]) (hs : r.sc < 2 ^ 32) (hnd : r.bl.Nodup) (hm : k + cntTrs q = m) (hm4 : m ≤ 4194304) (hsz : trsSum q ≤ 1048576) :
    Calls Try.prog 73 #[.agg r.cells, .int .i64 k] w fun e w' => e = .returned (.int .i64 (m : Int)) ∧ TrsOwn w' B (mkTrs k r) ∧ GrownIn w w' r.bl := by
  have h := trsSum_parts (q := r) (by rw [trsSum_of he]; exact hsz)
  exact c_markTrsW r B k m w ⟨ho, hs⟩ hnd (by rw [cntTrs_of he]; exact hm) hm4 h.2.2 h.1 h.2.1
end Go.Proofs.Ytaipegkkpkagnaa
