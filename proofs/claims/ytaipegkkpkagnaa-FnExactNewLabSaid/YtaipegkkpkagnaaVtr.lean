/-
  Which states of trainings are valid for an optimiser: the model and the program. Conditions: the cells can be read, the kind is an int64.
-/
import Derived.Test.YtaipegkkpkagnaaFit
import Derived.Test.YtaipegkkpkagnaaTrs
import Derived.Test.YtaipegkkpkagnaaTPar
import Derived.Test.YtaipegkkpkagnaaBai
namespace Go.Proofs.Ytaipegkkpkagnaa
open Go.RowKit Go.Deep Go.WideShapes Go.ChangeShapes Go.Maps
set_option linter.unusedVariables false
attribute [local go_sem] World.drewN_zero

def vTrs (k : Int) (q : TrsA) : Bool := isKind k && (vMod q.ps && (isStepV q.st && (isSeedV q.sd && (decide (laySum q.ps ≤ 256) && fitS k q.ss ((laySum q.ps : Nat) : Int)))))
set_option maxRecDepth 20000 in
set_option maxHeartbeats 4000000 in
theorem c_l07Is (go gt : Nat) (k : Int) (q : TrsA) (w : World) (h : TrsAt w q) (hk : w.cell? ⟨go, 0, none⟩ = some (.int .i64 k)) (K : Blk w gt 48 q.cells) :
    Calls Try.prog 126 #[.pointer (some ⟨go, 0, none⟩), .pointer (some ⟨gt, 0, none⟩)] w fun e w' => e = .returned (.bool (vTrs k q)) ∧ Below w.heap.size w w' := by
  obtain ⟨g, c, ls, g', c', ss, st, sd, sc⟩ := q
  simp only [TrsAt] at h
  obtain ⟨a1, a2, _⟩ := h
  unfold TrsA.cells at K
  simp only at K
  have HGO := Lib.hid (cell_block hk)
  have HKC := Lib.hid hk
  obtain ⟨v, hv⟩ : ∃ v, vTrs k ⟨g, c, ls, g', c', ss, st, sd, sc⟩ = v := ⟨_, rfl⟩
  have HV := Lib.hid (show (isKind k && (vMod (ls.map LayA.p) && (isStepV st && (isSeedV sd && (decide (laySum (ls.map LayA.p) ≤ 256) && fitS k ss ((laySum (ls.map LayA.p) : Nat) : Int)))))) = v from hv)
  rw [hv]
  clear hv
  obtain ⟨n, hn⟩ : ∃ n, ls.length = n := ⟨_, rfl⟩
  obtain ⟨m, hm⟩ : ∃ m, ss.length = m := ⟨_, rfl⟩
  have HN := Lib.hid hn
  rw [hn] at K a1
  rw [hm] at K a2
  obtain ⟨u1, h1⟩ : ∃ u, isKind k = u := ⟨_, rfl⟩
  obtain ⟨u2, h2⟩ : ∃ u, vMod (ls.map LayA.p) = u := ⟨_, rfl⟩
  obtain ⟨u3, h3⟩ : ∃ u, isStepV st = u := ⟨_, rfl⟩
  obtain ⟨u4, h4⟩ : ∃ u, isSeedV sd = u := ⟨_, rfl⟩
  have HK := fun W h => c_l05Is go k W h
  have HM := Lib.hid (fun W (hb : Below w.heap.size w W) hq => c_l03Is gt 0 g c n ls u2 h2 W hq (a1.kept hb))
  have HI := Lib.hid (fun W => c_l00In st 0 1000 u3 h3 W)
  have HS := fun W => c_l07Seed sd W
  have HF := Lib.hid (fun N W (hb : Below w.heap.size w W) h => c_l05Fit go k N g' m c' ss W (a2.kept hb) h)
  have HVM := Lib.hid h2
  simp only [h1] at HK
  simp only [h4] at HS
  rw [h1, h2, h3, h4] at HV
  have HK' := Lib.hid HK
  have HS' := Lib.hid HS
  have A1 := Lib.hid a1
  have KK := Lib.hid K
  clear h1 h2 h3 h4 HK HS hn hm a1 a2 K
  cases u1 with
  | false =>
    have HE := Lib.hid (show false = v from HV.out)
    go_enter Try.func126, Try.ntmps126
    go_wp2_with fail
    refine (HK'.out _ hk).mono ?_
    rintro e w2 ⟨rfl, rfl⟩
    go_wp2_with fail
    go_ret
    exact ⟨ret_b HE.out, Below.refl _ _⟩
  | true =>
  obtain ⟨p0, p1, p2, p3, p4, p5⟩ := tbt5 KK.out
  cases u2 with
  | false =>
    have HE := Lib.hid (show false = v from HV.out)
    go_enter Try.func126, Try.ntmps126
    go_wp2_with fail
    refine (HK'.out _ hk).mono ?_
    rintro e w2 ⟨rfl, rfl⟩
    go_wp2_with fail
    refine (HM.out _ (Below.refl _ _) p0).mono ?_
    rintro e w2 ⟨rfl, dn⟩
    have B2 := Lib.hid dn.below
    clear dn
    go_wp2_with fail
    go_ret
    exact ⟨ret_b HE.out, B2.out⟩
  | true =>
  cases u3 with
  | false =>
    have HE := Lib.hid (show false = v from HV.out)
    go_enter Try.func126, Try.ntmps126
    go_wp2_with fail
    refine (HK'.out _ hk).mono ?_
    rintro e w2 ⟨rfl, rfl⟩
    go_wp2_with fail
    refine (HM.out _ (Below.refl _ _) p0).mono ?_
    rintro e w2 ⟨rfl, dn⟩
    have B2 := Lib.hid dn.below
    clear dn p0 p1 p2 p3 p4 p5
    obtain ⟨p0, p1, p2, p3, p4, p5⟩ := tbt5 (KK.out.below B2.out)
    go_wp2_with fail
    refine (HI.out _).mono ?_
    rintro e w3 ⟨rfl, rfl⟩
    go_wp2_with fail
    go_ret
    exact ⟨ret_b HE.out, B2.out⟩
  | true =>
  cases u4 with
  | false =>
    have HE := Lib.hid (show false = v from HV.out)
    go_enter Try.func126, Try.ntmps126
    go_wp2_with fail
    refine (HK'.out _ hk).mono ?_
    rintro e w2 ⟨rfl, rfl⟩
    go_wp2_with fail
    refine (HM.out _ (Below.refl _ _) p0).mono ?_
    rintro e w2 ⟨rfl, dn⟩
    have B2 := Lib.hid dn.below
    clear dn p0 p1 p2 p3 p4 p5
    obtain ⟨p0, p1, p2, p3, p4, p5⟩ := tbt5 (KK.out.below B2.out)
    go_wp2_with fail
    refine (HI.out _).mono ?_
    rintro e w3 ⟨rfl, rfl⟩
    go_wp2_with fail
    refine (HS'.out _).mono ?_
    rintro e w3 ⟨rfl, rfl⟩
    go_wp2_with fail
    go_ret
    exact ⟨ret_b HE.out, B2.out⟩
  | true =>
    obtain ⟨v1, v2, v3⟩ := vMod_parts HVM.out
    have hn6 : n ≤ 6 := by rw [← HN.out]; simpa using v2
    have HPL := Lib.hid (parOf_length (ls.map LayA.p))
    have HP := Lib.hid (fun W (hb : Below w.heap.size w W) hgp hq => c_l03Params gt 0 g c n ls W hgp hq (A1.out.kept hb) v3 hn6)
    obtain ⟨N, hN⟩ : ∃ N, laySum (ls.map LayA.p) = N := ⟨_, rfl⟩
    rw [hN] at HPL HV v3
    clear v1 v2 hN
    obtain ⟨Z, hZ⟩ : ∃ Z, parOf (ls.map LayA.p) = Z := ⟨_, rfl⟩
    rw [hZ] at HP HPL
    clear hZ hn6
    obtain ⟨zl, hzl⟩ : ∃ l, Z.length = l := ⟨_, rfl⟩
    have HZL := Lib.hid hzl
    have HZN := Lib.hid (show zl = N by rw [← hzl]; exact HPL.out)
    have hz4 : zl ≤ 432 := by have := HZN.out; omega
    clear hzl HPL v3
    go_enter Try.func126, Try.ntmps126
    go_wp2_with fail
    refine (HK'.out _ hk).mono ?_
    rintro e w2 ⟨rfl, rfl⟩
    go_wp2_with fail
    refine (HM.out _ (Below.refl _ _) p0).mono ?_
    rintro e w2 ⟨rfl, dn⟩
    have B2 := Lib.hid dn.below
    clear dn p0 p1 p2 p3 p4 p5
    obtain ⟨p0, p1, p2, p3, p4, p5⟩ := tbt5 (KK.out.below B2.out)
    go_wp2_with fail
    refine (HI.out _).mono ?_
    rintro e w3 ⟨rfl, rfl⟩
    go_wp2_with fail
    refine (HS'.out _).mono ?_
    rintro e w3 ⟨rfl, rfl⟩
    go_wp2_with fail
    refine (HP.out _ B2.out p5 p0).mono ?_
    rintro e w4 ⟨za, zc, rfl, ho, hb⟩
    have B4 := Lib.hid (Below.next B2.out hb)
    clear hb ho p0 p1 p2 p3 p4 p5
    rw [HZL.out]
    obtain ⟨p0, p1, p2, p3, p4, p5⟩ := tbt5 (KK.out.below B4.out)
    have hk4 := (B4.out.cell (p := ⟨go, 0, none⟩) HGO.out).trans HKC.out
    by_cases h256 : zl ≤ 256
    · have hz2 : (zl : Int) ≤ 256 := by omega
      have HE := Lib.hid (show fitS k ss ((zl : Nat) : Int) = v by have h1 := HV.out; rw [← HZN.out, decide_eq_true h256] at h1; simpa using h1)
      clear h256
      go_wp2_with fail
      refine (HF.out _ _ B4.out hk4).mono ?_
      rintro e w5 ⟨rfl, rfl⟩
      go_wp2_with fail
      go_ret
      exact ⟨ret_b HE.out, B4.out⟩
    · have HE := Lib.hid (show false = v by have h1 := HV.out; rw [← HZN.out, decide_eq_false h256] at h1; simpa using h1)
      have hz2 : decide ((zl : Int) ≤ 256) = false := decide_eq_false (by omega)
      clear h256
      go_wp2_with fail
      go_ret
      exact ⟨ret_b HE.out, B4.out⟩
set_option maxRecDepth 20000 in
set_option maxHeartbeats 4000000 in
theorem t_iValidTraining (k : Int) (r b1 b2 ep : Nat) (q : TrsA) (w : World) (h : TrsAt w q) (wk : (Lit.int .i64 k).wf = true) : Calls Try.prog 65 #[optV k r b1 b2 ep, .agg q.cells] w (RetB (vTrs k q) w) := by
  obtain ⟨g, c, ls, g', c', ss, st, sd, sc⟩ := q
  simp only [TrsAt] at h
  obtain ⟨a1, a2, _⟩ := h
  unfold TrsA.cells
  simp only
  have bb := ((Below.refl w.heap.size w).alloc (Nat.le_refl _) (.cells #[.int .i64 k, .float .f32 r, .float .f32 b1, .float .f32 b2, .float .f32 ep] 40)).alloc (by simp) (.cells #[.slice g ls.length c, .slice g' ss.length c', .int .i64 st, .int .i64 sd, .float .f32 sc] 48)
  have k2 := Blk.new (w.alloc (.cells #[.int .i64 k, .float .f32 r, .float .f32 b1, .float .f32 b2, .float .f32 ep] 40)) 48 #[.slice g ls.length c, .slice g' ss.length c', .int .i64 st, .int .i64 sd, .float .f32 sc]
  simp only [World.size_alloc] at k2
  have HV := Lib.hid (show vTrs k ⟨g, c, ls, g', c', ss, st, sd, sc⟩ = (isKind k && (vMod (ls.map LayA.p) && (isStepV st && (isSeedV sd && (decide (laySum (ls.map LayA.p) ≤ 256) && fitS k ss ((laySum (ls.map LayA.p) : Nat) : Int)))))) from rfl)
  rw [HV.out]
  clear HV
  have HK := fun W => c_stepKindOf k r b1 b2 ep W wk
  have HP := fun W (hb : Below w.heap.size w W) => t_iCountParams (ls.map LayA.p) ls.length g c ls W rfl (a1.kept hb)
  have HF := fun N W (hb : Below w.heap.size w W) (hkk : isKind k = true) => c_areSlots k r b1 b2 ep N g' ss.length c' ss W (a2.kept hb) hkk
  have HT := fun W => c_isStepV st W
  have HS := fun W => c_isSeed sd W
  obtain ⟨kv, hkv⟩ : ∃ kv, kindV k (optV k r b1 b2 ep) = kv := ⟨_, rfl⟩
  simp only [hkv] at HK HF
  unfold optV at HK ⊢
  clear hkv
  obtain ⟨u1, h1⟩ : ∃ u, isKind k = u := ⟨_, rfl⟩
  obtain ⟨u2, h2⟩ : ∃ u, vMod (ls.map LayA.p) = u := ⟨_, rfl⟩
  obtain ⟨u3, h3⟩ : ∃ u, isStepV st = u := ⟨_, rfl⟩
  obtain ⟨u4, h4⟩ : ∃ u, isSeedV sd = u := ⟨_, rfl⟩
  have hcp : vCountParams (ls.map LayA.p) = if u2 = true then (((laySum (ls.map LayA.p) : Nat) : Int), true) else (0, false) := by
    unfold vCountParams
    rw [h2, parOf_length]
  simp only [h1] at HK HF
  simp only [hcp] at HP
  simp only [h3] at HT
  simp only [h4] at HS
  have HB4 := Lib.hid (show u2 = true → laySum (ls.map LayA.p) ≤ 432 from fun hu => (vMod_parts (h2.trans hu)).2.2)
  rw [h1, h2, h3, h4]
  clear h1 h2 h3 h4 hcp a1 a2
  obtain ⟨N, hN⟩ : ∃ N, laySum (ls.map LayA.p) = N := ⟨_, rfl⟩
  rw [hN] at HP HB4 ⊢
  clear hN
  obtain ⟨n, hn⟩ : ∃ n, ls.length = n := ⟨_, rfl⟩
  obtain ⟨m, hm⟩ : ∃ m, ss.length = m := ⟨_, rfl⟩
  rw [hn, hm] at bb k2
  rw [hn] at HP
  rw [hm] at HF
  rw [hn, hm]
  have HK' := Lib.hid HK
  have HP' := Lib.hid HP
  have HF' := Lib.hid HF
  have HT' := Lib.hid HT
  have HS' := Lib.hid HS
  have K := Lib.hid k2
  have B := Lib.hid bb
  clear HK HP HF HT HS hn hm bb k2
  cases u1 with
  | false =>
    go_enter Try.func65, Try.ntmps65
    go_wp2_with fail
    refine (HK'.out _).mono ?_
    rintro e w2 ⟨rfl, hb⟩
    have K2 := Lib.hid (K.out.below hb)
    have B2 := Lib.hid (Below.next B.out hb)
    clear hb
    obtain ⟨p0, p1, p2, p3, p4, p5⟩ := tbt5 K2.out
    go_wp2_with fail
    refine (HP'.out _ B2.out).mono ?_
    rintro e w3 ⟨rfl, hb⟩
    have B3 := Lib.hid (Below.next B2.out hb)
    clear hb p0 p1 p2 p3 p4 p5
    go_wp2_with fail
    all_goals
      go_ret
      exact ⟨ret_b rfl, B3.out⟩
  | true =>
  cases u2 with
  | false =>
    have HP2 := HP'.out
    simp only [Bool.false_eq_true, if_false] at HP2
    have HP3 := Lib.hid HP2
    clear HP2
    go_enter Try.func65, Try.ntmps65
    go_wp2_with fail
    refine (HK'.out _).mono ?_
    rintro e w2 ⟨rfl, hb⟩
    have K2 := Lib.hid (K.out.below hb)
    have B2 := Lib.hid (Below.next B.out hb)
    clear hb
    obtain ⟨p0, p1, p2, p3, p4, p5⟩ := tbt5 K2.out
    go_wp2_with fail
    refine (HP3.out _ B2.out).mono ?_
    rintro e w3 ⟨rfl, hb⟩
    have B3 := Lib.hid (Below.next B2.out hb)
    clear hb p0 p1 p2 p3 p4 p5
    go_wp2_with fail
    go_ret
    exact ⟨ret_b rfl, B3.out⟩
  | true =>
    have HP2 := HP'.out
    simp only [if_true] at HP2
    have HP3 := Lib.hid HP2
    have hN4 : N ≤ 432 := HB4.out rfl
    clear HP2
    by_cases h256 : N ≤ 256
    case neg =>
      have hg : decide ((256 : Int) < (N : Int)) = true := decide_eq_true (by omega)
      have HE := Lib.hid (show false = (true && (true && (u3 && (u4 && (decide (N ≤ 256) && fitS k ss (N : Int)))))) by rw [decide_eq_false h256]; simp)
      clear h256
      go_enter Try.func65, Try.ntmps65
      go_wp2_with fail
      refine (HK'.out _).mono ?_
      rintro e w2 ⟨rfl, hb⟩
      have K2 := Lib.hid (K.out.below hb)
      have B2 := Lib.hid (Below.next B.out hb)
      clear hb
      obtain ⟨p0, p1, p2, p3, p4, p5⟩ := tbt5 K2.out
      go_wp2_with fail
      refine (HP3.out _ B2.out).mono ?_
      rintro e w3 ⟨rfl, hb⟩
      have B3 := Lib.hid (Below.next B2.out hb)
      clear hb p0 p1 p2 p3 p4 p5
      go_wp2_with fail
      go_ret
      exact ⟨ret_b HE.out, B3.out⟩
    case pos =>
      have hg : decide ((256 : Int) < (N : Int)) = false := decide_eq_false (by omega)
      rw [decide_eq_true h256]
      obtain ⟨f, hf⟩ : ∃ f, fitS k ss (N : Int) = f := ⟨_, rfl⟩
      have HF2 := HF'.out (N : Int)
      simp only [hf] at HF2
      have HF3 := Lib.hid HF2
      rw [hf]
      clear HF2 hf h256
      cases f with
      | false =>
        have HE := Lib.hid (show false = (true && (true && (u3 && (u4 && (true && false))))) by simp)
        go_enter Try.func65, Try.ntmps65
        go_wp2_with fail
        refine (HK'.out _).mono ?_
        rintro e w2 ⟨rfl, hb⟩
        have K2 := Lib.hid (K.out.below hb)
        have B2 := Lib.hid (Below.next B.out hb)
        clear hb
        obtain ⟨p0, p1, p2, p3, p4, p5⟩ := tbt5 K2.out
        go_wp2_with fail
        refine (HP3.out _ B2.out).mono ?_
        rintro e w3 ⟨rfl, hb⟩
        have B3 := Lib.hid (Below.next B2.out hb)
        have K3 := Lib.hid (K2.out.below hb)
        clear hb p0 p1 p2 p3 p4 p5
        obtain ⟨p0, p1, p2, p3, p4, p5⟩ := tbt5 K3.out
        go_wp2_with fail
        refine (HF3.out _ B3.out trivial).mono ?_
        rintro e w4 ⟨rfl, hb⟩
        have B4 := Lib.hid (Below.next B3.out hb)
        clear hb p0 p1 p2 p3 p4 p5
        go_wp2_with fail
        go_ret
        exact ⟨ret_b HE.out, B4.out⟩
      | true =>
      cases u3 with
      | false =>
        go_enter Try.func65, Try.ntmps65
        go_wp2_with fail
        refine (HK'.out _).mono ?_
        rintro e w2 ⟨rfl, hb⟩
        have K2 := Lib.hid (K.out.below hb)
        have B2 := Lib.hid (Below.next B.out hb)
        clear hb
        obtain ⟨p0, p1, p2, p3, p4, p5⟩ := tbt5 K2.out
        go_wp2_with fail
        refine (HP3.out _ B2.out).mono ?_
        rintro e w3 ⟨rfl, hb⟩
        have B3 := Lib.hid (Below.next B2.out hb)
        have K3 := Lib.hid (K2.out.below hb)
        clear hb p0 p1 p2 p3 p4 p5
        obtain ⟨p0, p1, p2, p3, p4, p5⟩ := tbt5 K3.out
        go_wp2_with fail
        refine (HF3.out _ B3.out trivial).mono ?_
        rintro e w4 ⟨rfl, hb⟩
        have B4 := Lib.hid (Below.next B3.out hb)
        have K4 := Lib.hid (K3.out.below hb)
        clear hb p0 p1 p2 p3 p4 p5
        obtain ⟨p0, p1, p2, p3, p4, p5⟩ := tbt5 K4.out
        go_wp2_with fail
        refine (HT'.out _).mono ?_
        rintro e w5 ⟨rfl, rfl⟩
        go_wp2_with fail
        go_ret
        exact ⟨ret_b rfl, B4.out⟩
      | true =>
        have HE := Lib.hid (show u4 = (true && (true && (true && (u4 && (true && true))))) by simp)
        go_enter Try.func65, Try.ntmps65
        go_wp2_with fail
        refine (HK'.out _).mono ?_
        rintro e w2 ⟨rfl, hb⟩
        have K2 := Lib.hid (K.out.below hb)
        have B2 := Lib.hid (Below.next B.out hb)
        clear hb
        obtain ⟨p0, p1, p2, p3, p4, p5⟩ := tbt5 K2.out
        go_wp2_with fail
        refine (HP3.out _ B2.out).mono ?_
        rintro e w3 ⟨rfl, hb⟩
        have B3 := Lib.hid (Below.next B2.out hb)
        have K3 := Lib.hid (K2.out.below hb)
        clear hb p0 p1 p2 p3 p4 p5
        obtain ⟨p0, p1, p2, p3, p4, p5⟩ := tbt5 K3.out
        go_wp2_with fail
        refine (HF3.out _ B3.out trivial).mono ?_
        rintro e w4 ⟨rfl, hb⟩
        have B4 := Lib.hid (Below.next B3.out hb)
        have K4 := Lib.hid (K3.out.below hb)
        clear hb p0 p1 p2 p3 p4 p5
        obtain ⟨p0, p1, p2, p3, p4, p5⟩ := tbt5 K4.out
        go_wp2_with fail
        refine (HT'.out _).mono ?_
        rintro e w5 ⟨rfl, rfl⟩
        go_wp2_with fail
        refine (HS'.out _).mono ?_
        rintro e w5 ⟨rfl, rfl⟩
        go_wp2_with fail
        go_ret
        exact ⟨ret_b HE.out, B4.out⟩
end Go.Proofs.Ytaipegkkpkagnaa
