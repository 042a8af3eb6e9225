/-
  NewTraining returns for all models, optimisers and seeds what its model returns, in memory of its own, and changes none of them. Conditions: none.
-/
import Derived.Test.YthklfkfhhdglcaaNti
import Derived.Test.YthklfkfhhdglcaaMkT
import Derived.Test.YthklfkfhhdglcaaSmu
import Derived.ChangeOld
import Derived.Below
namespace Go.Proofs.Ythklfkfhhdglcaa.fnExactNewTraining
open Go.ChangeShapes Go.WideShapes Go.ChangeAt Go.RowKit
open Go.ChangeMaps (open_string shut_string)
set_option linter.unusedVariables false

theorem retNew_nt (k : Int) (ps : List LayP) (sd : Int) : ∃ ok pc zs s sc, RetNew k ps sd = RetNt ok pc zs s sc ∧ pc.length ≤ 6 ∧ laySum pc ≤ 432 ∧ List.length zs ≤ 2 ∧ (zs.map List.length).sum ≤ 512 := by
  cases h : okNew k ps sd with
  | false => exact ⟨false, [], [], 0, 0, retNew_no h, by simp, by simp [laySum], by simp, by simp⟩
  | true =>
    obtain ⟨_, h2, h3⟩ := okNew_parts h
    obtain ⟨v1, v2, v3⟩ := vMod_parts h2
    refine ⟨true, _, _, _, _, retNew_yes h, by simpa using v2, ?_, by simpa [zeros] using slots_le k, ?_⟩
    · have e : laySum (ps.map LayP.can) = laySum ps := by
        unfold laySum
        rw [List.map_map]
        congr 1
        refine List.map_congr_left fun p _ => ?_
        simp [LayP.n, LayP.can]
      rw [e]
      exact v3
    · have := Nat.mul_le_mul (slots_le k) h3
      simp [zeros]
      omega
theorem cnt_bound (ls : List LayA) : cntLays ls ≤ 3 * ls.length + laySum (ls.map LayA.p) := by
  induction ls with
  | nil => simp [cntLays]
  | cons x xs ih =>
    simp only [cntLays, laySum, List.map_cons, List.sum_cons, List.length_cons, LayP.n] at ih ⊢
    omega
theorem trs_bound (q : TrsA) {ps : List LayP} {zs : List (List Nat)} (h1 : q.ls.map (fun x => x.p.can) = ps) (h2 : q.ss.map (fun x => x.z.map (canon .f32)) = zs) (b1 : ps.length ≤ 6) (b2 : laySum ps ≤ 432) (b3 : zs.length ≤ 2) (b4 : (zs.map List.length).sum ≤ 512) :
    cntTrs q ≤ 1000 ∧ laySum (q.ls.map LayA.p) ≤ 1048576 ∧ q.ss.length ≤ 1048576 := by
  subst h1 h2
  rw [laySum_can] at b2
  simp only [List.length_map] at b1 b3
  have h3 : cntSS q.ss ≤ 512 := by
    have e : (q.ss.map (fun x => x.z.map (canon .f32))).map List.length = q.ss.map fun x => x.z.length := by simp [List.map_map, Function.comp_def]
    rw [e] at b4
    exact b4
  have h4 := cnt_bound q.ls
  unfold cntTrs
  omega
/-- a state in a box, and ok, behind a cut -/
def CutN (W : World) (B0 : Nat) (ok : Bool) (ps : List LayP) (zs : List (List Nat)) (sd : Int) (sc : Nat) (K : World → Prop) (s t : Value) (wx : World) : Prop :=
  ∃ (g : Nat) (q : TrsA) (v0 : Option Addr) (v1 v2 : Nat) (v3 : Option Addr) (v4 v5 : Nat) (v6 v7 : Int) (v8 : Nat), q.cells = #[.slice v0 v1 v2, .slice v3 v4 v5, .int .i64 v6, .int .i64 v7, .float .f32 v8] ∧ s = .pointer (some ⟨g, 0, none⟩) ∧ t = .bool ok ∧
    Blk wx g 71 #[.slice v0 v1 v2, .slice v3 v4 v5, .int .i64 v6, .int .i64 v7, .float .f32 v8] ∧ B0 ≤ g ∧ (∀ x ∈ q.bl, x ≠ g) ∧ TrsOwn wx B0 q ∧ q.bl.Nodup ∧ q.ls.map (fun x => x.p.can) = ps ∧ q.ss.map (fun x => x.z.map (canon .f32)) = zs ∧ q.st = 0 ∧ q.sd = sd ∧ q.sc = sc ∧ Below W.heap.size W wx ∧ K wx

set_option maxRecDepth 20000 in
set_option maxHeartbeats 4000000 in
theorem walk (v0 : Value) (v1 : Value) (a2 : Int) (w : World) (w0 : ∃ x : ModA, v0 = .agg #[.slice x.g x.ls.length x.c] ∧ LaysAt w x.g x.ls.length x.c x.ls) (w1 : ∃ (k : Int) (r b1 b2 ep : Nat), v1 = optV k r b1 b2 ep ∧ (Lit.int .i64 k).wf = true ∧ r < 2 ^ 32 ∧ b1 < 2 ^ 32 ∧ b2 < 2 ^ 32 ∧ ep < 2 ^ 32) (w2 : (Lit.int .i64 a2).wf = true) :
    Calls Try.prog 10 #[v0, v1, .int .i64 a2] w fun e w' => e = .returned (.bool true) ∧ Below w.heap.size w w' := by
  obtain ⟨⟨g, c, ls⟩, rfl, hm⟩ := w0
  obtain ⟨k, r, b1, b2, ep, rfl, hk, _, _, _, _⟩ := w1
  simp only at hm ⊢
  have HM := Lib.hid hm
  have HO := Lib.hid (fun w => c_toOpt k r b1 b2 ep w)
  have TS := Lib.hid (fun g ys W (h : LaysAt W g ls.length ls.length ys) => t_sNewTraining k r b1 b2 ep g ls.length ls.length ys a2 W h)
  have TI := Lib.hid (fun g ys W (h : LaysAt W g ls.length ls.length ys) => t_iNewTraining k r b1 b2 ep g ls.length ls.length ys a2 W h hk)
  unfold optV at HO TS TI ⊢
  obtain ⟨n, hn⟩ : ∃ n, ls.length = n := ⟨_, rfl⟩
  rw [hn] at hm HM TS TI ⊢
  have k1 := (Blk.new w 62 #[.slice g n c]).below ((Below.refl _ _).alloc (Nat.le_refl _) (.cells #[.int .i64 k, .float .f32 r, .float .f32 b1, .float .f32 b2, .float .f32 ep] 64))
  have k2 := Blk.new (w.alloc (.cells #[.slice g n c] 62)) 64 #[.int .i64 k, .float .f32 r, .float .f32 b1, .float .f32 b2, .float .f32 ep]
  simp only [World.size_alloc] at k2
  have K0_0 := Lib.hid k1
  have KO_0 := Lib.hid k2
  have B_0 := Lib.hid (((Below.refl w.heap.size w).alloc (Nat.le_refl _) (.cells #[.slice g n c] 62)).alloc (by simp) (.cells #[.int .i64 k, .float .f32 r, .float .f32 b1, .float .f32 b2, .float .f32 ep] 64))
  have HMZ := Lib.hid (fun w1 (hb : Below w.heap.size w w1) => hm.kept hb)
  clear k1 k2 hm
  by_cases hL : n + laySum (ls.map LayA.p) ≤ 1048576
  case neg =>
    have HN := Lib.hid (fun w1 (hb : Below w.heap.size w w1) => c_szMod_no g c n 1048576 ls w1 (HM.out.kept hb) (Nat.le_refl _) (by omega))
    clear hL hn
    go_enter Try.func10, Try.ntmps10
    go_wp2_with fail
    generalize (w.alloc (.cells #[.slice g n c] 62)).alloc (.cells #[.int .i64 k, .float .f32 r, .float .f32 b1, .float .f32 b2, .float .f32 ep] 64) = w1 at K0_0 KO_0 B_0 ⊢
    refine (HN.out _ B_0.out).mono ?_
    rintro e w2 ⟨rfl, hb⟩
    have B2 := Lib.hid (Below.next B_0.out hb)
    clear hb
    go_wp2_with fail
    go_ret
    exact ⟨rfl, B2.out⟩
  case pos =>
    obtain ⟨l, hl⟩ : ∃ l, 1048576 - (n + laySum (ls.map LayA.p)) = l := ⟨_, rfl⟩
    have hl0 : (0 : Int) ≤ (l : Int) := by omega
    have HZ := Lib.hid (fun w1 (hb : Below w.heap.size w w1) => c_szMod g c n 1048576 l ls w1 (HM.out.kept hb) (Nat.le_refl _) hL hl)
    have HA := Lib.hid (fun w1 (hb : Below w.heap.size w w1) => c_toMod g c n ls w1 (HM.out.kept hb) hL)
    have HLS := Lib.hid hL
    obtain ⟨ok, PSc, ZS, sd2, sc2, hnt, hl1, hl2, hl3, hl4⟩ := retNew_nt k (ls.map LayA.p) a2
    have HNT := Lib.hid hnt
    have HB1 := Lib.hid hl1
    have HB2 := Lib.hid hl2
    have HB3 := Lib.hid hl3
    have HB4 := Lib.hid hl4
    clear hL hl hn hk hnt hl1 hl2 hl3 hl4
    go_enter Try.func10, Try.ntmps10
    go_wp2_with fail
    generalize (w.alloc (.cells #[.slice g n c] 62)).alloc (.cells #[.int .i64 k, .float .f32 r, .float .f32 b1, .float .f32 b2, .float .f32 ep] 64) = w1 at K0_0 KO_0 B_0 ⊢
    refine (HZ.out _ B_0.out).mono ?_
    rintro e w2 ⟨rfl, bl⟩
    have K0_2 := Lib.hid (K0_0.out.below bl)
    clear K0_0
    have KO_2 := Lib.hid (KO_0.out.below bl)
    clear KO_0
    have B_2 := Lib.hid (Below.next B_0.out bl)
    clear B_0
    clear bl
    obtain ⟨pK00, pK0l⟩ := tb1 K0_2.out
    obtain ⟨pKO0, pKO1, pKO2, pKO3, pKO4, pKOl⟩ := tbt5 KO_2.out
    go_upto_region 5 with fail
    clear pK00 pK0l
    clear pKO0 pKO1 pKO2 pKO3 pKO4 pKOl
    go_cut [8, 9] (fun s t wx => CutN w w2.heap.size ok PSc ZS sd2 sc2 (fun wx => Blk wx (w.heap.size) 62 #[.slice g n c] ∧ Blk wx (w.heap.size + 1) 64 #[.int .i64 k, .float .f32 r, .float .f32 b1, .float .f32 b2, .float .f32 ep]) s t wx)
    case first =>
      have Z_2 := Lib.hid (Nat.le_refl w2.heap.size)
      obtain ⟨pK00, pK0l⟩ := tb1 K0_2.out
      obtain ⟨pKO0, pKO1, pKO2, pKO3, pKO4, pKOl⟩ := tbt5 KO_2.out
      go_region_held3 (fun w' => w'.cell? ⟨w.heap.size, 0, none⟩ = some (.slice g n c) ∧ w'.cell? ⟨w.heap.size + 1, 0, none⟩ = some (.int .i64 k) ∧ w'.cell? ⟨w.heap.size + 1, 1, none⟩ = some (.float .f32 r) ∧ w'.cell? ⟨w.heap.size + 1, 2, none⟩ = some (.float .f32 b1) ∧ w'.cell? ⟨w.heap.size + 1, 3, none⟩ = some (.float .f32 b2) ∧ w'.cell? ⟨w.heap.size + 1, 4, none⟩ = some (.float .f32 ep)) (go_keep)
        (first
          | (go_at_call 42
             first
               | (clear pK00 pK0l
                  clear pKO0 pKO1 pKO2 pKO3 pKO4 pKOl
                  have bl : Below w2.heap.size w2 w2.drew := (Below.refl _ _).drew
                  have K0_600 := Lib.hid (K0_2.out.below bl)
                  clear K0_2
                  have KO_600 := Lib.hid (KO_2.out.below bl)
                  clear KO_2
                  have B_600 := Lib.hid (Below.next B_2.out bl)
                  clear B_2
                  have Z_600 := Lib.hid (Nat.le_trans Z_2.out bl.size)
                  clear Z_2
                  clear bl
                  refine (HA.out _ B_600.out).mono ?_
                  rintro e w3 ⟨gT, yT, rfl, hl, hp, ho, hnd, bl⟩
                  have K0_3 := Lib.hid (K0_600.out.below bl)
                  clear K0_600
                  have KO_3 := Lib.hid (KO_600.out.below bl)
                  clear KO_600
                  have B_3 := Lib.hid (Below.next B_600.out bl)
                  clear B_600
                  have Z_3 := Lib.hid (Nat.le_trans Z_600.out bl.size)
                  clear Z_600
                  clear bl
                  have HPT := Lib.hid hp
                  have HLT := Lib.hid hl
                  have T_3 := Lib.hid (laysAt_own hl ho)
                  clear ho hnd hl hp
                  obtain ⟨pK00, pK0l⟩ := tb1 K0_3.out
                  obtain ⟨pKO0, pKO1, pKO2, pKO3, pKO4, pKOl⟩ := tbt5 KO_3.out)
               | (clear pK00 pK0l
                  clear pKO0 pKO1 pKO2 pKO3 pKO4 pKOl
                  have NSB_K0 : w.heap.size ≠ w2.heap.size := Nat.ne_of_lt K0_2.out.lt
                  have MSB_K0 : w2.heap.size ≠ w.heap.size := Nat.ne_of_gt K0_2.out.lt
                  have NSB_KO : w.heap.size + 1 ≠ w2.heap.size := Nat.ne_of_lt KO_2.out.lt
                  have MSB_KO : w2.heap.size ≠ w.heap.size + 1 := Nat.ne_of_gt KO_2.out.lt
                  have LSB := Lib.hid Z_2.out
                  have LSW := Lib.hid B_2.out.size
                  have bl := (Below.refl w2.heap.size w2).alloc (Nat.le_refl _) (.cells #[.slice none 0 0, .slice none 0 0, .int .i64 0, .int .i64 0, .float .f32 0] 71)
                  have SB_500 := Lib.hid (Blk.new w2 71 #[.slice none 0 0, .slice none 0 0, .int .i64 0, .int .i64 0, .float .f32 0])
                  have K0_500 := Lib.hid (K0_2.out.below bl)
                  clear K0_2
                  have KO_500 := Lib.hid (KO_2.out.below bl)
                  clear KO_2
                  have B_500 := Lib.hid (Below.next B_2.out bl)
                  clear B_2
                  have Z_500 := Lib.hid (Nat.le_trans Z_2.out bl.size)
                  clear Z_2
                  clear bl
                  generalize w2.alloc (.cells #[.slice none 0 0, .slice none 0 0, .int .i64 0, .int .i64 0, .float .f32 0] 71) = w500 at K0_500 KO_500 B_500 Z_500 SB_500 ⊢
                  have bl : Below w500.heap.size w500 w500.drew := (Below.refl _ _).drew
                  have K0_600 := Lib.hid (K0_500.out.below bl)
                  clear K0_500
                  have KO_600 := Lib.hid (KO_500.out.below bl)
                  clear KO_500
                  have B_600 := Lib.hid (Below.next B_500.out bl)
                  clear B_500
                  have Z_600 := Lib.hid (Nat.le_trans Z_500.out bl.size)
                  clear Z_500
                  have SB_600 := Lib.hid (SB_500.out.below bl)
                  clear SB_500
                  clear bl
                  refine (HA.out _ B_600.out).mono ?_
                  rintro e w3 ⟨gT, yT, rfl, hl, hp, ho, hnd, bl⟩
                  have K0_3 := Lib.hid (K0_600.out.below bl)
                  clear K0_600
                  have KO_3 := Lib.hid (KO_600.out.below bl)
                  clear KO_600
                  have B_3 := Lib.hid (Below.next B_600.out bl)
                  clear B_600
                  have Z_3 := Lib.hid (Nat.le_trans Z_600.out bl.size)
                  clear Z_600
                  have SB_3 := Lib.hid (SB_600.out.below bl)
                  clear SB_600
                  clear bl
                  have HPT := Lib.hid hp
                  have HLT := Lib.hid hl
                  have T_3 := Lib.hid (laysAt_own hl ho)
                  clear ho hnd hl hp
                  obtain ⟨pK00, pK0l⟩ := tb1 K0_3.out
                  obtain ⟨pKO0, pKO1, pKO2, pKO3, pKO4, pKOl⟩ := tbt5 KO_3.out
                  obtain ⟨pSB0, pSB1, pSB2, pSB3, pSB4, pSBl⟩ := tbt5 SB_3.out))
          | (go_at_call 43
             first
               | (clear pK00 pK0l
                  clear pKO0 pKO1 pKO2 pKO3 pKO4 pKOl
                  clear pSB0 pSB1 pSB2 pSB3 pSB4 pSBl
                  refine (HO.out _).mono ?_
                  rintro e w4 ⟨rfl, bl⟩
                  have K0_4 := Lib.hid (K0_3.out.below bl)
                  clear K0_3
                  have KO_4 := Lib.hid (KO_3.out.below bl)
                  clear KO_3
                  have B_4 := Lib.hid (Below.next B_3.out bl)
                  clear B_3
                  have Z_4 := Lib.hid (Nat.le_trans Z_3.out bl.size)
                  clear Z_3
                  have T_4 := Lib.hid (T_3.out.kept bl)
                  clear T_3
                  have SB_4 := Lib.hid (SB_3.out.below bl)
                  clear SB_3
                  clear bl
                  obtain ⟨pK00, pK0l⟩ := tb1 K0_4.out
                  obtain ⟨pKO0, pKO1, pKO2, pKO3, pKO4, pKOl⟩ := tbt5 KO_4.out
                  obtain ⟨pSB0, pSB1, pSB2, pSB3, pSB4, pSBl⟩ := tbt5 SB_4.out)
               | (clear pK00 pK0l
                  clear pKO0 pKO1 pKO2 pKO3 pKO4 pKOl
                  refine (HO.out _).mono ?_
                  rintro e w4 ⟨rfl, bl⟩
                  have K0_4 := Lib.hid (K0_3.out.below bl)
                  clear K0_3
                  have KO_4 := Lib.hid (KO_3.out.below bl)
                  clear KO_3
                  have B_4 := Lib.hid (Below.next B_3.out bl)
                  clear B_3
                  have Z_4 := Lib.hid (Nat.le_trans Z_3.out bl.size)
                  clear Z_3
                  have T_4 := Lib.hid (T_3.out.kept bl)
                  clear T_3
                  clear bl
                  obtain ⟨pK00, pK0l⟩ := tb1 K0_4.out
                  obtain ⟨pKO0, pKO1, pKO2, pKO3, pKO4, pKOl⟩ := tbt5 KO_4.out)
               | (clear pK00 pK0l
                  clear pKO0 pKO1 pKO2 pKO3 pKO4 pKOl
                  have NSB_K0 : w.heap.size ≠ w3.heap.size := Nat.ne_of_lt K0_3.out.lt
                  have MSB_K0 : w3.heap.size ≠ w.heap.size := Nat.ne_of_gt K0_3.out.lt
                  have NSB_KO : w.heap.size + 1 ≠ w3.heap.size := Nat.ne_of_lt KO_3.out.lt
                  have MSB_KO : w3.heap.size ≠ w.heap.size + 1 := Nat.ne_of_gt KO_3.out.lt
                  have LSB := Lib.hid Z_3.out
                  have LSW := Lib.hid B_3.out.size
                  have bl := (Below.refl w3.heap.size w3).alloc (Nat.le_refl _) (.cells #[.slice none 0 0, .slice none 0 0, .int .i64 0, .int .i64 0, .float .f32 0] 71)
                  have SB_501 := Lib.hid (Blk.new w3 71 #[.slice none 0 0, .slice none 0 0, .int .i64 0, .int .i64 0, .float .f32 0])
                  have K0_501 := Lib.hid (K0_3.out.below bl)
                  clear K0_3
                  have KO_501 := Lib.hid (KO_3.out.below bl)
                  clear KO_3
                  have B_501 := Lib.hid (Below.next B_3.out bl)
                  clear B_3
                  have Z_501 := Lib.hid (Nat.le_trans Z_3.out bl.size)
                  clear Z_3
                  have T_501 := Lib.hid (T_3.out.kept bl)
                  clear T_3
                  clear bl
                  generalize w3.alloc (.cells #[.slice none 0 0, .slice none 0 0, .int .i64 0, .int .i64 0, .float .f32 0] 71) = w501 at K0_501 KO_501 B_501 Z_501 T_501 SB_501 ⊢
                  refine (HO.out _).mono ?_
                  rintro e w4 ⟨rfl, bl⟩
                  have K0_4 := Lib.hid (K0_501.out.below bl)
                  clear K0_501
                  have KO_4 := Lib.hid (KO_501.out.below bl)
                  clear KO_501
                  have B_4 := Lib.hid (Below.next B_501.out bl)
                  clear B_501
                  have Z_4 := Lib.hid (Nat.le_trans Z_501.out bl.size)
                  clear Z_501
                  have T_4 := Lib.hid (T_501.out.kept bl)
                  clear T_501
                  have SB_4 := Lib.hid (SB_501.out.below bl)
                  clear SB_501
                  clear bl
                  obtain ⟨pK00, pK0l⟩ := tb1 K0_4.out
                  obtain ⟨pKO0, pKO1, pKO2, pKO3, pKO4, pKOl⟩ := tbt5 KO_4.out
                  obtain ⟨pSB0, pSB1, pSB2, pSB3, pSB4, pSBl⟩ := tbt5 SB_4.out))
          | (go_at_call 41
             first
               | (clear pK00 pK0l
                  clear pKO0 pKO1 pKO2 pKO3 pKO4 pKOl
                  clear pSB0 pSB1 pSB2 pSB3 pSB4 pSBl
                  have SLT := Lib.hid SB_4.out.lt
                  have ZP := Lib.hid Z_4.out
                  have hc := TS.out (some ⟨gT, 0, none⟩) yT _ T_4.out
                  rw [HPT.out, HNT.out] at hc
                  refine hc.mono ?_
                  rintro e w5 ⟨qq, rfl, c1, c2, c3, c4, c5, ho, hnd, bl⟩
                  clear hc
                  have K0_5 := Lib.hid (K0_4.out.below bl)
                  clear K0_4
                  have KO_5 := Lib.hid (KO_4.out.below bl)
                  clear KO_4
                  have B_5 := Lib.hid (Below.next B_4.out bl)
                  clear B_4
                  have Z_5 := Lib.hid (Nat.le_trans Z_4.out bl.size)
                  clear Z_4
                  have T_5 := Lib.hid (T_4.out.kept bl)
                  clear T_4
                  have SB_5 := Lib.hid (SB_4.out.below bl)
                  clear SB_4
                  clear bl
                  obtain ⟨v0, v1, v2, v3, v4, v5, v6, v7, v8, hr⟩ := cells5 qq
                  have HR := Lib.hid hr
                  have hr' : (#[.slice qq.g qq.ls.length qq.c, .slice qq.h qq.ss.length qq.d, .int .i64 qq.st, .int .i64 qq.sd, .float .f32 qq.sc] : Array Value) = #[.slice v0 v1 v2, .slice v3 v4 v5, .int .i64 v6, .int .i64 v7, .float .f32 v8] := hr
                  rw [hr]
                  clear hr hr'
                  have CC := Lib.hid (And.intro c1 (And.intro c2 (And.intro c3 (And.intro c4 c5))))
                  have QO := Lib.hid ho
                  have QN := Lib.hid hnd
                  have ZQ := Lib.hid ZP.out
                  clear c1 c2 c3 c4 c5 ho hnd
                  obtain ⟨pK00, pK0l⟩ := tb1 K0_5.out
                  obtain ⟨pKO0, pKO1, pKO2, pKO3, pKO4, pKOl⟩ := tbt5 KO_5.out
                  obtain ⟨pSB0, pSB1, pSB2, pSB3, pSB4, pSBl⟩ := tbt5 SB_5.out
                  obtain ⟨fz0, fz1, fz2, fz3, fz4⟩ := tbtf5 SB_5.out
                  have st5 := storet5 SB_5.out (y0 := .slice v0 v1 v2) (y1 := .slice v3 v4 v5) (y2 := .int .i64 v6) (y3 := .int .i64 v7) (y4 := .float .f32 v8))
               | (clear pK00 pK0l
                  clear pKO0 pKO1 pKO2 pKO3 pKO4 pKOl
                  have ZP := Lib.hid Z_4.out
                  have hc := TS.out (some ⟨gT, 0, none⟩) yT _ T_4.out
                  rw [HPT.out, HNT.out] at hc
                  refine hc.mono ?_
                  rintro e w5 ⟨qq, rfl, c1, c2, c3, c4, c5, ho, hnd, bl⟩
                  clear hc
                  have K0_5 := Lib.hid (K0_4.out.below bl)
                  clear K0_4
                  have KO_5 := Lib.hid (KO_4.out.below bl)
                  clear KO_4
                  have B_5 := Lib.hid (Below.next B_4.out bl)
                  clear B_4
                  have Z_5 := Lib.hid (Nat.le_trans Z_4.out bl.size)
                  clear Z_4
                  have T_5 := Lib.hid (T_4.out.kept bl)
                  clear T_4
                  clear bl
                  obtain ⟨v0, v1, v2, v3, v4, v5, v6, v7, v8, hr⟩ := cells5 qq
                  have HR := Lib.hid hr
                  have hr' : (#[.slice qq.g qq.ls.length qq.c, .slice qq.h qq.ss.length qq.d, .int .i64 qq.st, .int .i64 qq.sd, .float .f32 qq.sc] : Array Value) = #[.slice v0 v1 v2, .slice v3 v4 v5, .int .i64 v6, .int .i64 v7, .float .f32 v8] := hr
                  rw [hr]
                  clear hr hr'
                  have CC := Lib.hid (And.intro c1 (And.intro c2 (And.intro c3 (And.intro c4 c5))))
                  have QO := Lib.hid ho
                  have QN := Lib.hid hnd
                  have ZQ := Lib.hid ZP.out
                  clear c1 c2 c3 c4 c5 ho hnd
                  obtain ⟨pK00, pK0l⟩ := tb1 K0_5.out
                  obtain ⟨pKO0, pKO1, pKO2, pKO3, pKO4, pKOl⟩ := tbt5 KO_5.out
                  have ZG := Lib.hid Z_5.out
                  have al := fun ob => (Below.refl w5.heap.size w5).alloc (Nat.le_refl _) ob)
               | (clear pK00 pK0l
                  clear pKO0 pKO1 pKO2 pKO3 pKO4 pKOl
                  have NSB_K0 : w.heap.size ≠ w4.heap.size := Nat.ne_of_lt K0_4.out.lt
                  have MSB_K0 : w4.heap.size ≠ w.heap.size := Nat.ne_of_gt K0_4.out.lt
                  have NSB_KO : w.heap.size + 1 ≠ w4.heap.size := Nat.ne_of_lt KO_4.out.lt
                  have MSB_KO : w4.heap.size ≠ w.heap.size + 1 := Nat.ne_of_gt KO_4.out.lt
                  have LSB := Lib.hid Z_4.out
                  have LSW := Lib.hid B_4.out.size
                  have bl := (Below.refl w4.heap.size w4).alloc (Nat.le_refl _) (.cells #[.slice none 0 0, .slice none 0 0, .int .i64 0, .int .i64 0, .float .f32 0] 71)
                  have SB_502 := Lib.hid (Blk.new w4 71 #[.slice none 0 0, .slice none 0 0, .int .i64 0, .int .i64 0, .float .f32 0])
                  have K0_502 := Lib.hid (K0_4.out.below bl)
                  clear K0_4
                  have KO_502 := Lib.hid (KO_4.out.below bl)
                  clear KO_4
                  have B_502 := Lib.hid (Below.next B_4.out bl)
                  clear B_4
                  have Z_502 := Lib.hid (Nat.le_trans Z_4.out bl.size)
                  clear Z_4
                  have T_502 := Lib.hid (T_4.out.kept bl)
                  clear T_4
                  clear bl
                  generalize w4.alloc (.cells #[.slice none 0 0, .slice none 0 0, .int .i64 0, .int .i64 0, .float .f32 0] 71) = w502 at K0_502 KO_502 B_502 Z_502 T_502 SB_502 ⊢
                  have SLT := Lib.hid SB_502.out.lt
                  have ZP := Lib.hid Z_502.out
                  have hc := TS.out (some ⟨gT, 0, none⟩) yT _ T_502.out
                  rw [HPT.out, HNT.out] at hc
                  refine hc.mono ?_
                  rintro e w5 ⟨qq, rfl, c1, c2, c3, c4, c5, ho, hnd, bl⟩
                  clear hc
                  have K0_5 := Lib.hid (K0_502.out.below bl)
                  clear K0_502
                  have KO_5 := Lib.hid (KO_502.out.below bl)
                  clear KO_502
                  have B_5 := Lib.hid (Below.next B_502.out bl)
                  clear B_502
                  have Z_5 := Lib.hid (Nat.le_trans Z_502.out bl.size)
                  clear Z_502
                  have T_5 := Lib.hid (T_502.out.kept bl)
                  clear T_502
                  have SB_5 := Lib.hid (SB_502.out.below bl)
                  clear SB_502
                  clear bl
                  obtain ⟨v0, v1, v2, v3, v4, v5, v6, v7, v8, hr⟩ := cells5 qq
                  have HR := Lib.hid hr
                  have hr' : (#[.slice qq.g qq.ls.length qq.c, .slice qq.h qq.ss.length qq.d, .int .i64 qq.st, .int .i64 qq.sd, .float .f32 qq.sc] : Array Value) = #[.slice v0 v1 v2, .slice v3 v4 v5, .int .i64 v6, .int .i64 v7, .float .f32 v8] := hr
                  rw [hr]
                  clear hr hr'
                  have CC := Lib.hid (And.intro c1 (And.intro c2 (And.intro c3 (And.intro c4 c5))))
                  have QO := Lib.hid ho
                  have QN := Lib.hid hnd
                  have ZQ := Lib.hid ZP.out
                  clear c1 c2 c3 c4 c5 ho hnd
                  obtain ⟨pK00, pK0l⟩ := tb1 K0_5.out
                  obtain ⟨pKO0, pKO1, pKO2, pKO3, pKO4, pKOl⟩ := tbt5 KO_5.out
                  obtain ⟨pSB0, pSB1, pSB2, pSB3, pSB4, pSBl⟩ := tbt5 SB_5.out
                  obtain ⟨fz0, fz1, fz2, fz3, fz4⟩ := tbtf5 SB_5.out
                  have st5 := storet5 SB_5.out (y0 := .slice v0 v1 v2) (y1 := .slice v3 v4 v5) (y2 := .int .i64 v6) (y3 := .int .i64 v7) (y4 := .float .f32 v8))))
      all_goals
        go_wp2_with fail
        go_meet
        first | exact ⟨_, qq, v0, v1, v2, v3, v4, v5, v6, v7, v8, HR.out, rfl, rfl, st5.1, LSB.out, (fun x hx => Nat.ne_of_gt (Nat.lt_of_lt_of_le SLT.out (QO.out.lt x hx).1)), (show TrsOwn _ _ qq from ⟨OwnL.offg QO.out.1 st5.2 SLT.out, QO.out.2⟩).base ZQ.out, QN.out, CC.out.1, CC.out.2.1, CC.out.2.2.1, CC.out.2.2.2.1, CC.out.2.2.2.2, Below.at_ B_5.out st5.2 LSW.out, K0_5.out.off st5.2 NSB_K0, KO_5.out.off st5.2 NSB_KO⟩ | exact ⟨_, qq, v0, v1, v2, v3, v4, v5, v6, v7, v8, HR.out, rfl, rfl, Blk.new _ _ _, ZG.out, (fun x hx => Nat.ne_of_lt (QO.out.lt x hx).2), (QO.out.base ZQ.out).kept (al _), QN.out, CC.out.1, CC.out.2.1, CC.out.2.2.1, CC.out.2.2.2.1, CC.out.2.2.2.2, Below.next B_5.out (al _), K0_5.out.below (al _), KO_5.out.below (al _)⟩
    case rest =>
    obtain ⟨w22, rfl⟩ : ∃ x : World, x = wc := ⟨_, rfl⟩
    obtain ⟨gW, qW, vw0, vw1, vw2, vw3, vw4, vw5, vw6, vw7, vw8, hr, rfl, rfl, hk, hge, hnb, ho, hnd, c1, c2, c3, c4, c5, hb, h_K0, h_KO⟩ := hcut
    have LEW := Lib.hid B_2.out.size
    have GW_K0 := Lib.hid K0_2.out.lt
    have GW_KO := Lib.hid KO_2.out.lt
    clear K0_2 KO_2 B_2
    have K0_22 := Lib.hid h_K0
    have KO_22 := Lib.hid h_KO
    have B_22 := Lib.hid hb
    have KW_22 := Lib.hid hk
    have W_22 := Lib.hid ho
    have NDW := Lib.hid hnd
    have CQW := Lib.hid hr
    have CCW := Lib.hid (And.intro c1 (And.intro c2 (And.intro c3 (And.intro c4 c5))))
    have GEW := Lib.hid hge
    have NBW := Lib.hid hnb
    obtain ⟨BW, hBW⟩ : ∃ x, w2.heap.size = x := ⟨_, rfl⟩
    rw [hBW] at W_22 LEW GEW GW_K0 GW_KO
    clear hk hge hnb ho hnd hr hb c1 c2 c3 c4 c5 hBW h_K0 h_KO
    obtain ⟨pK00, pK0l⟩ := tb1 K0_22.out
    go_wp2_with fail
    clear pK00 pK0l
    refine (HA.out _ B_22.out).mono ?_
    rintro e w23 ⟨gd, yX, rfl, hl, hp, ho, hnd, bl⟩
    have DWX := Lib.hid (fun x (hx : x ∈ qW.bl) hy => show False by have h1 := (W_22.out.lt x hx).2; have h2 := (OwnL.lt _ ho x hy).1; omega)
    have XK0 := Lib.hid K0_22.out.lt
    have XKO := Lib.hid KO_22.out.lt
    have XKW := Lib.hid KW_22.out.lt
    have LEX := Lib.hid B_22.out.size
    have K0_23 := Lib.hid (K0_22.out.below bl)
    clear K0_22
    have KO_23 := Lib.hid (KO_22.out.below bl)
    clear KO_22
    have B_23 := Lib.hid (Below.next B_22.out bl)
    clear B_22
    have KW_23 := Lib.hid (KW_22.out.below bl)
    clear KW_22
    have W_23 := Lib.hid (W_22.out.kept bl)
    clear W_22
    clear bl
    obtain ⟨gX, hgX⟩ : ∃ x : Option Addr, (some ⟨gd, 0, none⟩ : Option Addr) = x := ⟨_, rfl⟩
    obtain ⟨BX, hBX⟩ : ∃ x, w22.heap.size = x := ⟨_, rfl⟩
    rw [hgX] at ho hnd DWX ⊢
    rw [hBX] at ho XK0 XKO XKW LEX
    have HLX := Lib.hid hl
    have HPX := Lib.hid hp
    have NDX := Lib.hid hnd
    have X_23 := Lib.hid (ho)
    clear hl hp hnd ho hgX hBX
    go_wp2_with fail
    have bl := (Below.refl w23.heap.size w23).alloc (Nat.le_refl _) (.cells #[.slice gX n n] 68)
    have KX_24 := Lib.hid (Blk.new w23 68 #[.slice gX n n])
    have XKX := Lib.hid (OwnL.lt _ X_23.out)
    have K0_24 := Lib.hid (K0_23.out.below bl)
    clear K0_23
    have KO_24 := Lib.hid (KO_23.out.below bl)
    clear KO_23
    have B_24 := Lib.hid (Below.next B_23.out bl)
    clear B_23
    have KW_24 := Lib.hid (KW_23.out.below bl)
    clear KW_23
    have W_24 := Lib.hid (W_23.out.kept bl)
    clear W_23
    have X_24 := Lib.hid (OwnL.kept X_23.out bl)
    clear X_23
    clear bl
    generalize w23.alloc (.cells #[.slice gX n n] 68) = w24 at K0_24 KO_24 B_24 KW_24 W_24 X_24 KX_24 ⊢
    obtain ⟨AX, hAX⟩ : ∃ x, w23.heap.size = x := ⟨_, rfl⟩
    rw [hAX] at KX_24 XKX ⊢
    clear hAX
    obtain ⟨pKX0, pKXl⟩ := tb1 KX_24.out
    obtain ⟨pKO0, pKO1, pKO2, pKO3, pKO4, pKOl⟩ := tbt5 KO_24.out
    go_upto_region 7 with fail
    clear pKX0 pKXl
    clear pKO0 pKO1 pKO2 pKO3 pKO4 pKOl
    go_cut [11, 12] (fun s t wx => CutN w w24.heap.size ok PSc ZS sd2 sc2 (fun wx => Blk wx (w.heap.size) 62 #[.slice g n c] ∧ Blk wx (w.heap.size + 1) 64 #[.int .i64 k, .float .f32 r, .float .f32 b1, .float .f32 b2, .float .f32 ep] ∧ Blk wx (gW) 71 #[.slice vw0 vw1 vw2, .slice vw3 vw4 vw5, .int .i64 vw6, .int .i64 vw7, .float .f32 vw8] ∧ TrsOwn wx BW qW ∧ OwnL wx BX [.sl 155 5 n gX n (laysC yX)] ∧ Blk wx (AX) 68 #[.slice gX n n]) s t wx)
    case first =>
      have LTW := Lib.hid W_24.out.lt
      have LTX := Lib.hid (OwnL.lt _ X_24.out)
      have Z_24 := Lib.hid (Nat.le_refl w24.heap.size)
      obtain ⟨pKX0, pKXl⟩ := tb1 KX_24.out
      obtain ⟨pKO0, pKO1, pKO2, pKO3, pKO4, pKOl⟩ := tbt5 KO_24.out
      go_region_held3 (fun w' => w'.cell? ⟨AX, 0, none⟩ = some (.slice gX n n) ∧ w'.cell? ⟨w.heap.size + 1, 0, none⟩ = some (.int .i64 k) ∧ w'.cell? ⟨w.heap.size + 1, 1, none⟩ = some (.float .f32 r) ∧ w'.cell? ⟨w.heap.size + 1, 2, none⟩ = some (.float .f32 b1) ∧ w'.cell? ⟨w.heap.size + 1, 3, none⟩ = some (.float .f32 b2) ∧ w'.cell? ⟨w.heap.size + 1, 4, none⟩ = some (.float .f32 ep)) (go_keep)
        (first
          | (go_at_call 43
             first
               | (clear pKX0 pKXl
                  clear pKO0 pKO1 pKO2 pKO3 pKO4 pKOl
                  have bl : Below w24.heap.size w24 w24.drew := (Below.refl _ _).drew
                  have K0_600 := Lib.hid (K0_24.out.below bl)
                  clear K0_24
                  have KO_600 := Lib.hid (KO_24.out.below bl)
                  clear KO_24
                  have B_600 := Lib.hid (Below.next B_24.out bl)
                  clear B_24
                  have KW_600 := Lib.hid (KW_24.out.below bl)
                  clear KW_24
                  have W_600 := Lib.hid (W_24.out.kept bl)
                  clear W_24
                  have X_600 := Lib.hid (OwnL.kept X_24.out bl)
                  clear X_24
                  have KX_600 := Lib.hid (KX_24.out.below bl)
                  clear KX_24
                  have Z_600 := Lib.hid (Nat.le_trans Z_24.out bl.size)
                  clear Z_24
                  clear bl
                  refine (HO.out _).mono ?_
                  rintro e w25 ⟨rfl, bl⟩
                  have K0_25 := Lib.hid (K0_600.out.below bl)
                  clear K0_600
                  have KO_25 := Lib.hid (KO_600.out.below bl)
                  clear KO_600
                  have B_25 := Lib.hid (Below.next B_600.out bl)
                  clear B_600
                  have KW_25 := Lib.hid (KW_600.out.below bl)
                  clear KW_600
                  have W_25 := Lib.hid (W_600.out.kept bl)
                  clear W_600
                  have X_25 := Lib.hid (OwnL.kept X_600.out bl)
                  clear X_600
                  have KX_25 := Lib.hid (KX_600.out.below bl)
                  clear KX_600
                  have Z_25 := Lib.hid (Nat.le_trans Z_600.out bl.size)
                  clear Z_600
                  clear bl
                  obtain ⟨pKX0, pKXl⟩ := tb1 KX_25.out
                  obtain ⟨pKO0, pKO1, pKO2, pKO3, pKO4, pKOl⟩ := tbt5 KO_25.out)
               | (clear pKX0 pKXl
                  clear pKO0 pKO1 pKO2 pKO3 pKO4 pKOl
                  have NSB_K0 : w.heap.size ≠ w24.heap.size := Nat.ne_of_lt K0_24.out.lt
                  have MSB_K0 : w24.heap.size ≠ w.heap.size := Nat.ne_of_gt K0_24.out.lt
                  have NSB_KO : w.heap.size + 1 ≠ w24.heap.size := Nat.ne_of_lt KO_24.out.lt
                  have MSB_KO : w24.heap.size ≠ w.heap.size + 1 := Nat.ne_of_gt KO_24.out.lt
                  have NSB_KW : gW ≠ w24.heap.size := Nat.ne_of_lt KW_24.out.lt
                  have MSB_KW : w24.heap.size ≠ gW := Nat.ne_of_gt KW_24.out.lt
                  have NSB_KX : AX ≠ w24.heap.size := Nat.ne_of_lt KX_24.out.lt
                  have MSB_KX : w24.heap.size ≠ AX := Nat.ne_of_gt KX_24.out.lt
                  have LSB := Lib.hid Z_24.out
                  have LSW := Lib.hid B_24.out.size
                  have bl := (Below.refl w24.heap.size w24).alloc (Nat.le_refl _) (.cells #[.slice none 0 0, .slice none 0 0, .int .i64 0, .int .i64 0, .float .f32 0] 71)
                  have SB_500 := Lib.hid (Blk.new w24 71 #[.slice none 0 0, .slice none 0 0, .int .i64 0, .int .i64 0, .float .f32 0])
                  have K0_500 := Lib.hid (K0_24.out.below bl)
                  clear K0_24
                  have KO_500 := Lib.hid (KO_24.out.below bl)
                  clear KO_24
                  have B_500 := Lib.hid (Below.next B_24.out bl)
                  clear B_24
                  have KW_500 := Lib.hid (KW_24.out.below bl)
                  clear KW_24
                  have W_500 := Lib.hid (W_24.out.kept bl)
                  clear W_24
                  have X_500 := Lib.hid (OwnL.kept X_24.out bl)
                  clear X_24
                  have KX_500 := Lib.hid (KX_24.out.below bl)
                  clear KX_24
                  have Z_500 := Lib.hid (Nat.le_trans Z_24.out bl.size)
                  clear Z_24
                  clear bl
                  generalize w24.alloc (.cells #[.slice none 0 0, .slice none 0 0, .int .i64 0, .int .i64 0, .float .f32 0] 71) = w500 at K0_500 KO_500 B_500 KW_500 W_500 X_500 KX_500 Z_500 SB_500 ⊢
                  have bl : Below w500.heap.size w500 w500.drew := (Below.refl _ _).drew
                  have K0_600 := Lib.hid (K0_500.out.below bl)
                  clear K0_500
                  have KO_600 := Lib.hid (KO_500.out.below bl)
                  clear KO_500
                  have B_600 := Lib.hid (Below.next B_500.out bl)
                  clear B_500
                  have KW_600 := Lib.hid (KW_500.out.below bl)
                  clear KW_500
                  have W_600 := Lib.hid (W_500.out.kept bl)
                  clear W_500
                  have X_600 := Lib.hid (OwnL.kept X_500.out bl)
                  clear X_500
                  have KX_600 := Lib.hid (KX_500.out.below bl)
                  clear KX_500
                  have Z_600 := Lib.hid (Nat.le_trans Z_500.out bl.size)
                  clear Z_500
                  have SB_600 := Lib.hid (SB_500.out.below bl)
                  clear SB_500
                  clear bl
                  refine (HO.out _).mono ?_
                  rintro e w25 ⟨rfl, bl⟩
                  have K0_25 := Lib.hid (K0_600.out.below bl)
                  clear K0_600
                  have KO_25 := Lib.hid (KO_600.out.below bl)
                  clear KO_600
                  have B_25 := Lib.hid (Below.next B_600.out bl)
                  clear B_600
                  have KW_25 := Lib.hid (KW_600.out.below bl)
                  clear KW_600
                  have W_25 := Lib.hid (W_600.out.kept bl)
                  clear W_600
                  have X_25 := Lib.hid (OwnL.kept X_600.out bl)
                  clear X_600
                  have KX_25 := Lib.hid (KX_600.out.below bl)
                  clear KX_600
                  have Z_25 := Lib.hid (Nat.le_trans Z_600.out bl.size)
                  clear Z_600
                  have SB_25 := Lib.hid (SB_600.out.below bl)
                  clear SB_600
                  clear bl
                  obtain ⟨pKX0, pKXl⟩ := tb1 KX_25.out
                  obtain ⟨pKO0, pKO1, pKO2, pKO3, pKO4, pKOl⟩ := tbt5 KO_25.out
                  obtain ⟨pSB0, pSB1, pSB2, pSB3, pSB4, pSBl⟩ := tbt5 SB_25.out))
          | (go_at_call 44
             first
               | (clear pKX0 pKXl
                  clear pKO0 pKO1 pKO2 pKO3 pKO4 pKOl
                  clear pSB0 pSB1 pSB2 pSB3 pSB4 pSBl
                  have SLT := Lib.hid SB_25.out.lt
                  have ZP := Lib.hid Z_25.out
                  have hc := TI.out gX yX _ (laysAt_own HLX.out X_25.out)
                  rw [HPX.out, HNT.out] at hc
                  refine hc.mono ?_
                  rintro e w26 ⟨qq, rfl, c1, c2, c3, c4, c5, ho, hnd, bl⟩
                  clear hc
                  have K0_26 := Lib.hid (K0_25.out.below bl)
                  clear K0_25
                  have KO_26 := Lib.hid (KO_25.out.below bl)
                  clear KO_25
                  have B_26 := Lib.hid (Below.next B_25.out bl)
                  clear B_25
                  have KW_26 := Lib.hid (KW_25.out.below bl)
                  clear KW_25
                  have W_26 := Lib.hid (W_25.out.kept bl)
                  clear W_25
                  have X_26 := Lib.hid (OwnL.kept X_25.out bl)
                  clear X_25
                  have KX_26 := Lib.hid (KX_25.out.below bl)
                  clear KX_25
                  have Z_26 := Lib.hid (Nat.le_trans Z_25.out bl.size)
                  clear Z_25
                  have SB_26 := Lib.hid (SB_25.out.below bl)
                  clear SB_25
                  clear bl
                  obtain ⟨v0, v1, v2, v3, v4, v5, v6, v7, v8, hr⟩ := cells5 qq
                  have HR := Lib.hid hr
                  have hr' : (#[.slice qq.g qq.ls.length qq.c, .slice qq.h qq.ss.length qq.d, .int .i64 qq.st, .int .i64 qq.sd, .float .f32 qq.sc] : Array Value) = #[.slice v0 v1 v2, .slice v3 v4 v5, .int .i64 v6, .int .i64 v7, .float .f32 v8] := hr
                  rw [hr]
                  clear hr hr'
                  have CC := Lib.hid (And.intro c1 (And.intro c2 (And.intro c3 (And.intro c4 c5))))
                  have QO := Lib.hid ho
                  have QN := Lib.hid hnd
                  have ZQ := Lib.hid ZP.out
                  clear c1 c2 c3 c4 c5 ho hnd
                  obtain ⟨pKX0, pKXl⟩ := tb1 KX_26.out
                  obtain ⟨pKO0, pKO1, pKO2, pKO3, pKO4, pKOl⟩ := tbt5 KO_26.out
                  obtain ⟨pSB0, pSB1, pSB2, pSB3, pSB4, pSBl⟩ := tbt5 SB_26.out
                  obtain ⟨fz0, fz1, fz2, fz3, fz4⟩ := tbtf5 SB_26.out
                  have st5 := storet5 SB_26.out (y0 := .slice v0 v1 v2) (y1 := .slice v3 v4 v5) (y2 := .int .i64 v6) (y3 := .int .i64 v7) (y4 := .float .f32 v8))
               | (clear pKX0 pKXl
                  clear pKO0 pKO1 pKO2 pKO3 pKO4 pKOl
                  have ZP := Lib.hid Z_25.out
                  have hc := TI.out gX yX _ (laysAt_own HLX.out X_25.out)
                  rw [HPX.out, HNT.out] at hc
                  refine hc.mono ?_
                  rintro e w26 ⟨qq, rfl, c1, c2, c3, c4, c5, ho, hnd, bl⟩
                  clear hc
                  have K0_26 := Lib.hid (K0_25.out.below bl)
                  clear K0_25
                  have KO_26 := Lib.hid (KO_25.out.below bl)
                  clear KO_25
                  have B_26 := Lib.hid (Below.next B_25.out bl)
                  clear B_25
                  have KW_26 := Lib.hid (KW_25.out.below bl)
                  clear KW_25
                  have W_26 := Lib.hid (W_25.out.kept bl)
                  clear W_25
                  have X_26 := Lib.hid (OwnL.kept X_25.out bl)
                  clear X_25
                  have KX_26 := Lib.hid (KX_25.out.below bl)
                  clear KX_25
                  have Z_26 := Lib.hid (Nat.le_trans Z_25.out bl.size)
                  clear Z_25
                  clear bl
                  obtain ⟨v0, v1, v2, v3, v4, v5, v6, v7, v8, hr⟩ := cells5 qq
                  have HR := Lib.hid hr
                  have hr' : (#[.slice qq.g qq.ls.length qq.c, .slice qq.h qq.ss.length qq.d, .int .i64 qq.st, .int .i64 qq.sd, .float .f32 qq.sc] : Array Value) = #[.slice v0 v1 v2, .slice v3 v4 v5, .int .i64 v6, .int .i64 v7, .float .f32 v8] := hr
                  rw [hr]
                  clear hr hr'
                  have CC := Lib.hid (And.intro c1 (And.intro c2 (And.intro c3 (And.intro c4 c5))))
                  have QO := Lib.hid ho
                  have QN := Lib.hid hnd
                  have ZQ := Lib.hid ZP.out
                  clear c1 c2 c3 c4 c5 ho hnd
                  obtain ⟨pKX0, pKXl⟩ := tb1 KX_26.out
                  obtain ⟨pKO0, pKO1, pKO2, pKO3, pKO4, pKOl⟩ := tbt5 KO_26.out
                  have ZG := Lib.hid Z_26.out
                  have al := fun ob => (Below.refl w26.heap.size w26).alloc (Nat.le_refl _) ob)
               | (clear pKX0 pKXl
                  clear pKO0 pKO1 pKO2 pKO3 pKO4 pKOl
                  have NSB_K0 : w.heap.size ≠ w25.heap.size := Nat.ne_of_lt K0_25.out.lt
                  have MSB_K0 : w25.heap.size ≠ w.heap.size := Nat.ne_of_gt K0_25.out.lt
                  have NSB_KO : w.heap.size + 1 ≠ w25.heap.size := Nat.ne_of_lt KO_25.out.lt
                  have MSB_KO : w25.heap.size ≠ w.heap.size + 1 := Nat.ne_of_gt KO_25.out.lt
                  have NSB_KW : gW ≠ w25.heap.size := Nat.ne_of_lt KW_25.out.lt
                  have MSB_KW : w25.heap.size ≠ gW := Nat.ne_of_gt KW_25.out.lt
                  have NSB_KX : AX ≠ w25.heap.size := Nat.ne_of_lt KX_25.out.lt
                  have MSB_KX : w25.heap.size ≠ AX := Nat.ne_of_gt KX_25.out.lt
                  have LSB := Lib.hid Z_25.out
                  have LSW := Lib.hid B_25.out.size
                  have bl := (Below.refl w25.heap.size w25).alloc (Nat.le_refl _) (.cells #[.slice none 0 0, .slice none 0 0, .int .i64 0, .int .i64 0, .float .f32 0] 71)
                  have SB_501 := Lib.hid (Blk.new w25 71 #[.slice none 0 0, .slice none 0 0, .int .i64 0, .int .i64 0, .float .f32 0])
                  have K0_501 := Lib.hid (K0_25.out.below bl)
                  clear K0_25
                  have KO_501 := Lib.hid (KO_25.out.below bl)
                  clear KO_25
                  have B_501 := Lib.hid (Below.next B_25.out bl)
                  clear B_25
                  have KW_501 := Lib.hid (KW_25.out.below bl)
                  clear KW_25
                  have W_501 := Lib.hid (W_25.out.kept bl)
                  clear W_25
                  have X_501 := Lib.hid (OwnL.kept X_25.out bl)
                  clear X_25
                  have KX_501 := Lib.hid (KX_25.out.below bl)
                  clear KX_25
                  have Z_501 := Lib.hid (Nat.le_trans Z_25.out bl.size)
                  clear Z_25
                  clear bl
                  generalize w25.alloc (.cells #[.slice none 0 0, .slice none 0 0, .int .i64 0, .int .i64 0, .float .f32 0] 71) = w501 at K0_501 KO_501 B_501 KW_501 W_501 X_501 KX_501 Z_501 SB_501 ⊢
                  have SLT := Lib.hid SB_501.out.lt
                  have ZP := Lib.hid Z_501.out
                  have hc := TI.out gX yX _ (laysAt_own HLX.out X_501.out)
                  rw [HPX.out, HNT.out] at hc
                  refine hc.mono ?_
                  rintro e w26 ⟨qq, rfl, c1, c2, c3, c4, c5, ho, hnd, bl⟩
                  clear hc
                  have K0_26 := Lib.hid (K0_501.out.below bl)
                  clear K0_501
                  have KO_26 := Lib.hid (KO_501.out.below bl)
                  clear KO_501
                  have B_26 := Lib.hid (Below.next B_501.out bl)
                  clear B_501
                  have KW_26 := Lib.hid (KW_501.out.below bl)
                  clear KW_501
                  have W_26 := Lib.hid (W_501.out.kept bl)
                  clear W_501
                  have X_26 := Lib.hid (OwnL.kept X_501.out bl)
                  clear X_501
                  have KX_26 := Lib.hid (KX_501.out.below bl)
                  clear KX_501
                  have Z_26 := Lib.hid (Nat.le_trans Z_501.out bl.size)
                  clear Z_501
                  have SB_26 := Lib.hid (SB_501.out.below bl)
                  clear SB_501
                  clear bl
                  obtain ⟨v0, v1, v2, v3, v4, v5, v6, v7, v8, hr⟩ := cells5 qq
                  have HR := Lib.hid hr
                  have hr' : (#[.slice qq.g qq.ls.length qq.c, .slice qq.h qq.ss.length qq.d, .int .i64 qq.st, .int .i64 qq.sd, .float .f32 qq.sc] : Array Value) = #[.slice v0 v1 v2, .slice v3 v4 v5, .int .i64 v6, .int .i64 v7, .float .f32 v8] := hr
                  rw [hr]
                  clear hr hr'
                  have CC := Lib.hid (And.intro c1 (And.intro c2 (And.intro c3 (And.intro c4 c5))))
                  have QO := Lib.hid ho
                  have QN := Lib.hid hnd
                  have ZQ := Lib.hid ZP.out
                  clear c1 c2 c3 c4 c5 ho hnd
                  obtain ⟨pKX0, pKXl⟩ := tb1 KX_26.out
                  obtain ⟨pKO0, pKO1, pKO2, pKO3, pKO4, pKOl⟩ := tbt5 KO_26.out
                  obtain ⟨pSB0, pSB1, pSB2, pSB3, pSB4, pSBl⟩ := tbt5 SB_26.out
                  obtain ⟨fz0, fz1, fz2, fz3, fz4⟩ := tbtf5 SB_26.out
                  have st5 := storet5 SB_26.out (y0 := .slice v0 v1 v2) (y1 := .slice v3 v4 v5) (y2 := .int .i64 v6) (y3 := .int .i64 v7) (y4 := .float .f32 v8))))
      all_goals
        go_wp2_with fail
        go_meet
        first | exact ⟨_, qq, v0, v1, v2, v3, v4, v5, v6, v7, v8, HR.out, rfl, rfl, st5.1, LSB.out, (fun x hx => Nat.ne_of_gt (Nat.lt_of_lt_of_le SLT.out (QO.out.lt x hx).1)), (show TrsOwn _ _ qq from ⟨OwnL.offg QO.out.1 st5.2 SLT.out, QO.out.2⟩).base ZQ.out, QN.out, CC.out.1, CC.out.2.1, CC.out.2.2.1, CC.out.2.2.2.1, CC.out.2.2.2.2, Below.at_ B_26.out st5.2 LSW.out, K0_26.out.off st5.2 NSB_K0, KO_26.out.off st5.2 NSB_KO, KW_26.out.off st5.2 NSB_KW, ⟨OwnL.upg W_26.out.1 st5.2 (fun x hx => by have := (LTW.out x hx).2; have := LSB.out; omega), W_26.out.2⟩, OwnL.upg X_26.out st5.2 (fun x hx => by have := (LTX.out x hx).2; have := LSB.out; omega), KX_26.out.off st5.2 NSB_KX⟩ | exact ⟨_, qq, v0, v1, v2, v3, v4, v5, v6, v7, v8, HR.out, rfl, rfl, Blk.new _ _ _, ZG.out, (fun x hx => Nat.ne_of_lt (QO.out.lt x hx).2), (QO.out.base ZQ.out).kept (al _), QN.out, CC.out.1, CC.out.2.1, CC.out.2.2.1, CC.out.2.2.2.1, CC.out.2.2.2.2, Below.next B_26.out (al _), K0_26.out.below (al _), KO_26.out.below (al _), KW_26.out.below (al _), W_26.out.kept (al _), OwnL.kept X_26.out (al _), KX_26.out.below (al _)⟩
    case rest =>
    obtain ⟨w44, rfl⟩ : ∃ x : World, x = wc := ⟨_, rfl⟩
    obtain ⟨gG, qG, vg0, vg1, vg2, vg3, vg4, vg5, vg6, vg7, vg8, hr, rfl, rfl, hk, hge, hnb, ho, hnd, c1, c2, c3, c4, c5, hb, h_K0, h_KO, h_KW, h_W, h_X, h_KX⟩ := hcut
    have LTW := Lib.hid W_24.out.lt
    have LTX := Lib.hid (OwnL.lt _ X_24.out)
    have LEG := Lib.hid B_24.out.size
    have GG_K0 := Lib.hid K0_24.out.lt
    have GG_KO := Lib.hid KO_24.out.lt
    have GG_KW := Lib.hid KW_24.out.lt
    have GG_KX := Lib.hid KX_24.out.lt
    clear K0_24 KO_24 B_24 KW_24 W_24 X_24 KX_24
    have K0_44 := Lib.hid h_K0
    have KO_44 := Lib.hid h_KO
    have KW_44 := Lib.hid h_KW
    have W_44 := Lib.hid h_W
    have X_44 := Lib.hid h_X
    have KX_44 := Lib.hid h_KX
    have B_44 := Lib.hid hb
    have KG_44 := Lib.hid hk
    have G_44 := Lib.hid ho
    have NDG := Lib.hid hnd
    have CQG := Lib.hid hr
    have CCG := Lib.hid (And.intro c1 (And.intro c2 (And.intro c3 (And.intro c4 c5))))
    have GEG := Lib.hid hge
    have NBG := Lib.hid hnb
    obtain ⟨BG, hBG⟩ : ∃ x, w24.heap.size = x := ⟨_, rfl⟩
    rw [hBG] at G_44 LEG GEG LTW LTX GG_K0 GG_KO GG_KW GG_KX
    clear hk hge hnb ho hnd hr hb c1 c2 c3 c4 c5 hBG h_K0 h_KO h_KW h_W h_X h_KX
    have DGX := Lib.hid (fun x (hx : x ∈ qG.bl) (hy : x ∈ blL [Cl.sl 155 5 n gX n (laysC yX)]) => show False by have h1 := (G_44.out.lt x hx).1; have h2 := (LTX.out x hy).2; omega)
    have DGW := Lib.hid (fun x (hx : x ∈ qG.bl) (hy : x ∈ qW.bl) => show False by have h1 := (G_44.out.lt x hx).1; have h2 := (LTW.out x hy).2; omega)
    obtain ⟨pKG0, pKG1, pKG2, pKG3, pKG4, pKGl⟩ := tbt5 KG_44.out
    obtain ⟨pKW0, pKW1, pKW2, pKW3, pKW4, pKWl⟩ := tbt5 KW_44.out
    go_wp2_with fail
    clear pKG0 pKG1 pKG2 pKG3 pKG4 pKGl
    clear pKW0 pKW1 pKW2 pKW3 pKW4 pKWl
    have hc := c_eqTrs qG qW _ G_44.out.at W_44.out.at (CCG.out.1.trans CCW.out.1.symm) (CCG.out.2.1.trans CCW.out.2.1.symm) (CCG.out.2.2.1.trans CCW.out.2.2.1.symm) (CCG.out.2.2.2.1.trans CCW.out.2.2.2.1.symm) (congrArg _ (CCG.out.2.2.2.2.trans CCW.out.2.2.2.2.symm))
    rw [CQG.out, CQW.out] at hc
    refine hc.mono ?_
    rintro e w45 ⟨rfl, bl⟩
    clear hc
    have K0_45 := Lib.hid (K0_44.out.below bl)
    clear K0_44
    have KO_45 := Lib.hid (KO_44.out.below bl)
    clear KO_44
    have B_45 := Lib.hid (Below.next B_44.out bl)
    clear B_44
    have KW_45 := Lib.hid (KW_44.out.below bl)
    clear KW_44
    have W_45 := Lib.hid (W_44.out.kept bl)
    clear W_44
    have X_45 := Lib.hid (OwnL.kept X_44.out bl)
    clear X_44
    have KX_45 := Lib.hid (KX_44.out.below bl)
    clear KX_44
    have KG_45 := Lib.hid (KG_44.out.below bl)
    clear KG_44
    have G_45 := Lib.hid (G_44.out.kept bl)
    clear G_44
    clear bl
    obtain ⟨pKX0, pKXl⟩ := tb1 KX_45.out
    obtain ⟨pK00, pK0l⟩ := tb1 K0_45.out
    go_wp2_with fail
    clear pKX0 pKXl
    clear pK00 pK0l
    have bl : Below w45.heap.size w45 w45.drew := (Below.refl _ _).drew
    have K0_46 := Lib.hid (K0_45.out.below bl)
    clear K0_45
    have KO_46 := Lib.hid (KO_45.out.below bl)
    clear KO_45
    have B_46 := Lib.hid (Below.next B_45.out bl)
    clear B_45
    have KW_46 := Lib.hid (KW_45.out.below bl)
    clear KW_45
    have W_46 := Lib.hid (W_45.out.kept bl)
    clear W_45
    have X_46 := Lib.hid (OwnL.kept X_45.out bl)
    clear X_45
    have KX_46 := Lib.hid (KX_45.out.below bl)
    clear KX_45
    have KG_46 := Lib.hid (KG_45.out.below bl)
    clear KG_45
    have G_46 := Lib.hid (G_45.out.kept bl)
    clear G_45
    clear bl
    obtain ⟨pKX0, pKXl⟩ := tb1 KX_46.out
    obtain ⟨pK00, pK0l⟩ := tb1 K0_46.out
    go_region_held3 (fun w' => w'.cell? ⟨AX, 0, none⟩ = some (.slice gX n n) ∧ w'.cell? ⟨w.heap.size, 0, none⟩ = some (.slice g n c)) (go_keep)
      (first
        | (go_at_call 42
           refine (HA.out _ B_46.out).mono ?_
           rintro e w47 ⟨gY, yY, rfl, hl, hp, ho, hnd, bl⟩
           have K0_47 := Lib.hid (K0_46.out.below bl)
           clear K0_46
           have KO_47 := Lib.hid (KO_46.out.below bl)
           clear KO_46
           have B_47 := Lib.hid (Below.next B_46.out bl)
           clear B_46
           have KW_47 := Lib.hid (KW_46.out.below bl)
           clear KW_46
           have W_47 := Lib.hid (W_46.out.kept bl)
           clear W_46
           have X_47 := Lib.hid (OwnL.kept X_46.out bl)
           clear X_46
           have KX_47 := Lib.hid (KX_46.out.below bl)
           clear KX_46
           have KG_47 := Lib.hid (KG_46.out.below bl)
           clear KG_46
           have G_47 := Lib.hid (G_46.out.kept bl)
           clear G_46
           clear bl
           have HPY := Lib.hid hp
           have Y_47 := Lib.hid (laysAt_own hl ho)
           clear hl hp ho hnd
           obtain ⟨pKX0, pKXl⟩ := tb1 KX_47.out
           obtain ⟨pK00, pK0l⟩ := tb1 K0_47.out)
        | (go_at_call 46
           refine (c_eqMod gX _ n n n yX yY _ (laysAt_own HLX.out X_47.out) Y_47.out (can_of (HPX.out.trans HPY.out.symm))).mono ?_
           rintro e w48 ⟨rfl, bl⟩
           have K0_48 := Lib.hid (K0_47.out.below bl)
           clear K0_47
           have KO_48 := Lib.hid (KO_47.out.below bl)
           clear KO_47
           have B_48 := Lib.hid (Below.next B_47.out bl)
           clear B_47
           have KW_48 := Lib.hid (KW_47.out.below bl)
           clear KW_47
           have W_48 := Lib.hid (W_47.out.kept bl)
           clear W_47
           have X_48 := Lib.hid (OwnL.kept X_47.out bl)
           clear X_47
           have KX_48 := Lib.hid (KX_47.out.below bl)
           clear KX_47
           have KG_48 := Lib.hid (KG_47.out.below bl)
           clear KG_47
           have G_48 := Lib.hid (G_47.out.kept bl)
           clear G_47
           have Y_48 := Lib.hid (Y_47.out.kept bl)
           clear Y_47
           clear bl
           obtain ⟨pKX0, pKXl⟩ := tb1 KX_48.out
           obtain ⟨pK00, pK0l⟩ := tb1 K0_48.out))
    clear pKX0 pKXl
    clear pK00 pK0l
    clear Y_48
    obtain ⟨m, hm⟩ : ∃ m, 1 + cntLays yX = m := ⟨_, rfl⟩
    have HMM := Lib.hid hm
    have hm4 : m ≤ 4194304 := by have h1 := cnt_bound yX; have h2 := HLX.out; have h3 := HPX.out; have h4 := HLS.out; rw [h3] at h1; omega
    have hm0 : (0 : Int) ≤ (m : Int) := by omega
    clear hm
    obtain ⟨s, hs⟩ : ∃ s, 1 + cntTrs qG = s := ⟨_, rfl⟩
    have HSS := Lib.hid hs
    have hbd := trs_bound qG CCG.out.1 CCG.out.2.1 HB1.out HB2.out HB3.out HB4.out
    have hs4 : s ≤ 1048576 := by have := hbd.1; omega
    have hs0 : (0 : Int) ≤ (s : Int) := by omega
    have HBD := Lib.hid hbd
    clear hs hbd
    obtain ⟨pKX0, pKXl⟩ := tb1 KX_48.out
    go_wp2_with fail
    clear pKX0 pKXl
    refine (c_markMod gX n n 1 m BX yX _ HLX.out X_48.out NDX.out HMM.out hm4 (by rw [HPX.out]; have := HLS.out; omega)).mono ?_
    rintro e w49 ⟨rfl, ho, hg⟩
    have K0_49 := Lib.hid (K0_48.out.inn hg (fun hx => by have h1 := (OwnL.lt _ X_48.out _ hx).1; have h2 := XK0.out; omega))
    have KO_49 := Lib.hid (KO_48.out.inn hg (fun hx => by have h1 := (OwnL.lt _ X_48.out _ hx).1; have h2 := XKO.out; omega))
    have B_49 := Lib.hid (hg.below' B_48.out (fun g h => Nat.le_trans LEX.out (OwnL.lt _ X_48.out g h).1))
    have KW_49 := Lib.hid (KW_48.out.inn hg (fun hx => by have h1 := (OwnL.lt _ X_48.out _ hx).1; have h2 := XKW.out; omega))
    have W_49 := Lib.hid (show TrsOwn _ _ qW from ⟨OwnL.apart hg _ W_48.out.1 (fun x hx hy => DWX.out x hx hy), W_48.out.2⟩)
    have KX_49 := Lib.hid (KX_48.out.inn hg (fun hx => by have h1 := (XKX.out _ hx).2; omega))
    have KG_49 := Lib.hid (KG_48.out.inn hg (fun hx => by have h1 := (LTX.out _ hx).2; have h2 := GEG.out; omega))
    have G_49 := Lib.hid (show TrsOwn _ _ qG from ⟨OwnL.apart hg _ G_48.out.1 (fun x hx hy => DGX.out x hx hy), G_48.out.2⟩)
    clear X_48 ho hg
    obtain ⟨pKG0, pKG1, pKG2, pKG3, pKG4, pKGl⟩ := tbt5 KG_49.out
    obtain ⟨pKW0, pKW1, pKW2, pKW3, pKW4, pKWl⟩ := tbt5 KW_49.out
    go_wp2_with fail
    clear pKG0 pKG1 pKG2 pKG3 pKG4 pKGl
    clear pKW0 pKW1 pKW2 pKW3 pKW4 pKWl
    have hc := c_eqTrs qG qW _ G_49.out.at W_49.out.at (CCG.out.1.trans CCW.out.1.symm) (CCG.out.2.1.trans CCW.out.2.1.symm) (CCG.out.2.2.1.trans CCW.out.2.2.1.symm) (CCG.out.2.2.2.1.trans CCW.out.2.2.2.1.symm) (congrArg _ (CCG.out.2.2.2.2.trans CCW.out.2.2.2.2.symm))
    rw [CQG.out, CQW.out] at hc
    refine hc.mono ?_
    rintro e w50 ⟨rfl, bl⟩
    clear hc
    have K0_50 := Lib.hid (K0_49.out.below bl)
    clear K0_49
    have KO_50 := Lib.hid (KO_49.out.below bl)
    clear KO_49
    have B_50 := Lib.hid (Below.next B_49.out bl)
    clear B_49
    have KW_50 := Lib.hid (KW_49.out.below bl)
    clear KW_49
    have W_50 := Lib.hid (W_49.out.kept bl)
    clear W_49
    have KG_50 := Lib.hid (KG_49.out.below bl)
    clear KG_49
    have G_50 := Lib.hid (G_49.out.kept bl)
    clear G_49
    clear bl
    obtain ⟨pKG0, pKG1, pKG2, pKG3, pKG4, pKGl⟩ := tbt5 KG_50.out
    go_wp2_with fail
    clear pKG0 pKG1 pKG2 pKG3 pKG4 pKGl
    have hc := c_markTrs qG BG 1 s _ G_50.out NDG.out HSS.out hs4 HBD.out.2.1 HBD.out.2.2
    rw [CQG.out] at hc
    refine hc.mono ?_
    rintro e w51 ⟨rfl, ho, hg⟩
    clear hc
    have K0_51 := Lib.hid (K0_50.out.inn hg (fun hx => by have h1 := (G_50.out.lt _ hx).1; have h2 := GG_K0.out; omega))
    have KO_51 := Lib.hid (KO_50.out.inn hg (fun hx => by have h1 := (G_50.out.lt _ hx).1; have h2 := GG_KO.out; omega))
    have B_51 := Lib.hid (hg.below' B_50.out (fun g h => Nat.le_trans LEG.out (G_50.out.lt g h).1))
    have KW_51 := Lib.hid (KW_50.out.inn hg (fun hx => by have h1 := (G_50.out.lt _ hx).1; have h2 := GG_KW.out; omega))
    have W_51 := Lib.hid (show TrsOwn _ _ qW from ⟨OwnL.apart hg _ W_50.out.1 (fun x hx hy => DGW.out x hy hx), W_50.out.2⟩)
    have KG_51 := Lib.hid (KG_50.out.inn hg (fun hx => NBG.out _ hx rfl))
    have G_51 := Lib.hid ho
    clear ho hg
    obtain ⟨pKG0, pKG1, pKG2, pKG3, pKG4, pKGl⟩ := tbt5 KG_51.out
    go_wp2_with fail
    clear pKG0 pKG1 pKG2 pKG3 pKG4 pKGl
    have hc := c_heldTrs qG BG 1 s _ G_51.out HSS.out hs4 HBD.out.2.1 HBD.out.2.2
    rw [CQG.out] at hc
    refine hc.mono ?_
    rintro e w52 ⟨rfl, bl⟩
    clear hc
    have K0_52 := Lib.hid (K0_51.out.below bl)
    clear K0_51
    have KO_52 := Lib.hid (KO_51.out.below bl)
    clear KO_51
    have B_52 := Lib.hid (Below.next B_51.out bl)
    clear B_51
    have KW_52 := Lib.hid (KW_51.out.below bl)
    clear KW_51
    have W_52 := Lib.hid (W_51.out.kept bl)
    clear W_51
    have KG_52 := Lib.hid (KG_51.out.below bl)
    clear KG_51
    have G_52 := Lib.hid (G_51.out.kept bl)
    clear G_51
    clear bl
    obtain ⟨pK00, pK0l⟩ := tb1 K0_52.out
    obtain ⟨pKO0, pKO1, pKO2, pKO3, pKO4, pKOl⟩ := tbt5 KO_52.out
    go_upto_region 24 with fail
    clear pK00 pK0l
    clear pKO0 pKO1 pKO2 pKO3 pKO4 pKOl
    go_cut [16, 17] (fun s t wx => CutN w w52.heap.size ok PSc ZS sd2 sc2 (fun wx => Blk wx (w.heap.size) 62 #[.slice g n c] ∧ Blk wx (w.heap.size + 1) 64 #[.int .i64 k, .float .f32 r, .float .f32 b1, .float .f32 b2, .float .f32 ep] ∧ Blk wx (gW) 71 #[.slice vw0 vw1 vw2, .slice vw3 vw4 vw5, .int .i64 vw6, .int .i64 vw7, .float .f32 vw8] ∧ TrsOwn wx BW qW ∧ Blk wx (gG) 71 #[.slice vg0 vg1 vg2, .slice vg3 vg4 vg5, .int .i64 vg6, .int .i64 vg7, .float .f32 vg8] ∧ TrsOwn wx BG (mkTrs 1 qG)) s t wx)
    case first =>
      have LTW := Lib.hid W_52.out.lt
      have LTG := Lib.hid G_52.out.lt
      have Z_52 := Lib.hid (Nat.le_refl w52.heap.size)
      obtain ⟨pK00, pK0l⟩ := tb1 K0_52.out
      obtain ⟨pKO0, pKO1, pKO2, pKO3, pKO4, pKOl⟩ := tbt5 KO_52.out
      go_region_held3 (fun w' => w'.cell? ⟨w.heap.size, 0, none⟩ = some (.slice g n c) ∧ w'.cell? ⟨w.heap.size + 1, 0, none⟩ = some (.int .i64 k) ∧ w'.cell? ⟨w.heap.size + 1, 1, none⟩ = some (.float .f32 r) ∧ w'.cell? ⟨w.heap.size + 1, 2, none⟩ = some (.float .f32 b1) ∧ w'.cell? ⟨w.heap.size + 1, 3, none⟩ = some (.float .f32 b2) ∧ w'.cell? ⟨w.heap.size + 1, 4, none⟩ = some (.float .f32 ep)) (go_keep)
        (first
          | (go_at_call 42
             first
               | (clear pK00 pK0l
                  clear pKO0 pKO1 pKO2 pKO3 pKO4 pKOl
                  have bl : Below w52.heap.size w52 w52.drew := (Below.refl _ _).drew
                  have K0_600 := Lib.hid (K0_52.out.below bl)
                  clear K0_52
                  have KO_600 := Lib.hid (KO_52.out.below bl)
                  clear KO_52
                  have B_600 := Lib.hid (Below.next B_52.out bl)
                  clear B_52
                  have KW_600 := Lib.hid (KW_52.out.below bl)
                  clear KW_52
                  have W_600 := Lib.hid (W_52.out.kept bl)
                  clear W_52
                  have KG_600 := Lib.hid (KG_52.out.below bl)
                  clear KG_52
                  have G_600 := Lib.hid (G_52.out.kept bl)
                  clear G_52
                  have Z_600 := Lib.hid (Nat.le_trans Z_52.out bl.size)
                  clear Z_52
                  clear bl
                  refine (HA.out _ B_600.out).mono ?_
                  rintro e w53 ⟨gT, yT, rfl, hl, hp, ho, hnd, bl⟩
                  have K0_53 := Lib.hid (K0_600.out.below bl)
                  clear K0_600
                  have KO_53 := Lib.hid (KO_600.out.below bl)
                  clear KO_600
                  have B_53 := Lib.hid (Below.next B_600.out bl)
                  clear B_600
                  have KW_53 := Lib.hid (KW_600.out.below bl)
                  clear KW_600
                  have W_53 := Lib.hid (W_600.out.kept bl)
                  clear W_600
                  have KG_53 := Lib.hid (KG_600.out.below bl)
                  clear KG_600
                  have G_53 := Lib.hid (G_600.out.kept bl)
                  clear G_600
                  have Z_53 := Lib.hid (Nat.le_trans Z_600.out bl.size)
                  clear Z_600
                  clear bl
                  have HPT := Lib.hid hp
                  have HLT := Lib.hid hl
                  have T_53 := Lib.hid (laysAt_own hl ho)
                  clear ho hnd hl hp
                  obtain ⟨pK00, pK0l⟩ := tb1 K0_53.out
                  obtain ⟨pKO0, pKO1, pKO2, pKO3, pKO4, pKOl⟩ := tbt5 KO_53.out)
               | (clear pK00 pK0l
                  clear pKO0 pKO1 pKO2 pKO3 pKO4 pKOl
                  have NSB_K0 : w.heap.size ≠ w52.heap.size := Nat.ne_of_lt K0_52.out.lt
                  have MSB_K0 : w52.heap.size ≠ w.heap.size := Nat.ne_of_gt K0_52.out.lt
                  have NSB_KO : w.heap.size + 1 ≠ w52.heap.size := Nat.ne_of_lt KO_52.out.lt
                  have MSB_KO : w52.heap.size ≠ w.heap.size + 1 := Nat.ne_of_gt KO_52.out.lt
                  have NSB_KW : gW ≠ w52.heap.size := Nat.ne_of_lt KW_52.out.lt
                  have MSB_KW : w52.heap.size ≠ gW := Nat.ne_of_gt KW_52.out.lt
                  have NSB_KG : gG ≠ w52.heap.size := Nat.ne_of_lt KG_52.out.lt
                  have MSB_KG : w52.heap.size ≠ gG := Nat.ne_of_gt KG_52.out.lt
                  have LSB := Lib.hid Z_52.out
                  have LSW := Lib.hid B_52.out.size
                  have bl := (Below.refl w52.heap.size w52).alloc (Nat.le_refl _) (.cells #[.slice none 0 0, .slice none 0 0, .int .i64 0, .int .i64 0, .float .f32 0] 71)
                  have SB_500 := Lib.hid (Blk.new w52 71 #[.slice none 0 0, .slice none 0 0, .int .i64 0, .int .i64 0, .float .f32 0])
                  have K0_500 := Lib.hid (K0_52.out.below bl)
                  clear K0_52
                  have KO_500 := Lib.hid (KO_52.out.below bl)
                  clear KO_52
                  have B_500 := Lib.hid (Below.next B_52.out bl)
                  clear B_52
                  have KW_500 := Lib.hid (KW_52.out.below bl)
                  clear KW_52
                  have W_500 := Lib.hid (W_52.out.kept bl)
                  clear W_52
                  have KG_500 := Lib.hid (KG_52.out.below bl)
                  clear KG_52
                  have G_500 := Lib.hid (G_52.out.kept bl)
                  clear G_52
                  have Z_500 := Lib.hid (Nat.le_trans Z_52.out bl.size)
                  clear Z_52
                  clear bl
                  generalize w52.alloc (.cells #[.slice none 0 0, .slice none 0 0, .int .i64 0, .int .i64 0, .float .f32 0] 71) = w500 at K0_500 KO_500 B_500 KW_500 W_500 KG_500 G_500 Z_500 SB_500 ⊢
                  have bl : Below w500.heap.size w500 w500.drew := (Below.refl _ _).drew
                  have K0_600 := Lib.hid (K0_500.out.below bl)
                  clear K0_500
                  have KO_600 := Lib.hid (KO_500.out.below bl)
                  clear KO_500
                  have B_600 := Lib.hid (Below.next B_500.out bl)
                  clear B_500
                  have KW_600 := Lib.hid (KW_500.out.below bl)
                  clear KW_500
                  have W_600 := Lib.hid (W_500.out.kept bl)
                  clear W_500
                  have KG_600 := Lib.hid (KG_500.out.below bl)
                  clear KG_500
                  have G_600 := Lib.hid (G_500.out.kept bl)
                  clear G_500
                  have Z_600 := Lib.hid (Nat.le_trans Z_500.out bl.size)
                  clear Z_500
                  have SB_600 := Lib.hid (SB_500.out.below bl)
                  clear SB_500
                  clear bl
                  refine (HA.out _ B_600.out).mono ?_
                  rintro e w53 ⟨gT, yT, rfl, hl, hp, ho, hnd, bl⟩
                  have K0_53 := Lib.hid (K0_600.out.below bl)
                  clear K0_600
                  have KO_53 := Lib.hid (KO_600.out.below bl)
                  clear KO_600
                  have B_53 := Lib.hid (Below.next B_600.out bl)
                  clear B_600
                  have KW_53 := Lib.hid (KW_600.out.below bl)
                  clear KW_600
                  have W_53 := Lib.hid (W_600.out.kept bl)
                  clear W_600
                  have KG_53 := Lib.hid (KG_600.out.below bl)
                  clear KG_600
                  have G_53 := Lib.hid (G_600.out.kept bl)
                  clear G_600
                  have Z_53 := Lib.hid (Nat.le_trans Z_600.out bl.size)
                  clear Z_600
                  have SB_53 := Lib.hid (SB_600.out.below bl)
                  clear SB_600
                  clear bl
                  have HPT := Lib.hid hp
                  have HLT := Lib.hid hl
                  have T_53 := Lib.hid (laysAt_own hl ho)
                  clear ho hnd hl hp
                  obtain ⟨pK00, pK0l⟩ := tb1 K0_53.out
                  obtain ⟨pKO0, pKO1, pKO2, pKO3, pKO4, pKOl⟩ := tbt5 KO_53.out
                  obtain ⟨pSB0, pSB1, pSB2, pSB3, pSB4, pSBl⟩ := tbt5 SB_53.out))
          | (go_at_call 43
             first
               | (clear pK00 pK0l
                  clear pKO0 pKO1 pKO2 pKO3 pKO4 pKOl
                  clear pSB0 pSB1 pSB2 pSB3 pSB4 pSBl
                  refine (HO.out _).mono ?_
                  rintro e w54 ⟨rfl, bl⟩
                  have K0_54 := Lib.hid (K0_53.out.below bl)
                  clear K0_53
                  have KO_54 := Lib.hid (KO_53.out.below bl)
                  clear KO_53
                  have B_54 := Lib.hid (Below.next B_53.out bl)
                  clear B_53
                  have KW_54 := Lib.hid (KW_53.out.below bl)
                  clear KW_53
                  have W_54 := Lib.hid (W_53.out.kept bl)
                  clear W_53
                  have KG_54 := Lib.hid (KG_53.out.below bl)
                  clear KG_53
                  have G_54 := Lib.hid (G_53.out.kept bl)
                  clear G_53
                  have Z_54 := Lib.hid (Nat.le_trans Z_53.out bl.size)
                  clear Z_53
                  have T_54 := Lib.hid (T_53.out.kept bl)
                  clear T_53
                  have SB_54 := Lib.hid (SB_53.out.below bl)
                  clear SB_53
                  clear bl
                  obtain ⟨pK00, pK0l⟩ := tb1 K0_54.out
                  obtain ⟨pKO0, pKO1, pKO2, pKO3, pKO4, pKOl⟩ := tbt5 KO_54.out
                  obtain ⟨pSB0, pSB1, pSB2, pSB3, pSB4, pSBl⟩ := tbt5 SB_54.out)
               | (clear pK00 pK0l
                  clear pKO0 pKO1 pKO2 pKO3 pKO4 pKOl
                  refine (HO.out _).mono ?_
                  rintro e w54 ⟨rfl, bl⟩
                  have K0_54 := Lib.hid (K0_53.out.below bl)
                  clear K0_53
                  have KO_54 := Lib.hid (KO_53.out.below bl)
                  clear KO_53
                  have B_54 := Lib.hid (Below.next B_53.out bl)
                  clear B_53
                  have KW_54 := Lib.hid (KW_53.out.below bl)
                  clear KW_53
                  have W_54 := Lib.hid (W_53.out.kept bl)
                  clear W_53
                  have KG_54 := Lib.hid (KG_53.out.below bl)
                  clear KG_53
                  have G_54 := Lib.hid (G_53.out.kept bl)
                  clear G_53
                  have Z_54 := Lib.hid (Nat.le_trans Z_53.out bl.size)
                  clear Z_53
                  have T_54 := Lib.hid (T_53.out.kept bl)
                  clear T_53
                  clear bl
                  obtain ⟨pK00, pK0l⟩ := tb1 K0_54.out
                  obtain ⟨pKO0, pKO1, pKO2, pKO3, pKO4, pKOl⟩ := tbt5 KO_54.out)
               | (clear pK00 pK0l
                  clear pKO0 pKO1 pKO2 pKO3 pKO4 pKOl
                  have NSB_K0 : w.heap.size ≠ w53.heap.size := Nat.ne_of_lt K0_53.out.lt
                  have MSB_K0 : w53.heap.size ≠ w.heap.size := Nat.ne_of_gt K0_53.out.lt
                  have NSB_KO : w.heap.size + 1 ≠ w53.heap.size := Nat.ne_of_lt KO_53.out.lt
                  have MSB_KO : w53.heap.size ≠ w.heap.size + 1 := Nat.ne_of_gt KO_53.out.lt
                  have NSB_KW : gW ≠ w53.heap.size := Nat.ne_of_lt KW_53.out.lt
                  have MSB_KW : w53.heap.size ≠ gW := Nat.ne_of_gt KW_53.out.lt
                  have NSB_KG : gG ≠ w53.heap.size := Nat.ne_of_lt KG_53.out.lt
                  have MSB_KG : w53.heap.size ≠ gG := Nat.ne_of_gt KG_53.out.lt
                  have LSB := Lib.hid Z_53.out
                  have LSW := Lib.hid B_53.out.size
                  have bl := (Below.refl w53.heap.size w53).alloc (Nat.le_refl _) (.cells #[.slice none 0 0, .slice none 0 0, .int .i64 0, .int .i64 0, .float .f32 0] 71)
                  have SB_501 := Lib.hid (Blk.new w53 71 #[.slice none 0 0, .slice none 0 0, .int .i64 0, .int .i64 0, .float .f32 0])
                  have K0_501 := Lib.hid (K0_53.out.below bl)
                  clear K0_53
                  have KO_501 := Lib.hid (KO_53.out.below bl)
                  clear KO_53
                  have B_501 := Lib.hid (Below.next B_53.out bl)
                  clear B_53
                  have KW_501 := Lib.hid (KW_53.out.below bl)
                  clear KW_53
                  have W_501 := Lib.hid (W_53.out.kept bl)
                  clear W_53
                  have KG_501 := Lib.hid (KG_53.out.below bl)
                  clear KG_53
                  have G_501 := Lib.hid (G_53.out.kept bl)
                  clear G_53
                  have Z_501 := Lib.hid (Nat.le_trans Z_53.out bl.size)
                  clear Z_53
                  have T_501 := Lib.hid (T_53.out.kept bl)
                  clear T_53
                  clear bl
                  generalize w53.alloc (.cells #[.slice none 0 0, .slice none 0 0, .int .i64 0, .int .i64 0, .float .f32 0] 71) = w501 at K0_501 KO_501 B_501 KW_501 W_501 KG_501 G_501 Z_501 T_501 SB_501 ⊢
                  refine (HO.out _).mono ?_
                  rintro e w54 ⟨rfl, bl⟩
                  have K0_54 := Lib.hid (K0_501.out.below bl)
                  clear K0_501
                  have KO_54 := Lib.hid (KO_501.out.below bl)
                  clear KO_501
                  have B_54 := Lib.hid (Below.next B_501.out bl)
                  clear B_501
                  have KW_54 := Lib.hid (KW_501.out.below bl)
                  clear KW_501
                  have W_54 := Lib.hid (W_501.out.kept bl)
                  clear W_501
                  have KG_54 := Lib.hid (KG_501.out.below bl)
                  clear KG_501
                  have G_54 := Lib.hid (G_501.out.kept bl)
                  clear G_501
                  have Z_54 := Lib.hid (Nat.le_trans Z_501.out bl.size)
                  clear Z_501
                  have T_54 := Lib.hid (T_501.out.kept bl)
                  clear T_501
                  have SB_54 := Lib.hid (SB_501.out.below bl)
                  clear SB_501
                  clear bl
                  obtain ⟨pK00, pK0l⟩ := tb1 K0_54.out
                  obtain ⟨pKO0, pKO1, pKO2, pKO3, pKO4, pKOl⟩ := tbt5 KO_54.out
                  obtain ⟨pSB0, pSB1, pSB2, pSB3, pSB4, pSBl⟩ := tbt5 SB_54.out))
          | (go_at_call 44
             first
               | (clear pK00 pK0l
                  clear pKO0 pKO1 pKO2 pKO3 pKO4 pKOl
                  clear pSB0 pSB1 pSB2 pSB3 pSB4 pSBl
                  have SLT := Lib.hid SB_54.out.lt
                  have ZP := Lib.hid Z_54.out
                  have hc := TI.out (some ⟨gT, 0, none⟩) yT _ T_54.out
                  rw [HPT.out, HNT.out] at hc
                  refine hc.mono ?_
                  rintro e w55 ⟨qq, rfl, c1, c2, c3, c4, c5, ho, hnd, bl⟩
                  clear hc
                  have K0_55 := Lib.hid (K0_54.out.below bl)
                  clear K0_54
                  have KO_55 := Lib.hid (KO_54.out.below bl)
                  clear KO_54
                  have B_55 := Lib.hid (Below.next B_54.out bl)
                  clear B_54
                  have KW_55 := Lib.hid (KW_54.out.below bl)
                  clear KW_54
                  have W_55 := Lib.hid (W_54.out.kept bl)
                  clear W_54
                  have KG_55 := Lib.hid (KG_54.out.below bl)
                  clear KG_54
                  have G_55 := Lib.hid (G_54.out.kept bl)
                  clear G_54
                  have Z_55 := Lib.hid (Nat.le_trans Z_54.out bl.size)
                  clear Z_54
                  have T_55 := Lib.hid (T_54.out.kept bl)
                  clear T_54
                  have SB_55 := Lib.hid (SB_54.out.below bl)
                  clear SB_54
                  clear bl
                  obtain ⟨v0, v1, v2, v3, v4, v5, v6, v7, v8, hr⟩ := cells5 qq
                  have HR := Lib.hid hr
                  have hr' : (#[.slice qq.g qq.ls.length qq.c, .slice qq.h qq.ss.length qq.d, .int .i64 qq.st, .int .i64 qq.sd, .float .f32 qq.sc] : Array Value) = #[.slice v0 v1 v2, .slice v3 v4 v5, .int .i64 v6, .int .i64 v7, .float .f32 v8] := hr
                  rw [hr]
                  clear hr hr'
                  have CC := Lib.hid (And.intro c1 (And.intro c2 (And.intro c3 (And.intro c4 c5))))
                  have QO := Lib.hid ho
                  have QN := Lib.hid hnd
                  have ZQ := Lib.hid ZP.out
                  clear c1 c2 c3 c4 c5 ho hnd
                  obtain ⟨pK00, pK0l⟩ := tb1 K0_55.out
                  obtain ⟨pKO0, pKO1, pKO2, pKO3, pKO4, pKOl⟩ := tbt5 KO_55.out
                  obtain ⟨pSB0, pSB1, pSB2, pSB3, pSB4, pSBl⟩ := tbt5 SB_55.out
                  obtain ⟨fz0, fz1, fz2, fz3, fz4⟩ := tbtf5 SB_55.out
                  have st5 := storet5 SB_55.out (y0 := .slice v0 v1 v2) (y1 := .slice v3 v4 v5) (y2 := .int .i64 v6) (y3 := .int .i64 v7) (y4 := .float .f32 v8))
               | (clear pK00 pK0l
                  clear pKO0 pKO1 pKO2 pKO3 pKO4 pKOl
                  have ZP := Lib.hid Z_54.out
                  have hc := TI.out (some ⟨gT, 0, none⟩) yT _ T_54.out
                  rw [HPT.out, HNT.out] at hc
                  refine hc.mono ?_
                  rintro e w55 ⟨qq, rfl, c1, c2, c3, c4, c5, ho, hnd, bl⟩
                  clear hc
                  have K0_55 := Lib.hid (K0_54.out.below bl)
                  clear K0_54
                  have KO_55 := Lib.hid (KO_54.out.below bl)
                  clear KO_54
                  have B_55 := Lib.hid (Below.next B_54.out bl)
                  clear B_54
                  have KW_55 := Lib.hid (KW_54.out.below bl)
                  clear KW_54
                  have W_55 := Lib.hid (W_54.out.kept bl)
                  clear W_54
                  have KG_55 := Lib.hid (KG_54.out.below bl)
                  clear KG_54
                  have G_55 := Lib.hid (G_54.out.kept bl)
                  clear G_54
                  have Z_55 := Lib.hid (Nat.le_trans Z_54.out bl.size)
                  clear Z_54
                  have T_55 := Lib.hid (T_54.out.kept bl)
                  clear T_54
                  clear bl
                  obtain ⟨v0, v1, v2, v3, v4, v5, v6, v7, v8, hr⟩ := cells5 qq
                  have HR := Lib.hid hr
                  have hr' : (#[.slice qq.g qq.ls.length qq.c, .slice qq.h qq.ss.length qq.d, .int .i64 qq.st, .int .i64 qq.sd, .float .f32 qq.sc] : Array Value) = #[.slice v0 v1 v2, .slice v3 v4 v5, .int .i64 v6, .int .i64 v7, .float .f32 v8] := hr
                  rw [hr]
                  clear hr hr'
                  have CC := Lib.hid (And.intro c1 (And.intro c2 (And.intro c3 (And.intro c4 c5))))
                  have QO := Lib.hid ho
                  have QN := Lib.hid hnd
                  have ZQ := Lib.hid ZP.out
                  clear c1 c2 c3 c4 c5 ho hnd
                  obtain ⟨pK00, pK0l⟩ := tb1 K0_55.out
                  obtain ⟨pKO0, pKO1, pKO2, pKO3, pKO4, pKOl⟩ := tbt5 KO_55.out
                  have ZG := Lib.hid Z_55.out
                  have al := fun ob => (Below.refl w55.heap.size w55).alloc (Nat.le_refl _) ob)
               | (clear pK00 pK0l
                  clear pKO0 pKO1 pKO2 pKO3 pKO4 pKOl
                  have NSB_K0 : w.heap.size ≠ w54.heap.size := Nat.ne_of_lt K0_54.out.lt
                  have MSB_K0 : w54.heap.size ≠ w.heap.size := Nat.ne_of_gt K0_54.out.lt
                  have NSB_KO : w.heap.size + 1 ≠ w54.heap.size := Nat.ne_of_lt KO_54.out.lt
                  have MSB_KO : w54.heap.size ≠ w.heap.size + 1 := Nat.ne_of_gt KO_54.out.lt
                  have NSB_KW : gW ≠ w54.heap.size := Nat.ne_of_lt KW_54.out.lt
                  have MSB_KW : w54.heap.size ≠ gW := Nat.ne_of_gt KW_54.out.lt
                  have NSB_KG : gG ≠ w54.heap.size := Nat.ne_of_lt KG_54.out.lt
                  have MSB_KG : w54.heap.size ≠ gG := Nat.ne_of_gt KG_54.out.lt
                  have LSB := Lib.hid Z_54.out
                  have LSW := Lib.hid B_54.out.size
                  have bl := (Below.refl w54.heap.size w54).alloc (Nat.le_refl _) (.cells #[.slice none 0 0, .slice none 0 0, .int .i64 0, .int .i64 0, .float .f32 0] 71)
                  have SB_502 := Lib.hid (Blk.new w54 71 #[.slice none 0 0, .slice none 0 0, .int .i64 0, .int .i64 0, .float .f32 0])
                  have K0_502 := Lib.hid (K0_54.out.below bl)
                  clear K0_54
                  have KO_502 := Lib.hid (KO_54.out.below bl)
                  clear KO_54
                  have B_502 := Lib.hid (Below.next B_54.out bl)
                  clear B_54
                  have KW_502 := Lib.hid (KW_54.out.below bl)
                  clear KW_54
                  have W_502 := Lib.hid (W_54.out.kept bl)
                  clear W_54
                  have KG_502 := Lib.hid (KG_54.out.below bl)
                  clear KG_54
                  have G_502 := Lib.hid (G_54.out.kept bl)
                  clear G_54
                  have Z_502 := Lib.hid (Nat.le_trans Z_54.out bl.size)
                  clear Z_54
                  have T_502 := Lib.hid (T_54.out.kept bl)
                  clear T_54
                  clear bl
                  generalize w54.alloc (.cells #[.slice none 0 0, .slice none 0 0, .int .i64 0, .int .i64 0, .float .f32 0] 71) = w502 at K0_502 KO_502 B_502 KW_502 W_502 KG_502 G_502 Z_502 T_502 SB_502 ⊢
                  have SLT := Lib.hid SB_502.out.lt
                  have ZP := Lib.hid Z_502.out
                  have hc := TI.out (some ⟨gT, 0, none⟩) yT _ T_502.out
                  rw [HPT.out, HNT.out] at hc
                  refine hc.mono ?_
                  rintro e w55 ⟨qq, rfl, c1, c2, c3, c4, c5, ho, hnd, bl⟩
                  clear hc
                  have K0_55 := Lib.hid (K0_502.out.below bl)
                  clear K0_502
                  have KO_55 := Lib.hid (KO_502.out.below bl)
                  clear KO_502
                  have B_55 := Lib.hid (Below.next B_502.out bl)
                  clear B_502
                  have KW_55 := Lib.hid (KW_502.out.below bl)
                  clear KW_502
                  have W_55 := Lib.hid (W_502.out.kept bl)
                  clear W_502
                  have KG_55 := Lib.hid (KG_502.out.below bl)
                  clear KG_502
                  have G_55 := Lib.hid (G_502.out.kept bl)
                  clear G_502
                  have Z_55 := Lib.hid (Nat.le_trans Z_502.out bl.size)
                  clear Z_502
                  have T_55 := Lib.hid (T_502.out.kept bl)
                  clear T_502
                  have SB_55 := Lib.hid (SB_502.out.below bl)
                  clear SB_502
                  clear bl
                  obtain ⟨v0, v1, v2, v3, v4, v5, v6, v7, v8, hr⟩ := cells5 qq
                  have HR := Lib.hid hr
                  have hr' : (#[.slice qq.g qq.ls.length qq.c, .slice qq.h qq.ss.length qq.d, .int .i64 qq.st, .int .i64 qq.sd, .float .f32 qq.sc] : Array Value) = #[.slice v0 v1 v2, .slice v3 v4 v5, .int .i64 v6, .int .i64 v7, .float .f32 v8] := hr
                  rw [hr]
                  clear hr hr'
                  have CC := Lib.hid (And.intro c1 (And.intro c2 (And.intro c3 (And.intro c4 c5))))
                  have QO := Lib.hid ho
                  have QN := Lib.hid hnd
                  have ZQ := Lib.hid ZP.out
                  clear c1 c2 c3 c4 c5 ho hnd
                  obtain ⟨pK00, pK0l⟩ := tb1 K0_55.out
                  obtain ⟨pKO0, pKO1, pKO2, pKO3, pKO4, pKOl⟩ := tbt5 KO_55.out
                  obtain ⟨pSB0, pSB1, pSB2, pSB3, pSB4, pSBl⟩ := tbt5 SB_55.out
                  obtain ⟨fz0, fz1, fz2, fz3, fz4⟩ := tbtf5 SB_55.out
                  have st5 := storet5 SB_55.out (y0 := .slice v0 v1 v2) (y1 := .slice v3 v4 v5) (y2 := .int .i64 v6) (y3 := .int .i64 v7) (y4 := .float .f32 v8))))
      all_goals
        go_wp2_with fail
        go_meet
        first | exact ⟨_, qq, v0, v1, v2, v3, v4, v5, v6, v7, v8, HR.out, rfl, rfl, st5.1, LSB.out, (fun x hx => Nat.ne_of_gt (Nat.lt_of_lt_of_le SLT.out (QO.out.lt x hx).1)), (show TrsOwn _ _ qq from ⟨OwnL.offg QO.out.1 st5.2 SLT.out, QO.out.2⟩).base ZQ.out, QN.out, CC.out.1, CC.out.2.1, CC.out.2.2.1, CC.out.2.2.2.1, CC.out.2.2.2.2, Below.at_ B_55.out st5.2 LSW.out, K0_55.out.off st5.2 NSB_K0, KO_55.out.off st5.2 NSB_KO, KW_55.out.off st5.2 NSB_KW, ⟨OwnL.upg W_55.out.1 st5.2 (fun x hx => by have := (LTW.out x hx).2; have := LSB.out; omega), W_55.out.2⟩, KG_55.out.off st5.2 NSB_KG, ⟨OwnL.upg G_55.out.1 st5.2 (fun x hx => by have := (LTG.out x hx).2; have := LSB.out; omega), G_55.out.2⟩⟩ | exact ⟨_, qq, v0, v1, v2, v3, v4, v5, v6, v7, v8, HR.out, rfl, rfl, Blk.new _ _ _, ZG.out, (fun x hx => Nat.ne_of_lt (QO.out.lt x hx).2), (QO.out.base ZQ.out).kept (al _), QN.out, CC.out.1, CC.out.2.1, CC.out.2.2.1, CC.out.2.2.2.1, CC.out.2.2.2.2, Below.next B_55.out (al _), K0_55.out.below (al _), KO_55.out.below (al _), KW_55.out.below (al _), W_55.out.kept (al _), KG_55.out.below (al _), G_55.out.kept (al _)⟩
    case rest =>
    obtain ⟨w72, rfl⟩ : ∃ x : World, x = wc := ⟨_, rfl⟩
    obtain ⟨gH, qH, vh0, vh1, vh2, vh3, vh4, vh5, vh6, vh7, vh8, hr, rfl, rfl, hk, hge, hnb, ho, hnd, c1, c2, c3, c4, c5, hb, h_K0, h_KO, h_KW, h_W, h_KG, h_G⟩ := hcut
    have LTW := Lib.hid W_52.out.lt
    have LTG := Lib.hid G_52.out.lt
    have LEH := Lib.hid B_52.out.size
    have GH_K0 := Lib.hid K0_52.out.lt
    have GH_KO := Lib.hid KO_52.out.lt
    have GH_KW := Lib.hid KW_52.out.lt
    have GH_KG := Lib.hid KG_52.out.lt
    clear K0_52 KO_52 B_52 KW_52 W_52 KG_52 G_52
    have K0_72 := Lib.hid h_K0
    have KO_72 := Lib.hid h_KO
    have KW_72 := Lib.hid h_KW
    have W_72 := Lib.hid h_W
    have KG_72 := Lib.hid h_KG
    have G_72 := Lib.hid h_G
    have B_72 := Lib.hid hb
    have KH_72 := Lib.hid hk
    have H_72 := Lib.hid ho
    have NDH := Lib.hid hnd
    have CQH := Lib.hid hr
    have CCH := Lib.hid (And.intro c1 (And.intro c2 (And.intro c3 (And.intro c4 c5))))
    have GEH := Lib.hid hge
    have NBH := Lib.hid hnb
    obtain ⟨BH, hBH⟩ : ∃ x, w52.heap.size = x := ⟨_, rfl⟩
    rw [hBH] at H_72 LEH GEH LTW LTG GH_K0 GH_KO GH_KW GH_KG
    clear hk hge hnb ho hnd hr hb c1 c2 c3 c4 c5 hBH h_K0 h_KO h_KW h_W h_KG h_G
    obtain ⟨pKH0, pKH1, pKH2, pKH3, pKH4, pKHl⟩ := tbt5 KH_72.out
    obtain ⟨pKW0, pKW1, pKW2, pKW3, pKW4, pKWl⟩ := tbt5 KW_72.out
    go_wp2_with fail
    clear pKH0 pKH1 pKH2 pKH3 pKH4 pKHl
    clear pKW0 pKW1 pKW2 pKW3 pKW4 pKWl
    have hc := c_eqTrs qH qW _ H_72.out.at W_72.out.at (CCH.out.1.trans CCW.out.1.symm) (CCH.out.2.1.trans CCW.out.2.1.symm) (CCH.out.2.2.1.trans CCW.out.2.2.1.symm) (CCH.out.2.2.2.1.trans CCW.out.2.2.2.1.symm) (congrArg _ (CCH.out.2.2.2.2.trans CCW.out.2.2.2.2.symm))
    rw [CQH.out, CQW.out] at hc
    refine hc.mono ?_
    rintro e w73 ⟨rfl, bl⟩
    clear hc
    have K0_73 := Lib.hid (K0_72.out.below bl)
    clear K0_72
    have KO_73 := Lib.hid (KO_72.out.below bl)
    clear KO_72
    have B_73 := Lib.hid (Below.next B_72.out bl)
    clear B_72
    have KW_73 := Lib.hid (KW_72.out.below bl)
    clear KW_72
    have W_73 := Lib.hid (W_72.out.kept bl)
    clear W_72
    have KG_73 := Lib.hid (KG_72.out.below bl)
    clear KG_72
    have G_73 := Lib.hid (G_72.out.kept bl)
    clear G_72
    have KH_73 := Lib.hid (KH_72.out.below bl)
    clear KH_72
    have H_73 := Lib.hid (H_72.out.kept bl)
    clear H_72
    clear bl
    obtain ⟨pKG0, pKG1, pKG2, pKG3, pKG4, pKGl⟩ := tbt5 KG_73.out
    go_wp2_with fail
    clear pKG0 pKG1 pKG2 pKG3 pKG4 pKGl
    have hc := c_heldTrs qG BG 1 s _ G_73.out HSS.out hs4 HBD.out.2.1 HBD.out.2.2
    rw [CQG.out] at hc
    refine hc.mono ?_
    rintro e w74 ⟨rfl, bl⟩
    clear hc
    have K0_74 := Lib.hid (K0_73.out.below bl)
    clear K0_73
    have KO_74 := Lib.hid (KO_73.out.below bl)
    clear KO_73
    have B_74 := Lib.hid (Below.next B_73.out bl)
    clear B_73
    have KW_74 := Lib.hid (KW_73.out.below bl)
    clear KW_73
    have W_74 := Lib.hid (W_73.out.kept bl)
    clear W_73
    have KG_74 := Lib.hid (KG_73.out.below bl)
    clear KG_73
    have G_74 := Lib.hid (G_73.out.kept bl)
    clear G_73
    have KH_74 := Lib.hid (KH_73.out.below bl)
    clear KH_73
    have H_74 := Lib.hid (H_73.out.kept bl)
    clear H_73
    clear bl
    go_wp2_with fail
    go_ret
    exact ⟨rfl, B_74.out⟩

/-! the row's step -/
set_option maxRecDepth 100000 in
theorem lifted (os : Os) (started : os.Started) (H : Type) (enc : TypeId × Value → H) :
    ReturnsInHanded {} Try.checked os 10 .any (Rows.fnExactNewTrainingSpec.pre6 enc Try.prog Try.f10 Rows.fnExactNewTrainingRow.domain false) (Rows.fnExactNewTrainingSpec.post enc Try.prog Try.f10 false true false false) := by
  refine returnsInHanded_of_change (C := Try.checked) own started (by kernel_rfl) Try.func10
    (ChangeSpec.witness6 (enc := enc) (C := Try.checked) false ⟨#[], #[.agg #[.slice none 0 0], .agg #[.int .i64 0, .float .f32 0, .float .f32 0, .float .f32 0, .float .f32 0], .int .i64 0], []⟩ 8 (by kernel_rfl) (by kernel_rfl) (by kernel_rfl) (by kernel_rfl)) ?_
  intro W base args ds gs before hval0 hW hcnd _
  have hval : ∀ (j : Nat) t v, Try.f10.params[j]? = some t → args[j]? = some v → Value.okWide Try.prog W .any base t v := hval0
  have hW' := hW
  obtain ⟨p, q, hA0, hV, rfl, hfz, hnd⟩ := hW
  have hA : DataW.TrodAll enc Try.prog W 0 (fun _ => true) true Try.f10.params.toList args.toList ds p := hA0
  rw [Try.params10] at hA hval
  obtain ⟨v0, vs0, d0, ds0, p0, q0, hargs, rfl, rfl, h0, rest0⟩ := trodAll_cons hA
  obtain ⟨v1, vs1, d1, ds1, p1, q1, rfl, rfl, rfl, h1, rest1⟩ := trodAll_cons rest0
  obtain ⟨v2, vs2, d2, ds2, p2, q2, rfl, rfl, rfl, h2, rest2⟩ := trodAll_cons rest1
  obtain ⟨rfl, rfl, rfl⟩ := trodAll_nil rest2
  obtain rfl : args = #[v0, v1, v2] := by cases args; simp_all
  obtain ⟨rfl, rfl⟩ := trodVars_none hV
  have k0 := h0
  have lt0 : ∀ x ∈ p0, x.block < W.heap.size := by obtain ⟨m, hm⟩ := k0; exact DataW.trod_lt m _ _ _ hm
  have w0 := open_Mod (hval 0 62 v0 rfl rfl) h0
  have k1 := h1
  have lt1 : ∀ x ∈ p1, x.block < W.heap.size := by obtain ⟨m, hm⟩ := k1; exact DataW.trod_lt m _ _ _ hm
  have w1 := open_Opt (hval 1 64 v1 rfl rfl) h1
  obtain ⟨a2, rfl, rfl, rfl, w2⟩ := open_int Try.underlying2 (hval 2 2 v2 rfl rfl) h2
  clear hA0 hval0
  refine (walk _ _ a2 W w0 w1 w2).mono fun e W' ⟨he, bel⟩ => ?_
  subst he
  exact ⟨_, rfl, _, _, _, [], _, [], hW', trodAll_mk1 (shut_bool Try.underlying4 _), (trodAll_cons_mk (Below.trod laidOut (by kernel_rfl) (of_decide_eq_true (by kernel_rfl)) k0 bel lt0) (trodAll_cons_mk (Below.trod laidOut (by kernel_rfl) (of_decide_eq_true (by kernel_rfl)) k1 bel lt1) (trodAll_cons_mk (shut_int Try.underlying2 w2) trodAll_mk0))), rfl, bel.frame _, fun h => by cases h⟩

theorem over : Rows.fnExactNewTrainingRow.holds Try.pinned (OpenSpec.ofChange Rows.fnExactNewTrainingSpec) :=
  OpenClaim.holds_of_wide 10 Try.f10 rfl rfl rfl rfl rfl rfl rfl ⟨rfl, rfl, rfl, rfl, rfl⟩ rfl rfl rfl rfl rfl (by kernel_rfl) Try.func10 (by kernel_rfl)
    (of_decide_eq_true (by kernel_rfl)) (by unfold Func.isWrapper; first | (rw [if_pos (by decide +kernel)]; kernel_rfl) | (rw [if_neg (by decide +kernel)]; exact ⟨rfl, rfl⟩))
    (fun os started H enc _ => lifted os started H enc)

/-- the statement -/
theorem proved : Rows.FnExactNewTrainingSaid := over
end Go.Proofs.Ythklfkfhhdglcaa.fnExactNewTraining
