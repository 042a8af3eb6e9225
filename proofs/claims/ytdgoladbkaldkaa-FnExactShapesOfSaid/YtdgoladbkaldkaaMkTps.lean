/-
  Marking lists of Op and looking again. Conditions: the call made them, each block once.
-/
import Derived.Test.YtdgoladbkaldkaaTps
namespace Go.Proofs.Ytdgoladbkaldkaa
open Go.RowKit
set_option linter.unusedVariables false

def mkTp (k : Nat) (x : TpA) : TpA := { x with p := ⟨(k : Int), (k : Int) + 1, (k : Int) + 1 + 1, floatOfInt .f32 ((k : Int) + 1 + 1 + 1), (k : Int) + 1 + 1 + 1 + 1, (k : Int) + 1 + 1 + 1 + 1 + 1, marks (k + 6) x.p.zd.length⟩ }
def mkTps (k : Nat) : List TpA → List TpA
  | [] => []
  | x :: xs => mkTp k x :: mkTps (k + 6 + (x.p.zd.length)) xs
def cntTps (ls : List TpA) : Nat := 6 * ls.length + tpSum (ls.map TpA.p)
theorem cnt_tp_copy {y : List TpA} {n : Nat} {ps : List TpP} (hl : y.length = n) (hp : y.map TpA.p = ps) : cntTps y = 6 * n + tpSum ps := by simp only [cntTps, hl, hp]
theorem cntTps_cons (x : TpA) (xs : List TpA) : cntTps (x :: xs) = 6 + (x.p.zd.length) + cntTps xs := by
  simp only [cntTps, List.length_cons, List.map_cons, tpSum, List.sum_cons, TpP.n]; omega
theorem cntTps_append (a b : List TpA) : cntTps (a ++ b) = cntTps a + cntTps b := by
  simp only [cntTps, List.length_append, List.map_append, tpSum, List.sum_append]; omega
theorem mkTps_append (k : Nat) (a b : List TpA) : mkTps k (a ++ b) = mkTps k a ++ mkTps (k + cntTps a) b := by
  induction a generalizing k with
  | nil => simp [mkTps, cntTps, tpSum]
  | cons x xs ih =>
    simp only [List.cons_append, mkTps, ih, cntTps_cons]
    rw [show k + 6 + (x.p.zd.length) + cntTps xs = k + (6 + (x.p.zd.length) + cntTps xs) by omega]
theorem mkTps_length (k : Nat) (a : List TpA) : (mkTps k a).length = a.length := by
  induction a generalizing k with
  | nil => rfl
  | cons x xs ih => simp [mkTps, ih]
theorem tpsC_append (a b : List TpA) : tpsC (a ++ b) = tpsC a ++ tpsC b := by simp [tpsC]
theorem tpsC_cons (x : TpA) (b : List TpA) : tpsC (x :: b) = x.cs ++ tpsC b := by simp [tpsC]
theorem bl_mkTps (k : Nat) (a : List TpA) : blL (tpsC (mkTps k a)) = blL (tpsC a) := by
  induction a generalizing k with
  | nil => rfl
  | cons x xs ih => simp only [mkTps, tpsC_cons, blL_append, ih, TpA.bl_cs]; rfl
theorem mk_tp_row (M post : List TpA) (x : TpA) (k : Nat) :
    (((((((vs (tpsC (M ++ x :: post))).set (M.length * 7) (.int .i64 ((k : Int)))).set (M.length * 7 + 1) (.int .i64 ((k : Int) + 1))).set (M.length * 7 + 2) (.int .i64 ((k : Int) + 1 + 1))).set (M.length * 7 + 3) (.float .f32 (floatOfInt .f32 ((k : Int) + 1 + 1 + 1)))).set (M.length * 7 + 4) (.int .i64 ((k : Int) + 1 + 1 + 1 + 1))).set (M.length * 7 + 5) (.int .i64 ((k : Int) + 1 + 1 + 1 + 1 + 1))) = vs (tpsC (M ++ mkTp k x :: post)) := by
  have hl : (vs (tpsC M)).length = M.length * 7 := by rw [vs_length, tpsC_length]
  rw [tpsC_append, tpsC_append, vs_append, vs_append, tpsC_cons, tpsC_cons, vs_append, vs_append]
  rw [List.set_append_right _ _ (by omega), hl, Nat.sub_self, List.set_append_right _ _ (by omega), hl, Nat.add_sub_cancel_left, List.set_append_right _ _ (by omega), hl, Nat.add_sub_cancel_left, List.set_append_right _ _ (by omega), hl, Nat.add_sub_cancel_left, List.set_append_right _ _ (by omega), hl, Nat.add_sub_cancel_left, List.set_append_right _ _ (by omega), hl, Nat.add_sub_cancel_left]
  simp only [TpA.vs_cs, TpA.cells, mkTp, marks_length, List.cons_append, List.set_cons_zero, List.set_cons_succ]
theorem dis_tp {A B C0 D : List Nat} (h : (A ++ (B ++ (C0 ++ D))).Nodup) :
    (∀ g ∈ B, g ∉ A) ∧ (∀ g ∈ C0, g ∉ A) ∧ (∀ g ∈ D, g ∉ A) ∧ (∀ g ∈ A, g ∉ C0) ∧ (∀ g ∈ B, g ∉ C0) ∧ (∀ g ∈ D, g ∉ C0) := by
  simp only [List.nodup_append, List.mem_append] at h
  obtain ⟨_, ⟨_, ⟨_, _, h2⟩, h1⟩, h0⟩ := h
  exact ⟨fun g h' h => h0 g h g (.inl h') rfl, fun g h' h => h0 g h g (.inr (.inl h')) rfl, fun g h' h => h0 g h g (.inr (.inr h')) rfl, fun g h h' => h0 g h g (.inr (.inl h')) rfl, fun g h h' => h1 g h g (.inl h') rfl, fun g h' h => h2 g h g (h') rfl⟩
def tpBl (gs : Option Addr) (ls : List TpA) : List Nat := (blk gs).toList ++ blL (tpsC ls)
def MkTpRel (gs : Option Addr) (cap n k B : Nat) (ls : List TpA) (w : World) (kv iv : Value) (wr : World) : Prop :=
  ∃ (pre post : List TpA), ls = pre ++ post ∧ iv = .int .i64 (pre.length : Int) ∧ kv = .int .i64 ((k + cntTps pre : Nat) : Int) ∧ wr.ownsRow B 56 7 (.slice gs n cap) n (vs (tpsC (mkTps k pre ++ post))) ∧
    OwnL wr B (tpsC (mkTps k pre)) ∧ OwnL wr B (tpsC post) ∧ GrownIn w wr (tpBl gs ls)
theorem tp_inn {w w' : World} {B : Nat} {a : Option Addr} {cap : Nat} {ys : List Nat} {S : List Nat} (h : OwnF w B a cap ys) (hg : GrownIn w w' S) (hn : ∀ g ∈ (blk a).toList, g ∉ S) : OwnF w' B a cap ys :=
  ⟨ownsRow_in h.1 hg hn, h.2⟩
set_option maxRecDepth 20000 in
set_option maxHeartbeats 4000000 in
theorem c_markTps (gs : Option Addr) (cap n k m B : Nat) (ls : List TpA) (w : World) (hn : ls.length = n) (hrow : w.ownsRow B 56 7 (.slice gs n cap) n (vs (tpsC ls))) (hown : OwnL w B (tpsC ls)) (hnd : (tpBl gs ls).Nodup)
    (hm : k + cntTps ls = m) (hm2 : m ≤ 8388608) (hsz : tpSum (ls.map TpA.p) ≤ 1048576) (hnm : n ≤ 1048576) :
    Calls Try.prog 15 #[.slice gs n cap, .int .i64 k] w fun e w' => e = .returned (.int .i64 (m : Int)) ∧ w'.ownsRow B 56 7 (.slice gs n cap) n (vs (tpsC (mkTps k ls))) ∧ OwnL w' B (tpsC (mkTps k ls)) ∧ GrownIn w w' (tpBl gs ls) := by
  have HN := Lib.hid hn
  have HR := Lib.hid hrow
  have HO := Lib.hid hown
  have HD := Lib.hid hnd
  have HM := Lib.hid hm
  have HM2 := Lib.hid hm2
  have HSZ := Lib.hid hsz
  clear hn hrow hown hnd hm hm2 hsz
  go_enter Try.func15, Try.ntmps15
  go_wp2
  go_loopw [1, 5] (fun kv iv wr => MkTpRel gs cap n k B ls w kv iv wr) (fun _ iv _ => n - (intOf iv).toNat)
  case atStart => exact ⟨[], ls, rfl, rfl, by simp [cntTps, tpSum], HR.out, by simp [mkTps, tpsC, OwnL], HO.out, GrownIn.refl _ _⟩
  case round =>
    obtain ⟨pre, post, rfl, rfl, rfl, hrow, hpre, hpost, hg⟩ := hrel
    have HRW := Lib.hid hrow
    have HPR := Lib.hid hpre
    have HPO := Lib.hid hpost
    have HG := Lib.hid hg
    obtain ⟨j, hj⟩ : ∃ j, pre.length = j := ⟨_, rfl⟩
    have HJ := Lib.hid hj
    rw [hj]
    have hnl := HN.out
    rw [List.length_append, hj] at hnl
    have hjn : j ≤ n := by omega
    obtain ⟨kk, hkk⟩ : ∃ kk, k + cntTps pre = kk := ⟨_, rfl⟩
    have HKK := Lib.hid hkk
    rw [hkk]
    clear hrow hpre hpost hg hj
    by_cases hlt : j < n
    · cases post with
      | nil => simp at hnl; omega
      | cons x post =>
        obtain ⟨⟨x0, x1, x2, x3, x4, x5, zd⟩, a0, c0⟩ := x
        have hcm := HM.out
        rw [cntTps_append, cntTps_cons] at hcm
        dsimp only at hcm
        have hm4 := HM2.out
        have hkb : (kk : Int) ≤ 8388608 := by omega
        have hlt' : (j : Int) < (n : Int) := by omega
        have hws : zd.length ≤ 1048576 := by
          have := HSZ.out
          simp only [List.map_append, List.map_cons, tpSum, List.sum_append, List.sum_cons, TpP.n] at this
          omega
        have HWS := Lib.hid hws
        obtain ⟨g, rfl⟩ : ∃ g, gs = some ⟨g, 0, none⟩ := by
          rcases HRW.out.2 with ⟨hv, h0⟩ | ⟨g, c, cur, hv, _⟩
          · omega
          · simp only [Value.slice.injEq] at hv; exact ⟨g, hv.1⟩
        have hl5 : (mkTps k pre).length = j := by rw [mkTps_length]; exact HJ.out
        have hcell : ∀ i, i < 7 → wr.cell? ⟨g, j * 7 + i, none⟩ = (vs (⟨⟨x0, x1, x2, x3, x4, x5, zd⟩, a0, c0⟩ : TpA).cs)[i]? := by
          intro i hi
          rw [HRW.out.cellAt _ (by omega), tpsC_append, vs_append, List.getElem?_append_right (by rw [vs_length, tpsC_length, hl5]; omega), vs_length, tpsC_length, hl5, Nat.add_sub_cancel_left, tpsC_cons, vs_append, List.getElem?_append_left (by rw [vs_length, TpA.cs_len]; exact hi)]
        have q0 := hcell 0 (by omega)
        have q1 := hcell 1 (by omega)
        have q2 := hcell 2 (by omega)
        have q3 := hcell 3 (by omega)
        have q4 := hcell 4 (by omega)
        have q5 := hcell 5 (by omega)
        have q6 := hcell 6 (by omega)
        rw [TpA.vs_cs] at q0 q1 q2 q3 q4 q5 q6
        simp only [TpA.cells, List.getElem?_cons_zero, List.getElem?_cons_succ, Nat.add_zero] at q0 q1 q2 q3 q4 q5 q6
        have z0 := HRW.out.frozenAt (j * 7)
        have z1 := HRW.out.frozenAt (j * 7 + 1)
        have z2 := HRW.out.frozenAt (j * 7 + 2)
        have z3 := HRW.out.frozenAt (j * 7 + 3)
        have z4 := HRW.out.frozenAt (j * 7 + 4)
        have z5 := HRW.out.frozenAt (j * 7 + 5)
        have hcm' := Lib.hid hcm
        clear hcell hnl hcm hm4 hws
        have hd := HD.out
        rw [tpBl, tpsC_append, tpsC_cons, blL_append, blL_append, TpA.bl_cs] at hd
        have HDD := Lib.hid (dis_tp hd)
        have hpo := HPO.out
        rw [tpsC_cons, OwnL_append, TpA.own_iff] at hpo
        have HX := Lib.hid hpo
        have hst := ((((((HRW.out.stored (j * 7) (.int .i64 ((kk : Int)))).1.stored (j * 7 + 1) (.int .i64 ((kk : Int) + 1))).1.stored (j * 7 + 2) (.int .i64 ((kk : Int) + 1 + 1))).1.stored (j * 7 + 3) (.float .f32 (floatOfInt .f32 ((kk : Int) + 1 + 1 + 1)))).1.stored (j * 7 + 4) (.int .i64 ((kk : Int) + 1 + 1 + 1 + 1))).1.stored (j * 7 + 5) (.int .i64 ((kk : Int) + 1 + 1 + 1 + 1 + 1))).1
        rw [← hl5, mk_tp_row] at hst
        rw [hl5] at hst
        have HST := Lib.hid hst
        have HL5 := Lib.hid hl5
        clear hd hpo hst hl5
        go_wp2_with fail
        clear q0 q1 q2 q3 q4 q5 q6 z0 z1 z2 z3 z4 z5
        have gA : GrownIn wr ((((((wr.setCell ⟨g, j * 7, none⟩ (.int .i64 ((kk : Int)))).setCell ⟨g, j * 7 + 1, none⟩ (.int .i64 ((kk : Int) + 1))).setCell ⟨g, j * 7 + 2, none⟩ (.int .i64 ((kk : Int) + 1 + 1))).setCell ⟨g, j * 7 + 3, none⟩ (.float .f32 (floatOfInt .f32 ((kk : Int) + 1 + 1 + 1)))).setCell ⟨g, j * 7 + 4, none⟩ (.int .i64 ((kk : Int) + 1 + 1 + 1 + 1))).setCell ⟨g, j * 7 + 5, none⟩ (.int .i64 ((kk : Int) + 1 + 1 + 1 + 1 + 1))) [g] :=
          (((((((GrownIn.refl wr [g]).setCell (p := ⟨g, _, none⟩) (by simp) _).setCell (p := ⟨g, _, none⟩) (by simp) _).setCell (p := ⟨g, _, none⟩) (by simp) _).setCell (p := ⟨g, _, none⟩) (by simp) _).setCell (p := ⟨g, _, none⟩) (by simp) _).setCell (p := ⟨g, _, none⟩) (by simp) _)
        have GA := Lib.hid gA
        clear gA
        generalize ((((((wr.setCell ⟨g, j * 7, none⟩ (.int .i64 ((kk : Int)))).setCell ⟨g, j * 7 + 1, none⟩ (.int .i64 ((kk : Int) + 1))).setCell ⟨g, j * 7 + 2, none⟩ (.int .i64 ((kk : Int) + 1 + 1))).setCell ⟨g, j * 7 + 3, none⟩ (.float .f32 (floatOfInt .f32 ((kk : Int) + 1 + 1 + 1)))).setCell ⟨g, j * 7 + 4, none⟩ (.int .i64 ((kk : Int) + 1 + 1 + 1 + 1))).setCell ⟨g, j * 7 + 5, none⟩ (.int .i64 ((kk : Int) + 1 + 1 + 1 + 1 + 1))) = w0 at HST GA ⊢
        obtain ⟨d_A_B, d_A_C0, d_A_D, d_C0_A, d_C0_B, d_C0_D⟩ := HDD.out
        have hA : (blk (some (⟨g, 0, none⟩ : Addr))).toList = [g] := rfl
        rw [hA] at d_A_B d_A_C0 d_A_D d_C0_A
        have PR_0 := Lib.hid (OwnL.apart GA.out _ HPR.out (by rw [bl_mkTps]; exact d_A_B))
        have X0_0 := Lib.hid (tp_inn (HX.out.1.2) GA.out d_A_C0)
        have PO_0 := Lib.hid (OwnL.apart GA.out _ HX.out.2 d_A_D)
        have RW_0 := HST
        have Hd_C0_A := Lib.hid d_C0_A
        have Hd_C0_B := Lib.hid d_C0_B
        have Hd_C0_D := Lib.hid d_C0_D
        clear d_A_B d_A_C0 d_A_D d_C0_A d_C0_B d_C0_D hA HDD HX HST
        obtain ⟨n0, hn0⟩ : ∃ n0, kk + 6 = n0 := ⟨_, rfl⟩
        have N0 := Lib.hid hn0
        obtain ⟨n1, hn1⟩ : ∃ n', n0 + zd.length = n' := ⟨_, rfl⟩
        have N1 := Lib.hid hn1
        have e1 : (kk : Int) + 1 + 1 + 1 + 1 + 1 + 1 = (n0 : Int) := by omega
        have l0 : n0 ≤ 8388608 := by have := hcm'.out; have := HM2.out; have := HKK.out; omega
        have L0 := Lib.hid l0
        rw [e1]
        clear e1 hn0 hn1 l0
        refine (c_markFloats' a0 c0 B n0 n1 zd _ X0_0.out N1.out L0.out HWS.out).mono ?_
        rintro e w1 ⟨rfl, ho, hg⟩
        have G0 := Lib.hid (GrownIn.of_grown hg)
        have X0_1 := Lib.hid ho
        have RW_1 := Lib.hid (ownsRow_in RW_0.out G0.out Hd_C0_A.out)
        have PR_1 := Lib.hid (OwnL.apart G0.out _ PR_0.out (by rw [bl_mkTps]; exact Hd_C0_B.out))
        have PO_1 := Lib.hid (OwnL.apart G0.out _ PO_0.out Hd_C0_D.out)
        clear ho hg RW_0 PR_0 PO_0 X0_0
        go_wp2_with fail
        go_roundw
        case rel =>
          have hmk : mkTps k (pre ++ [⟨⟨x0, x1, x2, x3, x4, x5, zd⟩, a0, c0⟩]) = mkTps k pre ++ [mkTp kk ⟨⟨x0, x1, x2, x3, x4, x5, zd⟩, a0, c0⟩] := by
            rw [mkTps_append, HKK.out]; rfl
          refine ⟨pre ++ [⟨⟨x0, x1, x2, x3, x4, x5, zd⟩, a0, c0⟩], post, by simp, ?_, ?_, ?_, ?_, PO_1.out, ?_⟩
          · rw [List.length_append, HJ.out]; go_num
          · rw [cntTps_append, cntTps_cons]
            have := N0.out; have := N1.out; have := HKK.out
            simp only [cntTps, List.length_nil, List.map_nil, tpSum, List.sum_nil] at *
            congr 2
            omega
          · rw [hmk, List.append_assoc]; exact RW_1.out
          · rw [hmk, tpsC_append, OwnL_append, tpsC_cons, OwnL_append, TpA.own_iff]
            refine ⟨PR_1.out, ⟨?_, ?_⟩, by simp [tpsC, OwnL]⟩
            · simp only [mkTp]; exact floatOfInt_lt _
            · simp only [mkTp]; rw [N0.out]; exact X0_1.out
          · refine ((HG.out.trans (GA.out.mono ?_)).trans (G0.out.mono ?_))
            · intro x hx; simp only [List.mem_singleton] at hx; subst hx; simp [tpBl, blk]
            · intro x hx; simp only [tpBl, tpsC_append, tpsC_cons, blL_append, TpA.bl_cs, List.mem_append]; exact .inr (.inr (.inl hx))
        case measure => simp [intOf]; omega
    · have hz : post = [] := List.eq_nil_of_length_eq_zero (by omega)
      subst hz
      obtain rfl : j = n := by omega
      have hfin : (kk : Int) = (m : Int) := by
        have h1 := HKK.out; have h2 := HM.out
        rw [List.append_nil] at h2
        omega
      go_wp2_with fail
      go_ret
      exact ⟨ret_i hfin, by simpa using HRW.out, by simpa using HPR.out, by simpa using HG.out⟩
theorem c_markTps' (gs : Option Addr) (cap n k m B : Nat) (ls : List TpA) (w : World) (hn : ls.length = n) (ho : OwnL w B [.sl 56 7 n gs cap (tpsC ls)]) (hnd : (blL [.sl 56 7 n gs cap (tpsC ls)]).Nodup) (hm : k + cntTps ls = m) (hm2 : m ≤ 8388608) (hsz : tpSum (ls.map TpA.p) ≤ 1048576) (hnm : n ≤ 1048576) :
    Calls Try.prog 15 #[.slice gs n cap, .int .i64 k] w fun e w' => e = .returned (.int .i64 (m : Int)) ∧ OwnL w' B [.sl 56 7 n gs cap (tpsC (mkTps k ls))] ∧ GrownIn w w' (blL [.sl 56 7 n gs cap (tpsC ls)]) := by
  have hbl : blL [Cl.sl 56 7 n gs cap (tpsC ls)] = tpBl gs ls := by simp [blL, Cl.bl, tpBl]
  rw [hbl] at hnd ⊢
  refine (c_markTps gs cap n k m B ls w hn ho.1.1 ho.1.2 hnd hm hm2 hsz hnm).mono ?_
  rintro e w' ⟨he, h1, h2, h3⟩
  exact ⟨he, by simp only [OwnL, Cl.Own, and_true]; exact ⟨h1, h2⟩, h3⟩
end Go.Proofs.Ytdgoladbkaldkaa
