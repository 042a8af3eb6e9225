/-
  Marking lists of Tensor and looking again. Conditions: the call made them, each block once.
-/
import Derived.Test.YtappcbijhfghlaaTns
namespace Go.Proofs.Ytappcbijhfghlaa
open Go.RowKit
set_option linter.unusedVariables false

def mkTn (k : Nat) (x : TnA) : TnA := { x with p := ⟨(k : Int), (k : Int) + 1, marks (k + 2) x.p.da.length⟩ }
def mkTns (k : Nat) : List TnA → List TnA
  | [] => []
  | x :: xs => mkTn k x :: mkTns (k + 2 + (x.p.da.length)) xs
def cntTns (ls : List TnA) : Nat := 2 * ls.length + tnSum (ls.map TnA.p)
theorem cnt_tn_copy {y : List TnA} {n : Nat} {ps : List TnP} (hl : y.length = n) (hp : y.map TnA.p = ps) : cntTns y = 2 * n + tnSum ps := by simp only [cntTns, hl, hp]
theorem cntTns_cons (x : TnA) (xs : List TnA) : cntTns (x :: xs) = 2 + (x.p.da.length) + cntTns xs := by
  simp only [cntTns, List.length_cons, List.map_cons, tnSum, List.sum_cons, TnP.n]; omega
theorem cntTns_append (a b : List TnA) : cntTns (a ++ b) = cntTns a + cntTns b := by
  simp only [cntTns, List.length_append, List.map_append, tnSum, List.sum_append]; omega
theorem mkTns_append (k : Nat) (a b : List TnA) : mkTns k (a ++ b) = mkTns k a ++ mkTns (k + cntTns a) b := by
  induction a generalizing k with
  | nil => simp [mkTns, cntTns, tnSum]
  | cons x xs ih =>
    simp only [List.cons_append, mkTns, ih, cntTns_cons]
    rw [show k + 2 + (x.p.da.length) + cntTns xs = k + (2 + (x.p.da.length) + cntTns xs) by omega]
theorem mkTns_length (k : Nat) (a : List TnA) : (mkTns k a).length = a.length := by
  induction a generalizing k with
  | nil => rfl
  | cons x xs ih => simp [mkTns, ih]
theorem tnsC_append (a b : List TnA) : tnsC (a ++ b) = tnsC a ++ tnsC b := by simp [tnsC]
theorem tnsC_cons (x : TnA) (b : List TnA) : tnsC (x :: b) = x.cs ++ tnsC b := by simp [tnsC]
theorem bl_mkTns (k : Nat) (a : List TnA) : blL (tnsC (mkTns k a)) = blL (tnsC a) := by
  induction a generalizing k with
  | nil => rfl
  | cons x xs ih => simp only [mkTns, tnsC_cons, blL_append, ih, TnA.bl_cs]; rfl
theorem mk_tn_row (M post : List TnA) (x : TnA) (k : Nat) :
    (((vs (tnsC (M ++ x :: post))).set (M.length * 3) (.int .i64 ((k : Int)))).set (M.length * 3 + 1) (.int .i64 ((k : Int) + 1))) = vs (tnsC (M ++ mkTn k x :: post)) := by
  have hl : (vs (tnsC M)).length = M.length * 3 := by rw [vs_length, tnsC_length]
  rw [tnsC_append, tnsC_append, vs_append, vs_append, tnsC_cons, tnsC_cons, vs_append, vs_append]
  rw [List.set_append_right _ _ (by omega), hl, Nat.sub_self, List.set_append_right _ _ (by omega), hl, Nat.add_sub_cancel_left]
  simp only [TnA.vs_cs, TnA.cells, mkTn, marks_length, List.cons_append, List.set_cons_zero, List.set_cons_succ]
theorem dis_tn {A B C0 D : List Nat} (h : (A ++ (B ++ (C0 ++ D))).Nodup) :
    (∀ g ∈ B, g ∉ A) ∧ (∀ g ∈ C0, g ∉ A) ∧ (∀ g ∈ D, g ∉ A) ∧ (∀ g ∈ A, g ∉ C0) ∧ (∀ g ∈ B, g ∉ C0) ∧ (∀ g ∈ D, g ∉ C0) := by
  simp only [List.nodup_append, List.mem_append] at h
  obtain ⟨_, ⟨_, ⟨_, _, h2⟩, h1⟩, h0⟩ := h
  exact ⟨fun g h' h => h0 g h g (.inl h') rfl, fun g h' h => h0 g h g (.inr (.inl h')) rfl, fun g h' h => h0 g h g (.inr (.inr h')) rfl, fun g h h' => h0 g h g (.inr (.inl h')) rfl, fun g h h' => h1 g h g (.inl h') rfl, fun g h' h => h2 g h g (h') rfl⟩
def tnBl (gs : Option Addr) (ls : List TnA) : List Nat := (blk gs).toList ++ blL (tnsC ls)
def MkTnRel (gs : Option Addr) (cap n k B : Nat) (ls : List TnA) (w : World) (kv iv : Value) (wr : World) : Prop :=
  ∃ (pre post : List TnA), ls = pre ++ post ∧ iv = .int .i64 (pre.length : Int) ∧ kv = .int .i64 ((k + cntTns pre : Nat) : Int) ∧ wr.ownsRow B 26 3 (.slice gs n cap) n (vs (tnsC (mkTns k pre ++ post))) ∧
    OwnL wr B (tnsC (mkTns k pre)) ∧ OwnL wr B (tnsC post) ∧ GrownIn w wr (tnBl gs ls)
theorem tn_inn {w w' : World} {B : Nat} {a : Option Addr} {cap : Nat} {ys : List Nat} {S : List Nat} (h : OwnF w B a cap ys) (hg : GrownIn w w' S) (hn : ∀ g ∈ (blk a).toList, g ∉ S) : OwnF w' B a cap ys :=
  ⟨ownsRow_in h.1 hg hn, h.2⟩
set_option maxRecDepth 20000 in
set_option maxHeartbeats 4000000 in
theorem c_markTns (gs : Option Addr) (cap n k m B : Nat) (ls : List TnA) (w : World) (hn : ls.length = n) (hrow : w.ownsRow B 26 3 (.slice gs n cap) n (vs (tnsC ls))) (hown : OwnL w B (tnsC ls)) (hnd : (tnBl gs ls).Nodup)
    (hm : k + cntTns ls = m) (hm2 : m ≤ 4194304) (hsz : tnSum (ls.map TnA.p) ≤ 1048576) (hnm : n ≤ 1048576) :
    Calls Try.prog 21 #[.slice gs n cap, .int .i64 k] w fun e w' => e = .returned (.int .i64 (m : Int)) ∧ w'.ownsRow B 26 3 (.slice gs n cap) n (vs (tnsC (mkTns k ls))) ∧ OwnL w' B (tnsC (mkTns k ls)) ∧ GrownIn w w' (tnBl gs ls) := by
  have HN := Lib.hid hn
  have HR := Lib.hid hrow
  have HO := Lib.hid hown
  have HD := Lib.hid hnd
  have HM := Lib.hid hm
  have HM2 := Lib.hid hm2
  have HSZ := Lib.hid hsz
  clear hn hrow hown hnd hm hm2 hsz
  go_enter Try.func21, Try.ntmps21
  go_wp2
  go_loopw [1, 5] (fun kv iv wr => MkTnRel gs cap n k B ls w kv iv wr) (fun _ iv _ => n - (intOf iv).toNat)
  case atStart => exact ⟨[], ls, rfl, rfl, by simp [cntTns, tnSum], HR.out, by simp [mkTns, tnsC, OwnL], HO.out, GrownIn.refl _ _⟩
  case round =>
    obtain ⟨pre, post, rfl, rfl, rfl, hrow, hpre, hpost, hg⟩ := hrel
    have HRW := Lib.hid hrow
    have HPR := Lib.hid hpre
    have HPO := Lib.hid hpost
    have HG := Lib.hid hg
    obtain ⟨j, hj⟩ : ∃ j, pre.length = j := ⟨_, rfl⟩
    have HJ := Lib.hid hj
    rw [hj]
    have hnl := HN.out
    rw [List.length_append, hj] at hnl
    have hjn : j ≤ n := by omega
    obtain ⟨kk, hkk⟩ : ∃ kk, k + cntTns pre = kk := ⟨_, rfl⟩
    have HKK := Lib.hid hkk
    rw [hkk]
    clear hrow hpre hpost hg hj
    by_cases hlt : j < n
    · cases post with
      | nil => simp at hnl; omega
      | cons x post =>
        obtain ⟨⟨x0, x1, da⟩, a0, c0⟩ := x
        have hcm := HM.out
        rw [cntTns_append, cntTns_cons] at hcm
        dsimp only at hcm
        have hm4 := HM2.out
        have hkb : (kk : Int) ≤ 4194304 := by omega
        have hlt' : (j : Int) < (n : Int) := by omega
        have hws : da.length ≤ 1048576 := by
          have := HSZ.out
          simp only [List.map_append, List.map_cons, tnSum, List.sum_append, List.sum_cons, TnP.n] at this
          omega
        have HWS := Lib.hid hws
        obtain ⟨g, rfl⟩ : ∃ g, gs = some ⟨g, 0, none⟩ := by
          rcases HRW.out.2 with ⟨hv, h0⟩ | ⟨g, c, cur, hv, _⟩
          · omega
          · simp only [Value.slice.injEq] at hv; exact ⟨g, hv.1⟩
        have hl5 : (mkTns k pre).length = j := by rw [mkTns_length]; exact HJ.out
        have hcell : ∀ i, i < 3 → wr.cell? ⟨g, j * 3 + i, none⟩ = (vs (⟨⟨x0, x1, da⟩, a0, c0⟩ : TnA).cs)[i]? := by
          intro i hi
          rw [HRW.out.cellAt _ (by omega), tnsC_append, vs_append, List.getElem?_append_right (by rw [vs_length, tnsC_length, hl5]; omega), vs_length, tnsC_length, hl5, Nat.add_sub_cancel_left, tnsC_cons, vs_append, List.getElem?_append_left (by rw [vs_length, TnA.cs_len]; exact hi)]
        have q0 := hcell 0 (by omega)
        have q1 := hcell 1 (by omega)
        have q2 := hcell 2 (by omega)
        rw [TnA.vs_cs] at q0 q1 q2
        simp only [TnA.cells, List.getElem?_cons_zero, List.getElem?_cons_succ, Nat.add_zero] at q0 q1 q2
        have z0 := HRW.out.frozenAt (j * 3)
        have z1 := HRW.out.frozenAt (j * 3 + 1)
        have hcm' := Lib.hid hcm
        clear hcell hnl hcm hm4 hws
        have hd := HD.out
        rw [tnBl, tnsC_append, tnsC_cons, blL_append, blL_append, TnA.bl_cs] at hd
        have HDD := Lib.hid (dis_tn hd)
        have hpo := HPO.out
        rw [tnsC_cons, OwnL_append, TnA.own_iff] at hpo
        have HX := Lib.hid hpo
        have hst := ((HRW.out.stored (j * 3) (.int .i64 ((kk : Int)))).1.stored (j * 3 + 1) (.int .i64 ((kk : Int) + 1))).1
        rw [← hl5, mk_tn_row] at hst
        rw [hl5] at hst
        have HST := Lib.hid hst
        have HL5 := Lib.hid hl5
        clear hd hpo hst hl5
        go_wp2_with fail
        clear q0 q1 q2 z0 z1
        have gA : GrownIn wr ((wr.setCell ⟨g, j * 3, none⟩ (.int .i64 ((kk : Int)))).setCell ⟨g, j * 3 + 1, none⟩ (.int .i64 ((kk : Int) + 1))) [g] :=
          (((GrownIn.refl wr [g]).setCell (p := ⟨g, _, none⟩) (by simp) _).setCell (p := ⟨g, _, none⟩) (by simp) _)
        have GA := Lib.hid gA
        clear gA
        generalize ((wr.setCell ⟨g, j * 3, none⟩ (.int .i64 ((kk : Int)))).setCell ⟨g, j * 3 + 1, none⟩ (.int .i64 ((kk : Int) + 1))) = w0 at HST GA ⊢
        obtain ⟨d_A_B, d_A_C0, d_A_D, d_C0_A, d_C0_B, d_C0_D⟩ := HDD.out
        have hA : (blk (some (⟨g, 0, none⟩ : Addr))).toList = [g] := rfl
        rw [hA] at d_A_B d_A_C0 d_A_D d_C0_A
        have PR_0 := Lib.hid (OwnL.apart GA.out _ HPR.out (by rw [bl_mkTns]; exact d_A_B))
        have X0_0 := Lib.hid (tn_inn (HX.out.1) GA.out d_A_C0)
        have PO_0 := Lib.hid (OwnL.apart GA.out _ HX.out.2 d_A_D)
        have RW_0 := HST
        have Hd_C0_A := Lib.hid d_C0_A
        have Hd_C0_B := Lib.hid d_C0_B
        have Hd_C0_D := Lib.hid d_C0_D
        clear d_A_B d_A_C0 d_A_D d_C0_A d_C0_B d_C0_D hA HDD HX HST
        obtain ⟨n0, hn0⟩ : ∃ n0, kk + 2 = n0 := ⟨_, rfl⟩
        have N0 := Lib.hid hn0
        obtain ⟨n1, hn1⟩ : ∃ n', n0 + da.length = n' := ⟨_, rfl⟩
        have N1 := Lib.hid hn1
        have e1 : (kk : Int) + 1 + 1 = (n0 : Int) := by omega
        have l0 : n0 ≤ 4194304 := by have := hcm'.out; have := HM2.out; have := HKK.out; omega
        have L0 := Lib.hid l0
        rw [e1]
        clear e1 hn0 hn1 l0
        refine (c_markFloats' a0 c0 B n0 n1 da _ X0_0.out N1.out L0.out HWS.out).mono ?_
        rintro e w1 ⟨rfl, ho, hg⟩
        have G0 := Lib.hid (GrownIn.of_grown hg)
        have X0_1 := Lib.hid ho
        have RW_1 := Lib.hid (ownsRow_in RW_0.out G0.out Hd_C0_A.out)
        have PR_1 := Lib.hid (OwnL.apart G0.out _ PR_0.out (by rw [bl_mkTns]; exact Hd_C0_B.out))
        have PO_1 := Lib.hid (OwnL.apart G0.out _ PO_0.out Hd_C0_D.out)
        clear ho hg RW_0 PR_0 PO_0 X0_0
        go_wp2_with fail
        go_roundw
        case rel =>
          have hmk : mkTns k (pre ++ [⟨⟨x0, x1, da⟩, a0, c0⟩]) = mkTns k pre ++ [mkTn kk ⟨⟨x0, x1, da⟩, a0, c0⟩] := by
            rw [mkTns_append, HKK.out]; rfl
          refine ⟨pre ++ [⟨⟨x0, x1, da⟩, a0, c0⟩], post, by simp, ?_, ?_, ?_, ?_, PO_1.out, ?_⟩
          · rw [List.length_append, HJ.out]; go_num
          · rw [cntTns_append, cntTns_cons]
            have := N0.out; have := N1.out; have := HKK.out
            simp only [cntTns, List.length_nil, List.map_nil, tnSum, List.sum_nil] at *
            congr 2
            omega
          · rw [hmk, List.append_assoc]; exact RW_1.out
          · rw [hmk, tnsC_append, OwnL_append, tnsC_cons, OwnL_append, TnA.own_iff]
            refine ⟨PR_1.out, ?_, by simp [tnsC, OwnL]⟩
            · simp only [mkTn]; rw [N0.out]; exact X0_1.out
          · refine ((HG.out.trans (GA.out.mono ?_)).trans (G0.out.mono ?_))
            · intro x hx; simp only [List.mem_singleton] at hx; subst hx; simp [tnBl, blk]
            · intro x hx; simp only [tnBl, tnsC_append, tnsC_cons, blL_append, TnA.bl_cs, List.mem_append]; exact .inr (.inr (.inl hx))
        case measure => simp [intOf]; omega
    · have hz : post = [] := List.eq_nil_of_length_eq_zero (by omega)
      subst hz
      obtain rfl : j = n := by omega
      have hfin : (kk : Int) = (m : Int) := by
        have h1 := HKK.out; have h2 := HM.out
        rw [List.append_nil] at h2
        omega
      go_wp2_with fail
      go_ret
      exact ⟨ret_i hfin, by simpa using HRW.out, by simpa using HPR.out, by simpa using HG.out⟩
theorem c_markTns' (gs : Option Addr) (cap n k m B : Nat) (ls : List TnA) (w : World) (hn : ls.length = n) (ho : OwnL w B [.sl 26 3 n gs cap (tnsC ls)]) (hnd : (blL [.sl 26 3 n gs cap (tnsC ls)]).Nodup) (hm : k + cntTns ls = m) (hm2 : m ≤ 4194304) (hsz : tnSum (ls.map TnA.p) ≤ 1048576) (hnm : n ≤ 1048576) :
    Calls Try.prog 21 #[.slice gs n cap, .int .i64 k] w fun e w' => e = .returned (.int .i64 (m : Int)) ∧ OwnL w' B [.sl 26 3 n gs cap (tnsC (mkTns k ls))] ∧ GrownIn w w' (blL [.sl 26 3 n gs cap (tnsC ls)]) := by
  have hbl : blL [Cl.sl 26 3 n gs cap (tnsC ls)] = tnBl gs ls := by simp [blL, Cl.bl, tnBl]
  rw [hbl] at hnd ⊢
  refine (c_markTns gs cap n k m B ls w hn ho.1.1 ho.1.2 hnd hm hm2 hsz hnm).mono ?_
  rintro e w' ⟨he, h1, h2, h3⟩
  exact ⟨he, by simp only [OwnL, Cl.Own, and_true]; exact ⟨h1, h2⟩, h3⟩
end Go.Proofs.Ytappcbijhfghlaa
