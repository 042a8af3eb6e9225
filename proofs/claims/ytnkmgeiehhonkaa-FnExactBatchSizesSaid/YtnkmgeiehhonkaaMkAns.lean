/-
  Marking lists of Answer and looking again. Conditions: the call made them, each block once.
-/
import Derived.Test.YtnkmgeiehhonkaaAnss
namespace Go.Proofs.Ytnkmgeiehhonkaa
open Go.RowKit
set_option linter.unusedVariables false

def mkAns (k : Nat) (x : AnsA) : AnsA := { x with p := ⟨(k : Int), (k : Int) + 1, marks (k + 2) x.p.ro.length⟩ }
def mkAnss (k : Nat) : List AnsA → List AnsA
  | [] => []
  | x :: xs => mkAns k x :: mkAnss (k + 2 + (x.p.ro.length)) xs
def cntAnss (ls : List AnsA) : Nat := 2 * ls.length + ansSum (ls.map AnsA.p)
theorem cnt_ans_copy {y : List AnsA} {n : Nat} {ps : List AnsP} (hl : y.length = n) (hp : y.map AnsA.p = ps) : cntAnss y = 2 * n + ansSum ps := by simp only [cntAnss, hl, hp]
theorem cntAnss_cons (x : AnsA) (xs : List AnsA) : cntAnss (x :: xs) = 2 + (x.p.ro.length) + cntAnss xs := by
  simp only [cntAnss, List.length_cons, List.map_cons, ansSum, List.sum_cons, AnsP.n]; omega
theorem cntAnss_append (a b : List AnsA) : cntAnss (a ++ b) = cntAnss a + cntAnss b := by
  simp only [cntAnss, List.length_append, List.map_append, ansSum, List.sum_append]; omega
theorem mkAnss_append (k : Nat) (a b : List AnsA) : mkAnss k (a ++ b) = mkAnss k a ++ mkAnss (k + cntAnss a) b := by
  induction a generalizing k with
  | nil => simp [mkAnss, cntAnss, ansSum]
  | cons x xs ih =>
    simp only [List.cons_append, mkAnss, ih, cntAnss_cons]
    rw [show k + 2 + (x.p.ro.length) + cntAnss xs = k + (2 + (x.p.ro.length) + cntAnss xs) by omega]
theorem mkAnss_length (k : Nat) (a : List AnsA) : (mkAnss k a).length = a.length := by
  induction a generalizing k with
  | nil => rfl
  | cons x xs ih => simp [mkAnss, ih]
theorem anssC_append (a b : List AnsA) : anssC (a ++ b) = anssC a ++ anssC b := by simp [anssC]
theorem anssC_cons (x : AnsA) (b : List AnsA) : anssC (x :: b) = x.cs ++ anssC b := by simp [anssC]
theorem bl_mkAnss (k : Nat) (a : List AnsA) : blL (anssC (mkAnss k a)) = blL (anssC a) := by
  induction a generalizing k with
  | nil => rfl
  | cons x xs ih => simp only [mkAnss, anssC_cons, blL_append, ih, AnsA.bl_cs]; rfl
theorem mk_ans_row (M post : List AnsA) (x : AnsA) (k : Nat) :
    (((vs (anssC (M ++ x :: post))).set (M.length * 3) (.int .i64 ((k : Int)))).set (M.length * 3 + 1) (.int .i64 ((k : Int) + 1))) = vs (anssC (M ++ mkAns k x :: post)) := by
  have hl : (vs (anssC M)).length = M.length * 3 := by rw [vs_length, anssC_length]
  rw [anssC_append, anssC_append, vs_append, vs_append, anssC_cons, anssC_cons, vs_append, vs_append]
  rw [List.set_append_right _ _ (by omega), hl, Nat.sub_self, List.set_append_right _ _ (by omega), hl, Nat.add_sub_cancel_left]
  simp only [AnsA.vs_cs, AnsA.cells, mkAns, marks_length, List.cons_append, List.set_cons_zero, List.set_cons_succ]
theorem dis_ans {A B C0 D : List Nat} (h : (A ++ (B ++ (C0 ++ D))).Nodup) :
    (∀ g ∈ B, g ∉ A) ∧ (∀ g ∈ C0, g ∉ A) ∧ (∀ g ∈ D, g ∉ A) ∧ (∀ g ∈ A, g ∉ C0) ∧ (∀ g ∈ B, g ∉ C0) ∧ (∀ g ∈ D, g ∉ C0) := by
  simp only [List.nodup_append, List.mem_append] at h
  obtain ⟨_, ⟨_, ⟨_, _, h2⟩, h1⟩, h0⟩ := h
  exact ⟨fun g h' h => h0 g h g (.inl h') rfl, fun g h' h => h0 g h g (.inr (.inl h')) rfl, fun g h' h => h0 g h g (.inr (.inr h')) rfl, fun g h h' => h0 g h g (.inr (.inl h')) rfl, fun g h h' => h1 g h g (.inl h') rfl, fun g h' h => h2 g h g (h') rfl⟩
def ansBl (gs : Option Addr) (ls : List AnsA) : List Nat := (blk gs).toList ++ blL (anssC ls)
def MkAnsRel (gs : Option Addr) (cap n k B : Nat) (ls : List AnsA) (w : World) (kv iv : Value) (wr : World) : Prop :=
  ∃ (pre post : List AnsA), ls = pre ++ post ∧ iv = .int .i64 (pre.length : Int) ∧ kv = .int .i64 ((k + cntAnss pre : Nat) : Int) ∧ wr.ownsRow B 138 3 (.slice gs n cap) n (vs (anssC (mkAnss k pre ++ post))) ∧
    OwnL wr B (anssC (mkAnss k pre)) ∧ OwnL wr B (anssC post) ∧ GrownIn w wr (ansBl gs ls)
theorem ans_inn {w w' : World} {B : Nat} {a : Option Addr} {cap : Nat} {ys : List Nat} {S : List Nat} (h : OwnF w B a cap ys) (hg : GrownIn w w' S) (hn : ∀ g ∈ (blk a).toList, g ∉ S) : OwnF w' B a cap ys :=
  ⟨ownsRow_in h.1 hg hn, h.2⟩
set_option maxRecDepth 20000 in
set_option maxHeartbeats 4000000 in
theorem c_markAnss (gs : Option Addr) (cap n k m B : Nat) (ls : List AnsA) (w : World) (hn : ls.length = n) (hrow : w.ownsRow B 138 3 (.slice gs n cap) n (vs (anssC ls))) (hown : OwnL w B (anssC ls)) (hnd : (ansBl gs ls).Nodup)
    (hm : k + cntAnss ls = m) (hm2 : m ≤ 4194304) (hsz : ansSum (ls.map AnsA.p) ≤ 1048576) (hnm : n ≤ 1048576) :
    Calls Try.prog 26 #[.slice gs n cap, .int .i64 k] w fun e w' => e = .returned (.int .i64 (m : Int)) ∧ w'.ownsRow B 138 3 (.slice gs n cap) n (vs (anssC (mkAnss k ls))) ∧ OwnL w' B (anssC (mkAnss k ls)) ∧ GrownIn w w' (ansBl gs ls) := by
  have HN := Lib.hid hn
  have HR := Lib.hid hrow
  have HO := Lib.hid hown
  have HD := Lib.hid hnd
  have HM := Lib.hid hm
  have HM2 := Lib.hid hm2
  have HSZ := Lib.hid hsz
  clear hn hrow hown hnd hm hm2 hsz
  go_enter Try.func26, Try.ntmps26
  go_wp2
  go_loopw [1, 5] (fun kv iv wr => MkAnsRel gs cap n k B ls w kv iv wr) (fun _ iv _ => n - (intOf iv).toNat)
  case atStart => exact ⟨[], ls, rfl, rfl, by simp [cntAnss, ansSum], HR.out, by simp [mkAnss, anssC, OwnL], HO.out, GrownIn.refl _ _⟩
  case round =>
    obtain ⟨pre, post, rfl, rfl, rfl, hrow, hpre, hpost, hg⟩ := hrel
    have HRW := Lib.hid hrow
    have HPR := Lib.hid hpre
    have HPO := Lib.hid hpost
    have HG := Lib.hid hg
    obtain ⟨j, hj⟩ : ∃ j, pre.length = j := ⟨_, rfl⟩
    have HJ := Lib.hid hj
    rw [hj]
    have hnl := HN.out
    rw [List.length_append, hj] at hnl
    have hjn : j ≤ n := by omega
    obtain ⟨kk, hkk⟩ : ∃ kk, k + cntAnss pre = kk := ⟨_, rfl⟩
    have HKK := Lib.hid hkk
    rw [hkk]
    clear hrow hpre hpost hg hj
    by_cases hlt : j < n
    · cases post with
      | nil => simp at hnl; omega
      | cons x post =>
        obtain ⟨⟨x0, x1, ro⟩, a0, c0⟩ := x
        have hcm := HM.out
        rw [cntAnss_append, cntAnss_cons] at hcm
        dsimp only at hcm
        have hm4 := HM2.out
        have hkb : (kk : Int) ≤ 4194304 := by omega
        have hlt' : (j : Int) < (n : Int) := by omega
        have hws : ro.length ≤ 1048576 := by
          have := HSZ.out
          simp only [List.map_append, List.map_cons, ansSum, List.sum_append, List.sum_cons, AnsP.n] at this
          omega
        have HWS := Lib.hid hws
        obtain ⟨g, rfl⟩ : ∃ g, gs = some ⟨g, 0, none⟩ := by
          rcases HRW.out.2 with ⟨hv, h0⟩ | ⟨g, c, cur, hv, _⟩
          · omega
          · simp only [Value.slice.injEq] at hv; exact ⟨g, hv.1⟩
        have hl5 : (mkAnss k pre).length = j := by rw [mkAnss_length]; exact HJ.out
        have hcell : ∀ i, i < 3 → wr.cell? ⟨g, j * 3 + i, none⟩ = (vs (⟨⟨x0, x1, ro⟩, a0, c0⟩ : AnsA).cs)[i]? := by
          intro i hi
          rw [HRW.out.cellAt _ (by omega), anssC_append, vs_append, List.getElem?_append_right (by rw [vs_length, anssC_length, hl5]; omega), vs_length, anssC_length, hl5, Nat.add_sub_cancel_left, anssC_cons, vs_append, List.getElem?_append_left (by rw [vs_length, AnsA.cs_len]; exact hi)]
        have q0 := hcell 0 (by omega)
        have q1 := hcell 1 (by omega)
        have q2 := hcell 2 (by omega)
        rw [AnsA.vs_cs] at q0 q1 q2
        simp only [AnsA.cells, List.getElem?_cons_zero, List.getElem?_cons_succ, Nat.add_zero] at q0 q1 q2
        have z0 := HRW.out.frozenAt (j * 3)
        have z1 := HRW.out.frozenAt (j * 3 + 1)
        have hcm' := Lib.hid hcm
        clear hcell hnl hcm hm4 hws
        have hd := HD.out
        rw [ansBl, anssC_append, anssC_cons, blL_append, blL_append, AnsA.bl_cs] at hd
        have HDD := Lib.hid (dis_ans hd)
        have hpo := HPO.out
        rw [anssC_cons, OwnL_append, AnsA.own_iff] at hpo
        have HX := Lib.hid hpo
        have hst := ((HRW.out.stored (j * 3) (.int .i64 ((kk : Int)))).1.stored (j * 3 + 1) (.int .i64 ((kk : Int) + 1))).1
        rw [← hl5, mk_ans_row] at hst
        rw [hl5] at hst
        have HST := Lib.hid hst
        have HL5 := Lib.hid hl5
        clear hd hpo hst hl5
        go_wp2_with fail
        clear q0 q1 q2 z0 z1
        have gA : GrownIn wr ((wr.setCell ⟨g, j * 3, none⟩ (.int .i64 ((kk : Int)))).setCell ⟨g, j * 3 + 1, none⟩ (.int .i64 ((kk : Int) + 1))) [g] :=
          (((GrownIn.refl wr [g]).setCell (p := ⟨g, _, none⟩) (by simp) _).setCell (p := ⟨g, _, none⟩) (by simp) _)
        have GA := Lib.hid gA
        clear gA
        generalize ((wr.setCell ⟨g, j * 3, none⟩ (.int .i64 ((kk : Int)))).setCell ⟨g, j * 3 + 1, none⟩ (.int .i64 ((kk : Int) + 1))) = w0 at HST GA ⊢
        obtain ⟨d_A_B, d_A_C0, d_A_D, d_C0_A, d_C0_B, d_C0_D⟩ := HDD.out
        have hA : (blk (some (⟨g, 0, none⟩ : Addr))).toList = [g] := rfl
        rw [hA] at d_A_B d_A_C0 d_A_D d_C0_A
        have PR_0 := Lib.hid (OwnL.apart GA.out _ HPR.out (by rw [bl_mkAnss]; exact d_A_B))
        have X0_0 := Lib.hid (ans_inn (HX.out.1) GA.out d_A_C0)
        have PO_0 := Lib.hid (OwnL.apart GA.out _ HX.out.2 d_A_D)
        have RW_0 := HST
        have Hd_C0_A := Lib.hid d_C0_A
        have Hd_C0_B := Lib.hid d_C0_B
        have Hd_C0_D := Lib.hid d_C0_D
        clear d_A_B d_A_C0 d_A_D d_C0_A d_C0_B d_C0_D hA HDD HX HST
        obtain ⟨n0, hn0⟩ : ∃ n0, kk + 2 = n0 := ⟨_, rfl⟩
        have N0 := Lib.hid hn0
        obtain ⟨n1, hn1⟩ : ∃ n', n0 + ro.length = n' := ⟨_, rfl⟩
        have N1 := Lib.hid hn1
        have e1 : (kk : Int) + 1 + 1 = (n0 : Int) := by omega
        have l0 : n0 ≤ 4194304 := by have := hcm'.out; have := HM2.out; have := HKK.out; omega
        have L0 := Lib.hid l0
        rw [e1]
        clear e1 hn0 hn1 l0
        refine (c_markFloats' a0 c0 B n0 n1 ro _ X0_0.out N1.out L0.out HWS.out).mono ?_
        rintro e w1 ⟨rfl, ho, hg⟩
        have G0 := Lib.hid (GrownIn.of_grown hg)
        have X0_1 := Lib.hid ho
        have RW_1 := Lib.hid (ownsRow_in RW_0.out G0.out Hd_C0_A.out)
        have PR_1 := Lib.hid (OwnL.apart G0.out _ PR_0.out (by rw [bl_mkAnss]; exact Hd_C0_B.out))
        have PO_1 := Lib.hid (OwnL.apart G0.out _ PO_0.out Hd_C0_D.out)
        clear ho hg RW_0 PR_0 PO_0 X0_0
        go_wp2_with fail
        go_roundw
        case rel =>
          have hmk : mkAnss k (pre ++ [⟨⟨x0, x1, ro⟩, a0, c0⟩]) = mkAnss k pre ++ [mkAns kk ⟨⟨x0, x1, ro⟩, a0, c0⟩] := by
            rw [mkAnss_append, HKK.out]; rfl
          refine ⟨pre ++ [⟨⟨x0, x1, ro⟩, a0, c0⟩], post, by simp, ?_, ?_, ?_, ?_, PO_1.out, ?_⟩
          · rw [List.length_append, HJ.out]; go_num
          · rw [cntAnss_append, cntAnss_cons]
            have := N0.out; have := N1.out; have := HKK.out
            simp only [cntAnss, List.length_nil, List.map_nil, ansSum, List.sum_nil] at *
            congr 2
            omega
          · rw [hmk, List.append_assoc]; exact RW_1.out
          · rw [hmk, anssC_append, OwnL_append, anssC_cons, OwnL_append, AnsA.own_iff]
            refine ⟨PR_1.out, ?_, by simp [anssC, OwnL]⟩
            · simp only [mkAns]; rw [N0.out]; exact X0_1.out
          · refine ((HG.out.trans (GA.out.mono ?_)).trans (G0.out.mono ?_))
            · intro x hx; simp only [List.mem_singleton] at hx; subst hx; simp [ansBl, blk]
            · intro x hx; simp only [ansBl, anssC_append, anssC_cons, blL_append, AnsA.bl_cs, List.mem_append]; exact .inr (.inr (.inl hx))
        case measure => simp [intOf]; omega
    · have hz : post = [] := List.eq_nil_of_length_eq_zero (by omega)
      subst hz
      obtain rfl : j = n := by omega
      have hfin : (kk : Int) = (m : Int) := by
        have h1 := HKK.out; have h2 := HM.out
        rw [List.append_nil] at h2
        omega
      go_wp2_with fail
      go_ret
      exact ⟨ret_i hfin, by simpa using HRW.out, by simpa using HPR.out, by simpa using HG.out⟩
theorem c_markAnss' (gs : Option Addr) (cap n k m B : Nat) (ls : List AnsA) (w : World) (hn : ls.length = n) (ho : OwnL w B [.sl 138 3 n gs cap (anssC ls)]) (hnd : (blL [.sl 138 3 n gs cap (anssC ls)]).Nodup) (hm : k + cntAnss ls = m) (hm2 : m ≤ 4194304) (hsz : ansSum (ls.map AnsA.p) ≤ 1048576) (hnm : n ≤ 1048576) :
    Calls Try.prog 26 #[.slice gs n cap, .int .i64 k] w fun e w' => e = .returned (.int .i64 (m : Int)) ∧ OwnL w' B [.sl 138 3 n gs cap (anssC (mkAnss k ls))] ∧ GrownIn w w' (blL [.sl 138 3 n gs cap (anssC ls)]) := by
  have hbl : blL [Cl.sl 138 3 n gs cap (anssC ls)] = ansBl gs ls := by simp [blL, Cl.bl, ansBl]
  rw [hbl] at hnd ⊢
  refine (c_markAnss gs cap n k m B ls w hn ho.1.1 ho.1.2 hnd hm hm2 hsz hnm).mono ?_
  rintro e w' ⟨he, h1, h2, h3⟩
  exact ⟨he, by simp only [OwnL, Cl.Own, and_true]; exact ⟨h1, h2⟩, h3⟩
end Go.Proofs.Ytnkmgeiehhonkaa
