/-
  Marking lists of layers and looking again. Conditions: the call made them, each block once.
-/
import Derived.Test.YtaipegkkpkagnaaMod
namespace Go.Proofs.Ytaipegkkpkagnaa
open Go.RowKit
set_option linter.unusedVariables false

def mkLay (k : Nat) (x : LayA) : LayA := { x with p := ⟨(k : Int), (k : Int) + 1, (k : Int) + 1 + 1, marks (k + 3) x.p.ws.length, marks (k + 3 + x.p.ws.length) x.p.bs.length⟩ }
def mkLays (k : Nat) : List LayA → List LayA
  | [] => []
  | x :: xs => mkLay k x :: mkLays (k + 3 + (x.p.ws.length + x.p.bs.length)) xs
def cntLays (ls : List LayA) : Nat := 3 * ls.length + laySum (ls.map LayA.p)
theorem cnt_copy {y : List LayA} {n : Nat} {ps : List LayP} (hl : y.length = n) (hp : y.map LayA.p = ps) : cntLays y = 3 * n + laySum ps := by simp only [cntLays, hl, hp]
theorem cntLays_cons (x : LayA) (xs : List LayA) : cntLays (x :: xs) = 3 + (x.p.ws.length + x.p.bs.length) + cntLays xs := by
  simp only [cntLays, List.length_cons, List.map_cons, laySum, List.sum_cons, LayP.n]; omega
theorem cntLays_append (a b : List LayA) : cntLays (a ++ b) = cntLays a + cntLays b := by
  simp only [cntLays, List.length_append, List.map_append, laySum, List.sum_append]; omega
theorem mkLays_append (k : Nat) (a b : List LayA) : mkLays k (a ++ b) = mkLays k a ++ mkLays (k + cntLays a) b := by
  induction a generalizing k with
  | nil => simp [mkLays, cntLays, laySum]
  | cons x xs ih =>
    simp only [List.cons_append, mkLays, ih, cntLays_cons]
    rw [show k + 3 + (x.p.ws.length + x.p.bs.length) + cntLays xs = k + (3 + (x.p.ws.length + x.p.bs.length) + cntLays xs) by omega]
theorem mkLays_length (k : Nat) (a : List LayA) : (mkLays k a).length = a.length := by
  induction a generalizing k with
  | nil => rfl
  | cons x xs ih => simp [mkLays, ih]
theorem laysC_append (a b : List LayA) : laysC (a ++ b) = laysC a ++ laysC b := by simp [laysC]
theorem laysC_cons (x : LayA) (b : List LayA) : laysC (x :: b) = x.cs ++ laysC b := by simp [laysC]
theorem bl_mkLays (k : Nat) (a : List LayA) : blL (laysC (mkLays k a)) = blL (laysC a) := by
  induction a generalizing k with
  | nil => rfl
  | cons x xs ih => simp only [mkLays, laysC_cons, blL_append, ih, LayA.bl_cs]; rfl
/-- the row with one layer marked -/
theorem mk_row (M post : List LayA) (x : LayA) (k : Nat) :
    (((vs (laysC (M ++ x :: post))).set (M.length * 5) (.int .i64 (k : Int))).set (M.length * 5 + 1) (.int .i64 ((k : Int) + 1))).set (M.length * 5 + 2) (.int .i64 ((k : Int) + 1 + 1)) = vs (laysC (M ++ mkLay k x :: post)) := by
  have hl : (vs (laysC M)).length = M.length * 5 := by rw [vs_length, laysC_length]
  rw [laysC_append, laysC_append, vs_append, vs_append, laysC_cons, laysC_cons, vs_append, vs_append]
  rw [List.set_append_right _ _ (by omega), hl, Nat.sub_self, List.set_append_right _ _ (by omega), hl, Nat.add_sub_cancel_left, List.set_append_right _ _ (by omega), hl, Nat.add_sub_cancel_left]
  simp only [LayA.vs_cs, LayA.cells, mkLay, marks_length, List.cons_append, List.set_cons_zero, List.set_cons_succ]
theorem dis5 {A B C D E : List Nat} (h : (A ++ (B ++ (C ++ (D ++ E)))).Nodup) :
    (∀ g ∈ B, g ∉ A) ∧ (∀ g ∈ C, g ∉ A) ∧ (∀ g ∈ D, g ∉ A) ∧ (∀ g ∈ E, g ∉ A) ∧ (∀ g ∈ B, g ∉ C) ∧ (∀ g ∈ D, g ∉ C) ∧ (∀ g ∈ E, g ∉ C) ∧ (∀ g ∈ B, g ∉ D) ∧ (∀ g ∈ C, g ∉ D) ∧ (∀ g ∈ E, g ∉ D) ∧ (∀ g ∈ A, g ∉ C) ∧ (∀ g ∈ A, g ∉ D) := by
  simp only [List.nodup_append, List.mem_append] at h
  obtain ⟨_, ⟨_, ⟨_, ⟨_, _, h5⟩, h4⟩, h3⟩, h2⟩ := h
  refine ⟨?_, ?_, ?_, ?_, ?_, ?_, ?_, ?_, ?_, ?_, ?_, ?_⟩
  · exact fun g h h' => h2 g h' g (.inl h) rfl
  · exact fun g h h' => h2 g h' g (.inr (.inl h)) rfl
  · exact fun g h h' => h2 g h' g (.inr (.inr (.inl h))) rfl
  · exact fun g h h' => h2 g h' g (.inr (.inr (.inr h))) rfl
  · exact fun g h h' => h3 g h g (.inl h') rfl
  · exact fun g h h' => h4 g h' g (.inl h) rfl
  · exact fun g h h' => h4 g h' g (.inr h) rfl
  · exact fun g h h' => h3 g h g (.inr (.inl h')) rfl
  · exact fun g h h' => h4 g h g (.inl h') rfl
  · exact fun g h h' => h5 g h' g h rfl
  · exact fun g h h' => h2 g h g (.inr (.inl h')) rfl
  · exact fun g h h' => h2 g h g (.inr (.inr (.inl h'))) rfl
/-- all blocks of a list of layers and its row -/
def layBl (gs : Option Addr) (ls : List LayA) : List Nat := (blk gs).toList ++ blL (laysC ls)
def MkRel (gs : Option Addr) (cap n k B : Nat) (ls : List LayA) (w : World) (kv iv : Value) (wr : World) : Prop :=
  ∃ (pre post : List LayA), ls = pre ++ post ∧ iv = .int .i64 (pre.length : Int) ∧ kv = .int .i64 ((k + cntLays pre : Nat) : Int) ∧ wr.ownsRow B 113 5 (.slice gs n cap) n (vs (laysC (mkLays k pre ++ post))) ∧
    OwnL wr B (laysC (mkLays k pre)) ∧ OwnL wr B (laysC post) ∧ GrownIn w wr (layBl gs ls)
theorem OwnF.inn {w w' : World} {B : Nat} {a : Option Addr} {cap : Nat} {ys : List Nat} {S : List Nat} (h : OwnF w B a cap ys) (hg : GrownIn w w' S) (hn : ∀ g ∈ (blk a).toList, g ∉ S) : OwnF w' B a cap ys :=
  ⟨ownsRow_in h.1 hg hn, h.2⟩
set_option maxRecDepth 20000 in
set_option maxHeartbeats 4000000 in
theorem c_markLays (gs : Option Addr) (cap n k m B : Nat) (ls : List LayA) (w : World) (hn : ls.length = n) (hrow : w.ownsRow B 113 5 (.slice gs n cap) n (vs (laysC ls))) (hown : OwnL w B (laysC ls)) (hnd : (layBl gs ls).Nodup)
    (hm : k + cntLays ls = m) (hm2 : m ≤ 4194304) (hsz : laySum (ls.map LayA.p) ≤ 1048576) :
    Calls Try.prog 181 #[.slice gs n cap, .int .i64 k] w fun e w' => e = .returned (.int .i64 (m : Int)) ∧ w'.ownsRow B 113 5 (.slice gs n cap) n (vs (laysC (mkLays k ls))) ∧ OwnL w' B (laysC (mkLays k ls)) ∧ GrownIn w w' (layBl gs ls) := by
  have hnm : n ≤ 1398101 := by simp only [cntLays] at hm; omega
  have HN := Lib.hid hn
  have HR := Lib.hid hrow
  have HO := Lib.hid hown
  have HD := Lib.hid hnd
  have HM := Lib.hid hm
  have HM2 := Lib.hid hm2
  have HSZ := Lib.hid hsz
  clear hn hrow hown hnd hm hm2 hsz
  go_enter Try.func181, Try.ntmps181
  go_wp2
  go_loopw [1, 5] (fun kv iv wr => MkRel gs cap n k B ls w kv iv wr) (fun _ iv _ => n - (intOf iv).toNat)
  case atStart => exact ⟨[], ls, rfl, rfl, by simp [cntLays, laySum], HR.out, by simp [mkLays, laysC, OwnL], HO.out, GrownIn.refl _ _⟩
  case round =>
    obtain ⟨pre, post, rfl, rfl, rfl, hrow, hpre, hpost, hg⟩ := hrel
    have HRW := Lib.hid hrow
    have HPR := Lib.hid hpre
    have HPO := Lib.hid hpost
    have HG := Lib.hid hg
    obtain ⟨j, hj⟩ : ∃ j, pre.length = j := ⟨_, rfl⟩
    have HJ := Lib.hid hj
    rw [hj]
    have hnl := HN.out
    rw [List.length_append, hj] at hnl
    have hjn : j ≤ n := by omega
    obtain ⟨kk, hkk⟩ : ∃ kk, k + cntLays pre = kk := ⟨_, rfl⟩
    have HKK := Lib.hid hkk
    rw [hkk]
    clear hrow hpre hpost hg hj
    by_cases hlt : j < n
    · cases post with
      | nil => simp at hnl; omega
      | cons x post =>
        obtain ⟨⟨x1, x2, x3, ws, bs⟩, a0, c0, a1, c1⟩ := x
        have hcm := HM.out
        rw [cntLays_append, cntLays_cons] at hcm
        dsimp only at hcm
        have hm4 := HM2.out
        have hkb : (kk : Int) ≤ 4194304 := by omega
        have hlt' : (j : Int) < (n : Int) := by omega
        have hws : ws.length ≤ 1048576 ∧ bs.length ≤ 1048576 := by
          have := HSZ.out
          simp only [List.map_append, List.map_cons, laySum, List.sum_append, List.sum_cons, LayP.n] at this
          omega
        have HWS := Lib.hid hws
        obtain ⟨g, rfl⟩ : ∃ g, gs = some ⟨g, 0, none⟩ := by
          rcases HRW.out.2 with ⟨hv, h0⟩ | ⟨g, c, cur, hv, _⟩
          · omega
          · simp only [Value.slice.injEq] at hv; exact ⟨g, hv.1⟩
        have hl5 : (mkLays k pre).length = j := by rw [mkLays_length]; exact HJ.out
        have hcell : ∀ i, i < 5 → wr.cell? ⟨g, j * 5 + i, none⟩ = (vs (⟨⟨x1, x2, x3, ws, bs⟩, a0, c0, a1, c1⟩ : LayA).cs)[i]? := by
          intro i hi
          rw [HRW.out.cellAt _ (by omega), laysC_append, vs_append, List.getElem?_append_right (by rw [vs_length, laysC_length, hl5]; omega), vs_length, laysC_length, hl5, Nat.add_sub_cancel_left, laysC_cons, vs_append, List.getElem?_append_left (by rw [vs_length, LayA.cs_len]; exact hi)]
        have q0 := hcell 0 (by omega)
        have q1 := hcell 1 (by omega)
        have q2 := hcell 2 (by omega)
        have q3 := hcell 3 (by omega)
        have q4 := hcell 4 (by omega)
        rw [LayA.vs_cs] at q0 q1 q2 q3 q4
        simp only [LayA.cells, List.getElem?_cons_zero, List.getElem?_cons_succ, Nat.add_zero] at q0 q1 q2 q3 q4
        have z0 := HRW.out.frozenAt (j * 5)
        have z1 := HRW.out.frozenAt (j * 5 + 1)
        have z2 := HRW.out.frozenAt (j * 5 + 2)
        have hcm' := Lib.hid hcm
        clear hcell hnl hcm hm4 hws
        have hd := HD.out
        rw [layBl, laysC_append, laysC_cons, blL_append, blL_append, LayA.bl_cs] at hd
        simp only [List.append_assoc] at hd
        have HDD := Lib.hid (dis5 hd)
        have hpo := HPO.out
        rw [laysC_cons, OwnL_append, LayA.own_iff] at hpo
        have HX := Lib.hid hpo
        have hst := (((HRW.out.stored (j * 5) (.int .i64 (kk : Int))).1.stored (j * 5 + 1) (.int .i64 ((kk : Int) + 1))).1.stored (j * 5 + 2) (.int .i64 ((kk : Int) + 1 + 1))).1
        rw [← hl5, mk_row] at hst
        rw [hl5] at hst
        have HST := Lib.hid hst
        have HL5 := Lib.hid hl5
        clear hd hpo hst hl5
        go_wp2_with fail
        clear q0 q1 q2 q3 q4 z0 z1 z2
        have gA : GrownIn wr (((wr.setCell ⟨g, j * 5, none⟩ (.int .i64 (kk : Int))).setCell ⟨g, j * 5 + 1, none⟩ (.int .i64 ((kk : Int) + 1))).setCell ⟨g, j * 5 + 2, none⟩ (.int .i64 ((kk : Int) + 1 + 1))) [g] :=
          (((GrownIn.refl wr [g]).setCell (p := ⟨g, _, none⟩) (by simp) _).setCell (p := ⟨g, _, none⟩) (by simp) _).setCell (p := ⟨g, _, none⟩) (by simp) _
        have GA := Lib.hid gA
        clear gA
        generalize (((wr.setCell ⟨g, j * 5, none⟩ (.int .i64 (kk : Int))).setCell ⟨g, j * 5 + 1, none⟩ (.int .i64 ((kk : Int) + 1))).setCell ⟨g, j * 5 + 2, none⟩ (.int .i64 ((kk : Int) + 1 + 1))) = wa at HST GA ⊢
        obtain ⟨d1, d2, d3, d4, d5, d6, d7, d8, d9, d10, d11, d12⟩ := HDD.out
        have hA : (blk (some (⟨g, 0, none⟩ : Addr))).toList = [g] := rfl
        rw [hA] at d1 d2 d3 d4 d11 d12
        have P1 := Lib.hid (OwnL.apart GA.out _ HPR.out (by rw [bl_mkLays]; exact d1))
        have X1 := Lib.hid (HX.out.1.1.inn GA.out d2)
        have Y1 := Lib.hid (HX.out.1.2.inn GA.out d3)
        have Q1 := Lib.hid (OwnL.apart GA.out _ HX.out.2 d4)
        obtain ⟨n1, hn1⟩ : ∃ n1, kk + 3 = n1 := ⟨_, rfl⟩
        obtain ⟨n2, hn2⟩ : ∃ n2, n1 + ws.length = n2 := ⟨_, rfl⟩
        obtain ⟨n3, hn3⟩ : ∃ n3, n2 + bs.length = n3 := ⟨_, rfl⟩
        have N1 := Lib.hid hn1
        have N2 := Lib.hid hn2
        have N3 := Lib.hid hn3
        have e1 : (kk : Int) + 1 + 1 + 1 = (n1 : Int) := by omega
        have l1 : n1 ≤ 4194304 := by have := hcm'.out; have := HM2.out; have := HKK.out; omega
        have l2 : n2 ≤ 4194304 := by have := hcm'.out; have := HM2.out; have := HKK.out; omega
        have L1 := Lib.hid l1
        have L2 := Lib.hid l2
        have D := Lib.hid (And.intro d5 (And.intro d6 (And.intro d7 (And.intro d8 (And.intro d9 (And.intro d10 (And.intro d11 d12)))))))
        rw [e1]
        clear d1 d2 d3 d4 d5 d6 d7 d8 d9 d10 d11 d12 hn1 hn2 hn3 e1 l1 l2 hA HDD HX
        refine (c_markFloats' a0 c0 B n1 n2 ws _ X1.out N2.out L1.out HWS.out.1).mono ?_
        rintro e wb ⟨rfl, ho, hg⟩
        have GB := Lib.hid (GrownIn.of_grown hg)
        have X2 := Lib.hid ho
        have R2 := Lib.hid (ownsRow_in HST.out GB.out D.out.2.2.2.2.2.2.1)
        have P2 := Lib.hid (OwnL.apart GB.out _ P1.out (by rw [bl_mkLays]; exact D.out.1))
        have Y2 := Lib.hid (Y1.out.inn GB.out D.out.2.1)
        have Q2 := Lib.hid (OwnL.apart GB.out _ Q1.out D.out.2.2.1)
        clear ho hg X1 HST P1 Y1 Q1
        have q4 : wb.cell? ⟨g, j * 5 + 4, none⟩ = some (.slice a1 bs.length c1) := by
          have hl5 := HL5.out
          rw [R2.out.cellAt _ (by omega), laysC_append, vs_append, List.getElem?_append_right (by rw [vs_length, laysC_length, hl5]; omega), vs_length, laysC_length, hl5, Nat.add_sub_cancel_left, laysC_cons, vs_append, List.getElem?_append_left (by rw [vs_length, LayA.cs_len]; omega)]
          simp [mkLay, LayA.vs_cs, LayA.cells, marks_length]
        go_wp2_with fail
        clear q4
        refine (c_markFloats' a1 c1 B n2 n3 bs _ Y2.out N3.out L2.out HWS.out.2).mono ?_
        rintro e wc ⟨rfl, ho, hg⟩
        have GC := Lib.hid (GrownIn.of_grown hg)
        have Y3 := Lib.hid ho
        have R3 := Lib.hid (ownsRow_in R2.out GC.out D.out.2.2.2.2.2.2.2)
        have P3 := Lib.hid (OwnL.apart GC.out _ P2.out (by rw [bl_mkLays]; exact D.out.2.2.2.1))
        have X3 := Lib.hid (X2.out.inn GC.out D.out.2.2.2.2.1)
        have Q3 := Lib.hid (OwnL.apart GC.out _ Q2.out D.out.2.2.2.2.2.1)
        clear ho hg X2 R2 P2 Y2 Q2
        go_wp2_with fail
        go_roundw
        case rel =>
          have hmk : mkLays k (pre ++ [⟨⟨x1, x2, x3, ws, bs⟩, a0, c0, a1, c1⟩]) = mkLays k pre ++ [mkLay kk ⟨⟨x1, x2, x3, ws, bs⟩, a0, c0, a1, c1⟩] := by
            rw [mkLays_append, HKK.out]; rfl
          refine ⟨pre ++ [⟨⟨x1, x2, x3, ws, bs⟩, a0, c0, a1, c1⟩], post, by simp, ?_, ?_, ?_, ?_, Q3.out, ?_⟩
          · rw [List.length_append, HJ.out]; go_num
          · rw [cntLays_append, cntLays_cons]
            have := N1.out; have := N2.out; have := N3.out; have := HKK.out
            simp only [cntLays, List.length_nil, List.map_nil, laySum, List.sum_nil] at *
            congr 2
            omega
          · rw [hmk, List.append_assoc]; exact R3.out
          · rw [hmk, laysC_append, OwnL_append, laysC_cons, OwnL_append, LayA.own_iff]
            refine ⟨P3.out, ⟨?_, ?_⟩, by simp [laysC, OwnL]⟩
            · simp only [mkLay]; rw [N1.out]; exact X3.out
            · simp only [mkLay]; rw [N1.out, N2.out]; exact Y3.out
          · refine ((HG.out.trans (GA.out.mono ?_)).trans (GB.out.mono ?_)).trans (GC.out.mono ?_)
            · intro x hx; simp only [List.mem_singleton] at hx; subst hx; simp [layBl, blk]
            · intro x hx; simp only [layBl, laysC_append, laysC_cons, blL_append, LayA.bl_cs, List.mem_append]; exact .inr (.inr (.inl (.inl hx)))
            · intro x hx; simp only [layBl, laysC_append, laysC_cons, blL_append, LayA.bl_cs, List.mem_append]; exact .inr (.inr (.inl (.inr hx)))
        case measure => simp [intOf]; omega
    · have hz : post = [] := List.eq_nil_of_length_eq_zero (by omega)
      subst hz
      obtain rfl : j = n := by omega
      have hfin : (kk : Int) = (m : Int) := by
        have h1 := HKK.out; have h2 := HM.out
        rw [List.append_nil] at h2
        omega
      go_wp2_with fail
      go_ret
      exact ⟨ret_i hfin, by simpa using HRW.out, by simpa using HPR.out, by simpa using HG.out⟩
def HeldLRel (n k : Nat) (ls : List LayA) (w : World) (kv iv : Value) (wr : World) : Prop :=
  ∃ j : Nat, j ≤ n ∧ iv = .int .i64 j ∧ kv = .int .i64 ((k + cntLays (ls.take j) : Nat) : Int) ∧ w = wr
theorem mkLays_get {ls : List LayA} {k j : Nat} {x : LayA} (h : ls[j]? = some x) : (mkLays k ls)[j]? = some (mkLay (k + cntLays (ls.take j)) x) := by
  have hlt : j < ls.length := (List.getElem?_eq_some_iff.1 h).1
  have hsp : ls = ls.take j ++ x :: ls.drop (j + 1) := by
    have h1 := (List.take_append_drop j ls).symm
    rw [List.drop_eq_getElem_cons hlt] at h1
    rw [(List.getElem?_eq_some_iff.1 h).2] at h1
    exact h1
  have hl : (mkLays k (ls.take j)).length = j := by rw [mkLays_length]; simp; omega
  rw [hsp, mkLays_append, List.getElem?_append_right (by rw [hl]; omega), hl, Nat.sub_self]
  simp only [mkLays, List.getElem?_cons_zero]
  congr 2
  rw [← hsp]
theorem cntLays_take {ls : List LayA} {j : Nat} {x : LayA} (h : ls[j]? = some x) : cntLays (ls.take (j + 1)) = cntLays (ls.take j) + (3 + (x.p.ws.length + x.p.bs.length)) := by
  rw [List.take_add_one, h, cntLays_append]
  simp [cntLays, laySum, LayP.n]
theorem cntLays_le (ls : List LayA) (j : Nat) : cntLays (ls.take j) ≤ cntLays ls := by
  have h : ls = ls.take j ++ ls.drop j := (List.take_append_drop j ls).symm
  conv => rhs; rw [h, cntLays_append]
  omega
set_option maxRecDepth 20000 in
set_option maxHeartbeats 4000000 in
theorem c_heldLays (gs : Option Addr) (cap n k m : Nat) (ls : List LayA) (w : World) (hn : ls.length = n) (h : LaysAt w gs n cap (mkLays k ls)) (hm : k + cntLays ls = m) (hm2 : m ≤ 4194304) (hsz : laySum (ls.map LayA.p) ≤ 1048576) :
    Calls Try.prog 182 #[.slice gs n cap, .int .i64 k] w fun e w' => e = .returned (.int .i64 (m : Int)) ∧ w = w' := by
  have hnm : n ≤ 1398101 := by simp only [cntLays] at hm; omega
  have H := Lib.hid h
  have HN := Lib.hid hn
  have HM := Lib.hid hm
  have HM2 := Lib.hid hm2
  have HSZ := Lib.hid hsz
  clear h hn hm hm2 hsz
  go_enter Try.func182, Try.ntmps182
  go_wp2
  go_loopw [1, 5] (fun kv iv wr => HeldLRel n k ls w kv iv wr) (fun _ iv _ => n - (intOf iv).toNat)
  case atStart => exact ⟨0, Nat.zero_le _, rfl, by simp [cntLays, laySum], rfl⟩
  case round =>
    obtain ⟨j, hj, rfl, rfl, rfl⟩ := hrel
    obtain ⟨kk, hkk⟩ : ∃ kk, k + cntLays (ls.take j) = kk := ⟨_, rfl⟩
    have HKK := Lib.hid hkk
    rw [hkk]
    by_cases hlt : j < n
    · have hjl : j < ls.length := by rw [HN.out]; exact hlt
      obtain ⟨x, hx⟩ : ∃ x, ls[j]? = some x := ⟨_, List.getElem?_eq_getElem hjl⟩
      have hg := mkLays_get (k := k) hx
      rw [hkk] at hg
      obtain ⟨b, off, e1, e2, e3, ws, bs, a0, c0, a1, c1, rfl, hbk, hx', q0, q1, q2, q3, q4, f0, f1⟩ := H.out.one hlt
      rw [hg] at hx'
      obtain ⟨⟨x1, x2, x3, ws', bs'⟩, a0', c0', a1', c1'⟩ := x
      simp only [mkLay, Option.some.injEq, LayA.mk.injEq, LayP.mk.injEq] at hx'
      obtain ⟨⟨rfl, rfl, rfl, rfl, rfl⟩, rfl, rfl, rfl, rfl⟩ := hx'
      have hct := cntLays_take hx
      dsimp only at hct
      have hcl := cntLays_le ls (j + 1)
      have hsl : ws'.length + bs'.length ≤ 1048576 := by
        have h1 := laySum_take hx
        have h2 := laySum_le (ls := ls) (j + 1)
        have := HSZ.out
        dsimp only at h1
        omega
      obtain ⟨n1, hn1⟩ : ∃ n1, kk + 3 = n1 := ⟨_, rfl⟩
      obtain ⟨n2, hn2⟩ : ∃ n2, n1 + ws'.length = n2 := ⟨_, rfl⟩
      obtain ⟨n3, hn3⟩ : ∃ n3, n2 + bs'.length = n3 := ⟨_, rfl⟩
      have N1 := Lib.hid hn1
      have N2 := Lib.hid hn2
      have N3 := Lib.hid hn3
      have hk1 : (kk : Int) + 1 + 1 + 1 = (n1 : Int) := by omega
      have l0 : (kk : Int) ≤ 4194304 := by have := HM.out; have := HM2.out; omega
      have l1 : n1 ≤ 4194304 := by have := HM.out; have := HM2.out; omega
      have l2 : n2 ≤ 4194304 := by have := HM.out; have := HM2.out; omega
      have l3 : n3 ≤ 4194304 := by have := HM.out; have := HM2.out; omega
      have L1 := Lib.hid l1
      have L2 := Lib.hid l2
      have HS := Lib.hid hsl
      have HCT := Lib.hid hct
      have E1 := Lib.hid hk1
      have p2 : (0 : Int) ≤ (n2 : Int) := by omega
      have p3 : (0 : Int) ≤ (n3 : Int) := by omega
      rw [hn1] at f0 f1
      rw [hn2] at f1
      rw [marks_length] at f0 f1
      have HF0 := Lib.hid f0
      have HF1 := Lib.hid f1
      clear hjl hx hg hct hcl hsl hn1 hn2 hn3 hk1 l1 l2 l3 f0 f1 hkk
      rw [marks_length] at q3 q4
      go_wp2_with fail
      rw [E1.out]
      refine (c_heldFloats' a0' c0' n1 n2 ws'.length _ HF0.out N2.out L1.out (by have := HS.out; omega)).mono ?_
      rintro e w1 ⟨rfl, rfl⟩
      go_wp2_with fail
      refine (c_heldFloats' a1' c1' n2 n3 bs'.length _ HF1.out N3.out L2.out (by have := HS.out; omega)).mono ?_
      rintro e w1 ⟨rfl, rfl⟩
      go_wp2_with fail
      go_roundw
      case rel =>
        refine ⟨j + 1, by omega, by go_num, ?_, rfl⟩
        have := N1.out; have := N2.out; have := N3.out; have := HKK.out; have := HCT.out
        congr 2
        omega
      case measure => simp [intOf]; omega
    · obtain rfl : j = n := by omega
      have hfin : (kk : Int) = (m : Int) := by
        have h1 := HKK.out; have h2 := HM.out
        rw [← HN.out, List.take_length] at h1
        omega
      clear hkk
      go_wp2_with fail
      go_ret
      exact ⟨ret_i hfin, rfl⟩
theorem c_markMod (gs : Option Addr) (cap n k m B : Nat) (ls : List LayA) (w : World) (hn : ls.length = n) (ho : OwnL w B [.sl 113 5 n gs cap (laysC ls)]) (hnd : (blL [.sl 113 5 n gs cap (laysC ls)]).Nodup)
    (hm : k + cntLays ls = m) (hm2 : m ≤ 4194304) (hsz : laySum (ls.map LayA.p) ≤ 1048576) :
    Calls Try.prog 139 #[.agg #[.slice gs n cap], .int .i64 k] w fun e w' => e = .returned (.int .i64 (m : Int)) ∧ OwnL w' B [.sl 113 5 n gs cap (laysC (mkLays k ls))] ∧ GrownIn w w' (blL [.sl 113 5 n gs cap (laysC ls)]) := by
  have HO := Lib.hid ho
  have HD : Hid ((layBl gs ls).Nodup) := Lib.hid (by simpa [blL, Cl.bl, layBl] using hnd)
  have hbl : blL [Cl.sl 113 5 n gs cap (laysC ls)] = layBl gs ls := by simp [blL, Cl.bl, layBl]
  rw [hbl]
  have HN := Lib.hid hn
  have HM := Lib.hid hm
  have HM2 := Lib.hid hm2
  have HSZ := Lib.hid hsz
  clear ho hnd hn hm hm2 hsz hbl
  go_enter Try.func139, Try.ntmps139
  go_wp2_with fail
  have bal := (Below.refl w.heap.size w).alloc (Nat.le_refl _) (.cells #[.slice gs n cap] 46)
  have HA := Lib.hid (OwnL.kept HO.out bal)
  have GA := Lib.hid (GrownIn.of_below bal (layBl gs ls))
  clear bal
  refine (c_markLays gs cap n k m B ls _ HN.out HA.out.1.1 HA.out.1.2 HD.out HM.out HM2.out HSZ.out).mono ?_
  rintro e w1 ⟨rfl, h1, h2, h3⟩
  have H1 := Lib.hid h1
  have H2 := Lib.hid h2
  have H3 := Lib.hid (GA.out.trans h3)
  clear h1 h2 h3
  go_wp2_with fail
  go_ret
  exact ⟨rfl, by simp only [OwnL, Cl.Own, and_true]; exact ⟨H1.out, H2.out⟩, H3.out⟩
theorem c_heldMod (gs : Option Addr) (cap n k m : Nat) (ls : List LayA) (w : World) (hn : ls.length = n) (h : LaysAt w gs n cap (mkLays k ls)) (hm : k + cntLays ls = m) (hm2 : m ≤ 4194304) (hsz : laySum (ls.map LayA.p) ≤ 1048576) :
    Calls Try.prog 142 #[.agg #[.slice gs n cap], .int .i64 k] w fun e w' => e = .returned (.int .i64 (m : Int)) ∧ Below w.heap.size w w' := by
  have H := Lib.hid h
  have HN := Lib.hid hn
  have HM := Lib.hid hm
  have HM2 := Lib.hid hm2
  have HSZ := Lib.hid hsz
  have p : (0 : Int) ≤ (m : Int) := by omega
  clear h hn hm hm2 hsz
  go_enter Try.func142, Try.ntmps142
  go_wp2_with fail
  have bal := (Below.refl w.heap.size w).alloc (Nat.le_refl _) (.cells #[.slice gs n cap] 46)
  refine (c_heldLays gs cap n k m ls _ HN.out (H.out.kept bal) HM.out HM2.out HSZ.out).mono ?_
  rintro e w1 ⟨rfl, rfl⟩
  go_wp2_with fail
  go_ret
  exact ⟨rfl, bal⟩
/-! models that functions return -/
/-- a model and ok -/
def RetM (b : Bool) (zs : List LayP) (w : World) (e : Ending) (w' : World) : Prop :=
  ∃ gs cap ys, e = .returned (.tuple #[.agg #[.slice gs (List.length ys) cap], .bool b]) ∧ OwnL w' w.heap.size [.sl 113 5 ys.length gs cap (laysC ys)] ∧ (blL [.sl 113 5 ys.length gs cap (laysC ys)]).Nodup ∧ ys.map (fun x => x.p.can) = zs ∧ Below w.heap.size w w'
theorem laySum_can (ys : List LayA) : laySum (ys.map fun x => x.p.can) = laySum (ys.map LayA.p) := by
  unfold laySum
  rw [List.map_map, List.map_map]
  congr 1
  refine List.map_congr_left fun x _ => ?_
  simp [LayP.n, LayP.can]
theorem retM_bound {ys : List LayA} {zs : List LayP} (h : ys.map (fun x => x.p.can) = zs) (hz : 3 * zs.length + laySum zs ≤ 1048576) : cntLays ys ≤ 1048576 ∧ laySum (ys.map LayA.p) ≤ 1048576 := by
  subst h
  rw [laySum_can, List.length_map] at hz
  unfold cntLays
  omega
theorem held_mod {w : World} {B : Nat} {gs : Option Addr} {cap k n : Nat} {ys : List LayA} (hl : ys.length = n) (h : OwnL w B [.sl 113 5 n gs cap (laysC (mkLays k ys))]) : LaysAt w gs n cap (mkLays k ys) :=
  laysAt_own (by rw [mkLays_length]; exact hl) h
theorem c_eqMod' (g g' : Option Addr) (cap cap' : Nat) (ls ls' : List LayA) (w : World) (h : LaysAt w g ls.length cap ls) (h' : LaysAt w g' ls'.length cap' ls') (hp : ls.map (fun x => x.p.can) = ls'.map (fun x => x.p.can)) :
    Calls Try.prog 91 #[.agg #[.slice g ls.length cap], .agg #[.slice g' ls'.length cap']] w fun e w' => e = .returned (.bool true) ∧ Below w.heap.size w w' := by
  have hl : ls'.length = ls.length := by simpa using (congrArg List.length hp).symm
  rw [hl] at h' ⊢
  exact c_eqMod g g' cap cap' ls.length ls ls' w h h' hp
/-! lists of floats, in these words -/
theorem c_markFl (a : Option Addr) (cap B k m : Nat) (ys : List Nat) (w : World) (h : OwnL w B [flC a cap ys]) (hm : k + ys.length = m) (hk : k ≤ 4194304) (hl : ys.length ≤ 1048576) :
    Calls Try.prog 110 #[.slice a ys.length cap, .int .i64 k] w fun e w' => e = .returned (.int .i64 (m : Int)) ∧ OwnL w' B [flC a cap (marks k ys.length)] ∧ GrownIn w w' (blL [flC a cap ys]) :=
  (c_markFloats' a cap B k m ys w (flL_own.1 h) hm hk hl).mono fun e w' ⟨he, ho, hg⟩ => ⟨he, flL_own.2 ho, by rw [show blL [flC a cap ys] = (blk a).toList by simp [blL, flC_bl]]; exact GrownIn.of_grown hg⟩
theorem held_fl {w : World} {B : Nat} {a : Option Addr} {cap k n : Nat} (h : OwnL w B [flC a cap (marks k n)]) : IsFloats .f32 w a n cap (marks k n) := (flL_own.1 h).held
end Go.Proofs.Ytaipegkkpkagnaa
