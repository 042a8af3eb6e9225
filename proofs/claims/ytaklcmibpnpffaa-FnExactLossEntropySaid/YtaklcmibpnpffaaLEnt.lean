/-
  The loss of shares: the same for the program and for its model. Conditions: the numbers can be read.
-/
import Derived.Test.YtaklcmibpnpffaaSoft
import Derived.Test.YtaklcmibpnpffaaLog
import Derived.Test.YtaklcmibpnpffaaGof
import Derived.OwnWalk
namespace Go.Proofs.Ytaklcmibpnpffaa
open Go.RowKit Go.Deep Go.WideShapes Go.ChangeShapes
set_option linter.unusedVariables false

def okLab (n : Nat) (l : Int) : Bool := decide (n ≤ 8) && (decide (0 ≤ l) && decide (l < (n : Int)))
theorem okLab_yes {n : Nat} {l : Int} (h : okLab n l = true) : ∃ k : Nat, l = (k : Int) ∧ k < n ∧ n ≤ 8 := by
  simp only [okLab, Bool.and_eq_true, decide_eq_true_eq] at h
  exact ⟨l.toNat, by omega, by omega, by omega⟩
theorem okLab_no {n : Nat} {l : Int} (h : okLab n l = false) : 9 ≤ n ∨ l < 0 ∨ (n : Int) ≤ l := by
  by_cases h1 : n ≤ 8
  · by_cases h2 : 0 ≤ l
    · by_cases h3 : l < (n : Int)
      · have : okLab n l = true := by simp only [okLab, Bool.and_eq_true, decide_eq_true_eq]; omega
        rw [this] at h; cases h
      · exact .inr (.inr (by omega))
    · exact .inr (.inl (by omega))
  · exact .inl (by omega)
def cLog32 (x : Nat) : Nat := cnarrow (clog (cwide x))
def vEnt (z : List Nat) (k : Nat) : Nat × Bool × List Nat :=
  (cop .sub .f32 (cLog32 (cSigma z)) (cop .sub .f32 (canon .f32 (z.getD k 0)) (canon .f32 (gmax z))), true, (z.map (cShare z)).set k (cop .sub .f32 (cShare z (z.getD k 0)) 1065353216))
def vLossEntropy (z : List Nat) (l : Int) : Nat × Bool × List Nat := if okLab z.length l = true then vEnt z l.toNat else (0, false, [])
theorem vLossEntropy_len (z : List Nat) (l : Int) : (vLossEntropy z l).2.2.length ≤ 1048576 := by
  unfold vLossEntropy
  split
  · rename_i h
    obtain ⟨k, _, _, h8⟩ := okLab_yes h
    simp [vEnt]; omega
  · simp
theorem vLossEntropy_no {z : List Nat} {l : Int} (h : okLab z.length l = false) : vLossEntropy z l = (0, false, []) := by unfold vLossEntropy; rw [if_neg (by rw [h]; decide)]
theorem vLossEntropy_yes {z : List Nat} {k : Nat} (h : okLab z.length (k : Int) = true) : vLossEntropy z (k : Int) = vEnt z k := by unfold vLossEntropy; rw [if_pos h]; rfl
theorem canon_one32 : canon .f32 1065353216 = 1065353216 := by decide +kernel
theorem set_map {ys : List Nat} {z : List Nat} {k v : Nat} (h : ys.map (canon .f32) = z.map (cShare z)) (hv : canon .f32 v = cop .sub .f32 (cShare z (z.getD k 0)) 1065353216) : (ys.set k v).map (canon .f32) = (z.map (cShare z)).set k (cop .sub .f32 (cShare z (z.getD k 0)) 1065353216) := by
  rw [List.map_set, h, hv]
theorem share_at {ys : List Nat} {z : List Nat} {k : Nat} (h : ys.map (canon .f32) = z.map (cShare z)) (hk : k < z.length) : canon .f32 (ys.getD k 0) = cShare z (z.getD k 0) := by
  have hl : ys.length = z.length := by have := congrArg List.length h; simpa using this
  have h2 := congrArg (fun l => l[k]?) h
  simp only [List.getElem?_map] at h2
  rw [List.getElem?_eq_getElem (show k < ys.length by omega), List.getElem?_eq_getElem hk, Option.map_some, Option.map_some, Option.some.injEq] at h2
  simpa [List.getD, hk, show k < ys.length by omega] using h2
set_option maxRecDepth 20000 in
set_option maxHeartbeats 4000000 in
theorem t_iLossEntropy (z : List Nat) (l : Int) (a : Option Addr) (w : World) (h : IsFloats .f32 w a z.length z.length z) :
    Calls Try.prog 37 #[.slice a z.length z.length, .int .i64 l] w (RetQ (vLossEntropy z l).1 (vLossEntropy z l).2.1 (vLossEntropy z l).2.2 w) := by
  have hm1 : z.length ≤ 9223372036854775807 := by have := h.2.1; unfold maxLen at this; exact this
  have HF := Lib.hid h
  cases hok : okLab z.length l with
  | false =>
    have HX := Lib.hid (vLossEntropy_no hok)
    rw [HX.out]
    have hno := okLab_no hok
    clear hok h HX
    by_cases c1 : 9 ≤ z.length
    · have c1' : (9 : Int) ≤ (z.length : Int) := by omega
      clear hno c1
      go_enter Try.func37, Try.ntmps37
      go_wp2_with fail
      refine bodyPost_ret (v := .tuple #[.float .f32 0, .slice none 0 0, .bool false]) (by simp [results, Try.results37]) rfl ?_
      exact ⟨0, none, 0, [], by decide +kernel, rfl, nil_own _ _, rfl, Below.refl _ _⟩
    · have c1' : (z.length : Int) ≤ 8 := by omega
      by_cases c2 : l < 0
      · clear hno c1
        go_enter Try.func37, Try.ntmps37
        go_wp2_with fail
        refine bodyPost_ret (v := .tuple #[.float .f32 0, .slice none 0 0, .bool false]) (by simp [results, Try.results37]) rfl ?_
        exact ⟨0, none, 0, [], by decide +kernel, rfl, nil_own _ _, rfl, Below.refl _ _⟩
      · have c2' : 0 ≤ l := by omega
        have c3 : (z.length : Int) ≤ l := by omega
        clear hno c1 c2
        go_enter Try.func37, Try.ntmps37
        go_wp2_with fail
        refine bodyPost_ret (v := .tuple #[.float .f32 0, .slice none 0 0, .bool false]) (by simp [results, Try.results37]) rfl ?_
        exact ⟨0, none, 0, [], by decide +kernel, rfl, nil_own _ _, rfl, Below.refl _ _⟩
  | true =>
    obtain ⟨k, rfl, hk, h8⟩ := okLab_yes hok
    have HX := Lib.hid (vLossEntropy_yes hok)
    rw [HX.out]
    rcases h.2.2.2.2 with h0 | ⟨b, off, rfl, hb, hc⟩
    · omega
    have HC := Lib.hid (hc k hk)
    have HBK := Lib.hid hb
    have c0 : (0 : Int) ≤ (k : Int) := by omega
    have c1 : (z.length : Int) ≤ 8 := by omega
    have c2 : (k : Int) < (z.length : Int) := by omega
    clear hok HX hc h hb
    go_enter Try.func37, Try.ntmps37
    go_wp2_with fail
    refine (c_softmaxOf _ _ z _ HF.out (by omega) (by omega)).mono ?_
    rintro e w1 ⟨a1, cp1, ys, s, rfl, ho, he, hs, hsl, hb⟩
    have hyl : ys.length = z.length := by have := congrArg List.length he; simpa using this
    have HYL := Lib.hid hyl
    have HE := Lib.hid he
    have HO := Lib.hid ho
    have HS := Lib.hid hs
    have HB := Lib.hid hb
    have c3 : (k : Int) < (ys.length : Int) := by omega
    obtain ⟨g, rfl, hg, hg2⟩ := own_some ho (by omega)
    obtain ⟨k0, k1⟩ := own_cell (k := k) ho (by omega)
    have k2 := (hb.cell (p := ⟨b, off + k, none⟩) HBK.out).trans HC.out
    have hne : b ≠ g := by have := HBK.out; omega
    have hne2 := Ne.symm hne
    have HY := Lib.hid (share_at he hk)
    obtain ⟨y, hy⟩ : ∃ y, ys.getD k 0 = y := ⟨_, rfl⟩
    rw [hy] at k0 HY
    obtain ⟨x, hx⟩ : ∃ x, z.getD k 0 = x := ⟨_, rfl⟩
    rw [hx] at k2
    have HZ := Lib.hid hx
    obtain ⟨gm, hgm⟩ : ∃ gm, gmax z = gm := ⟨_, rfl⟩
    have HGM := Lib.hid hgm
    rw [hgm]
    clear ho he hs hsl hb hyl hy hx hgm
    go_wp2_with fail
    have HV := Lib.hid (show ∀ w2, canon .f32 (fval .sub .f32 y 1065353216 w2) = cop .sub .f32 (cShare z (z.getD k 0)) 1065353216 from fun w2 => by rw [canon_fval, HY.out, canon_one32])
    have O2 := Lib.hid (own_set (k := k) (v := fval .sub .f32 y 1065353216 w1) (HO.out.drewN (fdr .sub .f32 y 1065353216)) (by have := HYL.out; omega) (fval_lt .sub .f32 _ _ _))
    have B2 := Lib.hid ((below_drewN HB.out (fdr .sub .f32 y 1065353216)).setCell (p := ⟨g, k, none⟩) hg (.float .f32 (fval .sub .f32 y 1065353216 w1)))
    have E2 := Lib.hid (set_map HE.out (HV.out w1))
    have L2 := Lib.hid (show (ys.set k (fval .sub .f32 y 1065353216 w1)).length = ys.length from List.length_set)
    obtain ⟨v, hv⟩ : ∃ v, fval .sub .f32 y 1065353216 w1 = v := ⟨_, rfl⟩
    rw [hv] at O2 B2 E2 L2 ⊢
    have k3 := (B2.out.cell (p := ⟨b, off + k, none⟩) HBK.out).trans HC.out
    rw [HZ.out] at k3
    generalize (w1.drewN (fdr .sub .f32 y 1065353216)).setCell ⟨g, k, none⟩ (.float .f32 v) = w2 at O2 B2 k3 ⊢
    clear hv k0 k1 k2 HV HB HO
    go_region_with (go_at_call 82; refine (c_iLogNumber _ _).mono ?_; rintro e wz ⟨r, m, hr, hrl, rfl, rfl⟩; have HR := Lib.hid hr; clear hr hrl)
    all_goals go_wp2_with fail
    all_goals go_ret3
    all_goals refine ⟨_, some ⟨g, 0, none⟩, cp1, ys.set k v, ?_, by rw [L2.out]; rfl, O2.out.drewN _, E2.out, below_drewN B2.out _⟩
    all_goals (rw [canon_fval, canon_fval, HR.out, HS.out]; unfold vEnt; rw [HZ.out, HGM.out]; rfl)
end Go.Proofs.Ytaklcmibpnpffaa
