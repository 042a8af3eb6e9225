/-
  Lists of lists of floats in the words of the generator of laws. Conditions: the cells can be read.
-/
import Derived.Test.YtaipegkkpkagnaaSSz
namespace Go.Proofs.Ytaipegkkpkagnaa
open Go.RowKit Go.Deep Go.WideShapes Go.ChangeShapes
set_option linter.unusedVariables false

theorem ssAt_owns {w : World} {B : Nat} {t : TypeId} {g : Option Addr} {n c : Nat} {ls : List FlA} (hl : ls.length = n) (h : OwnL w B [.sl t 1 n g c (ssC ls)]) : SSAt w g n c ls := by
  subst hl
  exact ssAt_own h
theorem ss_can_of {xs ys : List FlA} (h : xs.map FlA.z = ys.map FlA.z) : xs.map (fun x => x.z.map (canon .f32)) = ys.map (fun x => x.z.map (canon .f32)) := by
  have h1 : (xs.map FlA.z).map (List.map (canon .f32)) = (ys.map FlA.z).map (List.map (canon .f32)) := by rw [h]
  simpa [List.map_map, Function.comp_def] using h1
def cntZZ (zs : List (List Nat)) : Nat := (zs.map List.length).sum
theorem cntSS_z (ls : List FlA) : cntSS ls = cntZZ (ls.map FlA.z) := by simp [cntSS, cntZZ, List.map_map, Function.comp_def]
theorem cnt_ss_copy {y : List FlA} {ps : List FlA} (hp : y.map FlA.z = ps.map FlA.z) : cntSS y = cntSS ps := by rw [cntSS_z, cntSS_z, hp]
theorem len_ss_copy {y : List FlA} {ps : List FlA} (hp : y.map FlA.z = ps.map FlA.z) : y.length = ps.length := by simpa using congrArg List.length hp
theorem c_szSS_b (g : Option Addr) (cap n l r : Nat) (ls : List FlA) (w : World) (h : SSAt w g n cap ls) (hl : l ≤ 1048576) (hs : n + cntSS ls ≤ l) (hr : l - (n + cntSS ls) = r) :
    Calls Try.prog 124 #[.slice g n cap, .int .i64 l] w fun e w' => e = .returned (.int .i64 (r : Int)) ∧ Below w.heap.size w w' :=
  (c_szSS g cap n l r ls w h hl hs hr).mono fun e w' ⟨h1, h2⟩ => ⟨h1, by rw [← h2]; exact Below.refl _ _⟩
theorem c_szSS_b_no (g : Option Addr) (cap n l : Nat) (ls : List FlA) (w : World) (h : SSAt w g n cap ls) (hl : l ≤ 1048576) (hs : l < n + cntSS ls) :
    Calls Try.prog 124 #[.slice g n cap, .int .i64 l] w fun e w' => e = .returned (.int .i64 (-1)) ∧ Below w.heap.size w w' :=
  (c_szSS_no g cap n l ls w h hl hs).mono fun e w' ⟨h1, h2⟩ => ⟨h1, by rw [← h2]; exact Below.refl _ _⟩
theorem ssAt_at {w : World} {t : TypeId} {g : Option Addr} {c : Nat} {ls : List FlA} (h : AtL w [.sl t 1 ls.length g c (ssC ls)]) : SSAt w g ls.length c ls := by
  have h1 := h.1
  simp only [Cl.At, ssC_at, Nat.mul_one, vs_ssC] at h1
  obtain ⟨⟨h2, h3, _, h5⟩, h6⟩ := h1
  refine ⟨rfl, h2, h3, h6, ?_⟩
  rcases h5 with h0 | ⟨b, off, e, hlt, hc⟩
  · exact .inl h0
  · refine .inr ⟨b, off, e, hlt, fun i x hx => ?_⟩
    rw [hc i (List.getElem?_eq_some_iff.1 hx).1]
    simp [hx]
theorem typed_sss {c : Cl} (h : c.typed (.sl 25 1 [.sl 22 1 [.f32]])) : ∃ g cap rs, c = .sl 25 1 (List.length rs) g cap (ssC rs) := by
  rw [Cl.typed.eq_4] at h
  obtain ⟨g, cap, ls, rfl, hl⟩ := h
  obtain ⟨rs, e1, e2⟩ := typed_list (fun y : FlA => [y.cl]) (es := [.sl 22 1 [.f32]]) (fun l h => by
    simp only [typedL] at h
    obtain ⟨c, cs, rfl, h, rfl⟩ := h
    obtain ⟨a, cap, ys, rfl⟩ := typed_f32s h
    exact ⟨⟨ys, a, cap⟩, rfl⟩) ls hl
  have hm : ∀ ys : List FlA, ys.flatMap (fun y => [y.cl]) = ssC ys := fun ys => by
    induction ys with
    | nil => rfl
    | cons y ys ih => rw [List.flatMap_cons, ih]; rfl
  exact ⟨g, cap, rs, by rw [e1, hm, ← e2]⟩
set_option maxRecDepth 100000 in
open Go.ChangeShapes Go.WideShapes Go.Deep in
theorem open_SS {H : Type} {enc : TypeId × Value → H} {W : World} {base b0 : Nat} {re : Reach} {held : Bool} {v : Value} {d : DataW H} {p : List MemPlace}
    (hv : Value.okWide Try.prog W re b0 33 v) (h : DataW.Trod enc Try.prog W base (fun _ => true) held 33 v d p) :
    ∃ (g : Option Addr) (c : Nat) (ls : List FlA), v = .slice g ls.length c ∧ SSAt W g ls.length c ls := by
  obtain ⟨a, len, cap, rfl⟩ := okWide_slice Try.underlying33 hv
  obtain ⟨fuel, hf⟩ := h
  obtain ⟨l, e, ha, ht⟩ := opened 4 _ _ _ _ _ (show tyOf Try.prog 4 33 = some [.sl 25 1 [.sl 22 1 [.f32]]] by kernel_rfl) hf
  simp only [typedL] at ht
  obtain ⟨c0, l0, rfl, h0, rfl⟩ := ht
  obtain ⟨g, cap', rs, rfl⟩ := typed_sss h0
  simp only [Value.cells, vs, List.map_cons, List.map_nil, Cl.v, List.cons.injEq, Value.slice.injEq, and_true] at e
  obtain ⟨rfl, rfl, rfl⟩ := e
  exact ⟨_, _, rs, rfl, ssAt_at ha⟩
set_option maxRecDepth 20000 in
set_option maxHeartbeats 4000000 in
theorem c_markSS4 (gs : Option Addr) (cap n k m B : Nat) (ls : List FlA) (w : World) (hn : ls.length = n) (ho : OwnL w B [.sl 25 1 n gs cap (ssC ls)]) (hnd : (blL [.sl 25 1 n gs cap (ssC ls)]).Nodup)
    (hm : k + cntSS ls = m) (hm2 : m ≤ 4194304) (hsz : cntSS ls ≤ 1048576) (hnm : n ≤ 1048576) :
    Calls Try.prog 140 #[.slice gs n cap, .int .i64 k] w fun e w' => e = .returned (.int .i64 (m : Int)) ∧ OwnL w' B [.sl 25 1 n gs cap (ssC (mkSS k ls))] ∧ GrownIn w w' (blL [.sl 25 1 n gs cap (ssC ls)]) := by
  have hrow := ho.1.1
  have hown := ho.1.2
  rw [vs_ssC] at hrow
  simp only [blL, Cl.bl, List.append_nil] at hnd ⊢
  have HN := Lib.hid hn
  have HR := Lib.hid hrow
  have HO := Lib.hid hown
  have HD := Lib.hid hnd
  have HM := Lib.hid hm
  have HM2 := Lib.hid hm2
  have HSZ := Lib.hid hsz
  clear hn hrow hown hnd hm hm2 hsz ho
  go_enter Try.func140, Try.ntmps140
  go_wp2
  go_loopw [1, 5] (fun kv iv wr => MkSSRel gs cap n k B ls w kv iv wr) (fun _ iv _ => n - (intOf iv).toNat)
  case atStart => exact ⟨[], ls, rfl, rfl, by simp [cntSS], HR.out, by simp [mkSS, ssC, OwnL], HO.out, GrownIn.refl _ _⟩
  case round =>
    obtain ⟨pre, post, rfl, rfl, rfl, hrow, hpre, hpost, hg⟩ := hrel
    have HRW := Lib.hid hrow
    have HPR := Lib.hid hpre
    have HPO := Lib.hid hpost
    have HG := Lib.hid hg
    obtain ⟨j, hj⟩ : ∃ j, pre.length = j := ⟨_, rfl⟩
    have HJ := Lib.hid hj
    rw [hj]
    have hnl := HN.out
    rw [List.length_append, hj] at hnl
    have hjn : j ≤ n := by omega
    obtain ⟨kk, hkk⟩ : ∃ kk, k + cntSS pre = kk := ⟨_, rfl⟩
    have HKK := Lib.hid hkk
    rw [hkk]
    clear hrow hpre hpost hg hj
    by_cases hlt : j < n
    · cases post with
      | nil => simp at hnl; omega
      | cons x post =>
        obtain ⟨z, a, c⟩ := x
        have hcm := HM.out
        rw [cntSS_append, cntSS_cons] at hcm
        dsimp only at hcm
        have hlt' : (j : Int) < (n : Int) := by omega
        obtain ⟨g, rfl⟩ : ∃ g, gs = some ⟨g, 0, none⟩ := by
          rcases HRW.out.2 with ⟨hv, h0⟩ | ⟨g, c, cur, hv, _⟩
          · omega
          · simp only [Value.slice.injEq] at hv; exact ⟨g, hv.1⟩
        have hcell : wr.cell? ⟨g, j, none⟩ = some (.slice a z.length c) := by
          rw [HRW.out.cellAt j (by omega), List.map_append, List.getElem?_append_right (by rw [List.length_map, HJ.out]; omega), List.length_map, HJ.out, Nat.sub_self]
          rfl
        have hpo := HPO.out
        rw [ssC_own] at hpo
        have HX := Lib.hid (hpo ⟨z, a, c⟩ (List.mem_cons_self ..))
        have HPP := Lib.hid (ssC_own.2 fun y hy => hpo y (List.mem_cons_of_mem _ hy))
        have hd := HD.out
        rw [ssC_append, blL_append, blL_cl] at hd
        have HDD := Lib.hid (dis_SS hd)
        obtain ⟨kn, hkn⟩ : ∃ kn, kk + z.length = kn := ⟨_, rfl⟩
        have HKN := Lib.hid hkn
        have hk4 : kk ≤ 4194304 := by have := HM2.out; omega
        have hzl : z.length ≤ 1048576 := by
          have hq := HSZ.out
          rw [cntSS_append, cntSS_cons] at hq
          dsimp only at hq
          omega
        have HZL := Lib.hid hzl
        have HK4 := Lib.hid hk4
        have hk40 : (kk : Int) ≤ 4194304 := by omega
        have hkn0 : (kn : Int) ≤ 4194304 := by have := HM2.out; omega
        clear hpo hd hnl hcm hkn hk4 hzl
        go_wp2_with fail
        refine (c_markFloats' a c B kk kn z _ HX.out HKN.out HK4.out HZL.out).mono ?_
        rintro e w2 ⟨rfl, ho, hg⟩
        have G := Lib.hid (GrownIn.of_grown hg)
        have OX := Lib.hid ho
        have RW2 := Lib.hid (ownsRow_in HRW.out G.out (fun q h1 h2 => HDD.out.1 q h2 h1))
        have PR2 := Lib.hid (OwnL.apart G.out _ HPR.out (by rw [bl_mkSS]; exact fun q h1 h2 => HDD.out.2.1 q h2 h1))
        have PO2 := Lib.hid (OwnL.apart G.out _ HPP.out (fun q h1 h2 => HDD.out.2.2 q h2 h1))
        clear ho hg hcell
        go_wp2_with fail
        go_roundw
        case rel =>
          refine ⟨pre ++ [⟨z, a, c⟩], post, by simp, by rw [List.length_append, HJ.out]; go_num, ?_, RW2.out, ?_, PO2.out, HG.out.trans (G.out.mono ?_)⟩
          · have := HKN.out; have := HKK.out
            rw [cntSS_append, cntSS_cons]
            simp only [cntSS, List.map_nil, List.sum_nil] at *
            congr 2
            omega
          · rw [mkSS_append, HKK.out, ssC_append, OwnL_append]
            refine ⟨PR2.out, ?_⟩
            simp only [mkSS, ssC_cons, OwnL, FlA.cl, flC_own]
            exact ⟨OX.out, by simp [ssC, OwnL]⟩
          · intro q hq
            rw [ssC_append, blL_append, blL_cl]
            simp only [List.mem_append]
            exact .inr (.inl hq)
        case measure => simp [intOf]; omega
    · have hz : post = [] := List.eq_nil_of_length_eq_zero (by omega)
      subst hz
      obtain rfl : j = n := by omega
      have hfin : (kk : Int) = (m : Int) := by
        have h1 := HKK.out; have h2 := HM.out
        rw [List.append_nil] at h2
        omega
      go_wp2_with fail
      go_ret
      refine ⟨ret_i hfin, ?_, HG.out.mono fun q hq => List.mem_append_right _ hq⟩
      simp only [OwnL, Cl.Own, and_true, List.append_nil, vs_ssC, mkSS_v]
      exact ⟨by simpa using HRW.out, HPR.out⟩
set_option maxRecDepth 20000 in
set_option maxHeartbeats 1000000 in
theorem c_heldSS4 (gs : Option Addr) (cap n k m : Nat) (ls : List FlA) (w : World) (hn : ls.length = n) (h : SSAt w gs n cap (mkSS k ls)) (hm : k + cntSS ls = m) (hm2 : m ≤ 4194304) (hsz : cntSS ls ≤ 1048576) (hnm : n ≤ 1048576) :
    Calls Try.prog 143 #[.slice gs n cap, .int .i64 k] w fun e w' => e = .returned (.int .i64 (m : Int)) ∧ w = w' := by
  have H := Lib.hid h
  have HN := Lib.hid hn
  have HM := Lib.hid hm
  have HM2 := Lib.hid hm2
  have HSZ := Lib.hid hsz
  clear h hn hm hm2 hsz
  go_enter Try.func143, Try.ntmps143
  go_wp2
  go_loopw [1, 5] (fun kv iv wr => HeldSSRel n k ls w kv iv wr) (fun _ iv _ => n - (intOf iv).toNat)
  case atStart => exact ⟨0, Nat.zero_le _, rfl, by simp [cntSS], rfl⟩
  case round =>
    obtain ⟨j, hj, rfl, rfl, rfl⟩ := hrel
    obtain ⟨kk, hkk⟩ : ∃ kk, k + cntSS (ls.take j) = kk := ⟨_, rfl⟩
    have HKK := Lib.hid hkk
    rw [hkk]
    by_cases hlt : j < n
    · have hjl : j < ls.length := by rw [HN.out]; exact hlt
      obtain ⟨x, hx⟩ : ∃ x, ls[j]? = some x := ⟨_, List.getElem?_eq_getElem hjl⟩
      have hg := mkSS_get (k := k) hx
      rw [hkk] at hg
      obtain ⟨b, off, z, a, c, rfl, hbk, hx', q, f⟩ := H.out.one hlt
      rw [hg] at hx'
      obtain ⟨z', a', c'⟩ := x
      simp only [Option.some.injEq, FlA.mk.injEq] at hx'
      obtain ⟨rfl, rfl, rfl⟩ := hx'
      have hct := cntSS_take hx
      dsimp only at hct
      have hcl := cntSS_le ls (j + 1)
      rw [marks_length] at f q
      obtain ⟨kn, hkn⟩ : ∃ kn, kk + z'.length = kn := ⟨_, rfl⟩
      have HKN := Lib.hid hkn
      have HCT := Lib.hid hct
      have HF := Lib.hid f
      have hk4 : kk ≤ 4194304 := by have := HM.out; have := HM2.out; omega
      have hzl : z'.length ≤ 1048576 := by have := HSZ.out; omega
      have HK4 := Lib.hid hk4
      have HZL := Lib.hid hzl
      have hk40 : (kk : Int) ≤ 4194304 := by omega
      have hkn0 : (0 : Int) ≤ (kn : Int) := by omega
      have hlt' : (j : Int) < (n : Int) := by omega
      clear f hx hg hct hcl hkn hk4 hzl hkk hjl
      go_wp2_with fail
      refine (c_heldFloats' a' c' kk kn z'.length _ HF.out HKN.out HK4.out HZL.out).mono ?_
      rintro e w1 ⟨rfl, rfl⟩
      go_wp2_with fail
      go_roundw
      case rel => exact ⟨j + 1, by omega, by go_num, by have := HKN.out; have := HKK.out; have := HCT.out; congr 2; omega, rfl⟩
      case measure => simp [intOf]; omega
    · obtain rfl : j = n := by omega
      have hfin : (kk : Int) = (m : Int) := by
        have h1 := HKK.out; have h2 := HM.out
        rw [← HN.out, List.take_length] at h1
        omega
      go_wp2_with fail
      go_ret
      exact ⟨ret_i hfin, rfl⟩
/-! results: a list of lists and ok -/
theorem c_eqSS' (g g' : Option Addr) (cap cap' : Nat) (ls ls' : List FlA) (w : World) (h : SSAt w g ls.length cap ls) (h' : SSAt w g' ls'.length cap' ls') (hp : ls.map (fun x => x.z.map (canon .f32)) = ls'.map (fun x => x.z.map (canon .f32))) :
    Calls Try.prog 135 #[.slice g ls.length cap, .slice g' ls'.length cap'] w fun e w' => e = .returned (.bool true) ∧ Below w.heap.size w w' := by
  have hl : ls'.length = ls.length := by simpa using (congrArg List.length hp).symm
  rw [hl] at h' ⊢
  exact c_eqSS g g' cap cap' ls.length ls ls' w h h' hp
theorem held_ss {w : World} {B : Nat} {t : TypeId} {gs : Option Addr} {cap k n : Nat} {ys : List FlA} (hl : ys.length = n) (h : OwnL w B [.sl t 1 n gs cap (ssC (mkSS k ys))]) : SSAt w gs n cap (mkSS k ys) :=
  ssAt_owns (by rw [mkSS_length]; exact hl) h
theorem retSS_bound {ys : List FlA} {zs : List (List Nat)} (hy : ys.map (fun x => x.z.map (canon .f32)) = zs) (hz : zs.length + cntZZ zs ≤ 1048576) : 1 + cntSS ys ≤ 4194304 ∧ cntSS ys ≤ 1048576 ∧ ys.length ≤ 1048576 := by
  have h1 : cntSS ys = cntZZ zs := by rw [← hy]; simp [cntSS, cntZZ, List.map_map, Function.comp_def]
  have h2 : ys.length = zs.length := by rw [← hy]; simp
  omega
end Go.Proofs.Ytaipegkkpkagnaa
