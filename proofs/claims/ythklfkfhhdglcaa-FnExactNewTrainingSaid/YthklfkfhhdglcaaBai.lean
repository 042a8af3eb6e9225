/-
  BatchOf in the program: a loader with a map of orders. Conditions: none.
-/
import Derived.Test.YthklfkfhhdglcaaBat
import Derived.Maps.OwnSet
import Derived.Maps.Views
namespace Go.Proofs.Ythklfkfhhdglcaa
open Go.RowKit Go.Deep Go.WideShapes Go.ChangeShapes Go.Maps
set_option linter.unusedVariables false
attribute [local go_sem] World.drewN_zero

def RawB (v : Value) : Option (DataW Value × List MemPlace) := some (.held v, [])
theorem keyLawB : Keyed Try.prog 2 := int_keyed Try.underlying2
theorem zero_order (w : World) : (zeroValue 25).run Try.prog w = .ok (.slice none 0 0) w := by kernel_rfl
theorem tb4 {w : World} {g : Nat} {t : TypeId} {v0 v1 v2 v3 : Value} (h : Blk w g t #[v0, v1, v2, v3]) : w.cell? ⟨g, 0, none⟩ = some v0 ∧ w.cell? ⟨g, 1, none⟩ = some v1 ∧ w.cell? ⟨g, 2, none⟩ = some v2 ∧ w.cell? ⟨g, 3, none⟩ = some v3 := ⟨h.cell 0, h.cell 1, h.cell 2, h.cell 3⟩
theorem tbf4 {w : World} {g : Nat} {t : TypeId} {cs : Array Value} (h : Blk w g t cs) : w.frozen? ⟨g, 0, none⟩ = false ∧ w.frozen? ⟨g, 1, none⟩ = false ∧ w.frozen? ⟨g, 2, none⟩ = false ∧ w.frozen? ⟨g, 3, none⟩ = false := ⟨h.frozen 0, h.frozen 1, h.frozen 2, h.frozen 3⟩
theorem store4 {w : World} {g : Nat} {t : TypeId} {x0 x1 x2 x3 y0 y1 y2 y3 : Value} (h : Blk w g t #[x0, x1, x2, x3]) :
    Blk ((((w.setCell ⟨g, 0, none⟩ y0).setCell ⟨g, 1, none⟩ y1).setCell ⟨g, 2, none⟩ y2).setCell ⟨g, 3, none⟩ y3) g t #[y0, y1, y2, y3] ∧ w.grownBy ((((w.setCell ⟨g, 0, none⟩ y0).setCell ⟨g, 1, none⟩ y1).setCell ⟨g, 2, none⟩ y2).setCell ⟨g, 3, none⟩ y3) (some g) := by
  constructor
  · unfold Blk at h ⊢
    simp [World.setCell, Array.getElem?_modify, h]
  · have st : ∀ (w : World) (i : Nat) (u : Value), w.grownBy (w.setCell ⟨g, i, none⟩ u) (some g) := fun w i u =>
      ⟨rfl, rfl, rfl, by simp, fun k _ hk => Below.heap_setCell w ⟨g, i, none⟩ u k (fun e => hk (by simp [e]))⟩
    exact grown_set (grown_set (grown_set (st w 0 y0) (st _ 1 y1)) (st _ 2 y2)) (st _ 3 y3)
theorem key_at {j : Nat} (h : j ≤ 1048576) : keyOf Try.prog 2 (.int .i64 j) = some (.int .i64 j) := keyOf_int_mk Try.underlying2 (by simp [Lit.wf, IntKind.min, IntKind.max, IntKind.signed, IntKind.bits]; omega)
theorem empty_look {w : World} {M E : Nat} (h : w.ownsMap Try.prog 2 RawB M 0 (.map [])) (hE : E ≤ 1048576) : (Instr.lookup 96 (.map (some M)) (.int .i64 E) true).run Try.prog w = .ok (.tuple #[.slice none 0 0, .bool false]) w := by
  obtain ⟨v, ps, rl, hv⟩ := h.look_ok keyLawB Try.underlying96 (zero_order w) (show RawB _ = some (.held _, []) from rfl) (key := .int .i64 E) (key_at hE)
  have hv2 : v = .slice none 0 0 := by
    have e1 : ((DataW.map [] : DataW Value).atKey (.int .i64 E) (.held (.slice none 0 0))) = .held (.slice none 0 0) := rfl
    have h' : RawB v = some (.held (.slice none 0 0), ps) := hv.trans (congrArg (fun d => some (d, ps)) e1)
    simpa [RawB] using congrArg (fun x => x.map (·.1)) h'
  have e2 : Maps.has (DataW.map [] : DataW Value) (.int .i64 E) = false := rfl
  rw [e2, hv2] at rl
  exact rl
theorem c_seedOf' (s v : Int) (h1 : 0 ≤ s) (hv : s % 2147483648 = v) (w : World) : Calls Try.prog 120 #[.int .i64 s] w fun e w' => e = .returned (.int .i64 v) ∧ w = w' := by
  subst hv; exact c_seedOf s h1 w
theorem c_iNext' (s v : Int) (h : 0 ≤ s ∧ s ≤ 2147483647) (hv : nextS s = v) (w : World) : Calls Try.prog 63 #[.int .i64 s] w fun e w' => e = .returned (.int .i64 v) ∧ w = w' := by
  subst hv; exact c_iNext s h w
set_option maxRecDepth 20000 in
set_option maxHeartbeats 2000000 in
theorem c_order (n b M E : Nat) (s s2 q : Int) (h1 : 1 ≤ n) (h2 : n ≤ 16) (hE : E ≤ 1000) (hs : 0 ≤ s ∧ s ≤ 2147483647) (hs2 : (s + 7919 * (E : Int)) % 2147483648 = s2) (hq : nextS s2 = q) (w : World) (hm : w.ownsMap Try.prog 2 RawB M 0 (.map [])) :
    Calls Try.prog 122 #[.agg #[.int .i64 n, .int .i64 b, .int .i64 s, .map (some M)], .int .i64 E] w fun e w' => ∃ a c, e = .returned (.slice a n c) ∧ OwnI w' w.heap.size a c (shufR n q).1 ∧ w.grownBy w' (some M) := by
  obtain ⟨hs1, hs3⟩ := hs
  have hE0 : (0 : Int) ≤ (E : Int) := by omega
  have hp : 0 ≤ s + 7919 * (E : Int) := by omega
  have hr2 : 0 ≤ s2 ∧ s2 ≤ 2147483647 := by omega
  have HR2 := Lib.hid hr2
  have HQ := Lib.hid hq
  have HRQ := Lib.hid (show 0 ≤ q ∧ q ≤ 2147483647 by rw [← hq]; exact nextS_rng s2)
  have HS2 := Lib.hid hs2
  have hMl : M < w.heap.size := hm.lt
  have K1 := Lib.hid (Blk.new w 98 #[.int .i64 n, .int .i64 b, .int .i64 s, .map (some M)])
  have al := (Below.refl w.heap.size w).alloc (Nat.le_refl _) (.cells #[.int .i64 n, .int .i64 b, .int .i64 s, .map (some M)] 98)
  have B1 := Lib.hid al
  have HM1 := Lib.hid (hm.alloc (.cells #[.int .i64 n, .int .i64 b, .int .i64 s, .map (some M)] 98))
  have hlook := empty_look HM1.out (show E ≤ 1048576 by omega)
  have HLN := Lib.hid (shufR_length h1 q)
  have hsz : w.heap.size < (w.alloc (.cells #[.int .i64 n, .int .i64 b, .int .i64 s, .map (some M)] 98)).heap.size := by simp
  have HSZ := Lib.hid hsz
  have HML := Lib.hid hMl
  have k1 : IntKind.i64.wrap (7919 * (E : Int)) = 7919 * (E : Int) := IntWalk.i64_in _ (by omega)
  have k2 : IntKind.i64.wrap (s + 7919 * (E : Int)) = s + 7919 * (E : Int) := IntWalk.i64_in _ (by omega)
  clear hm al hq hr2 hs2 hsz hMl
  go_enter Try.func122, Try.ntmps122
  go_wp2_with fail
  generalize w.alloc (.cells #[.int .i64 n, .int .i64 b, .int .i64 s, .map (some M)] 98) = w1 at K1 B1 HM1 HSZ hlook ⊢
  obtain ⟨p0, p1, p2, p3⟩ := tb4 K1.out
  go_wp2_with fail
  clear hlook
  go_region_held3 (fun w' => w'.cell? ⟨w.heap.size, 0, none⟩ = some (.int .i64 n) ∧ w'.cell? ⟨w.heap.size, 1, none⟩ = some (.int .i64 b) ∧ w'.cell? ⟨w.heap.size, 2, none⟩ = some (.int .i64 s) ∧ w'.cell? ⟨w.heap.size, 3, none⟩ = some (.map (some M))) (go_keep)
    (first
      | (go_at_call 120
         refine (c_seedOf' _ s2 hp HS2.out _).mono ?_
         rintro e w' ⟨rfl, rfl⟩)
      | (go_at_call 63
         refine (c_iNext' s2 q HR2.out HQ.out _).mono ?_
         rintro e w' ⟨rfl, rfl⟩)
      | (go_at_call 62
         refine (c_iShuf n h1 h2 q HRQ.out _).mono ?_
         rintro e w2 ⟨a, cap, ys, rfl, ho, hy, hb⟩
         have hyl : ys.length = n := (by rw [hy]; exact HLN.out)
         rw [hyl]
         have HO := Lib.hid ho
         have HY := Lib.hid hy
         have hbw : Below w1.heap.size w1 w2 := ((Below.refl w1.heap.size w1).drew).trans hb
         have HB2 := Lib.hid hbw
         have K2 := Lib.hid (K1.out.below hbw)
         have HM2 := Lib.hid (HM1.out.kept (row := none) ⟨hbw.os, hbw.tape, hbw.output, hbw.size, fun j hj _ => hbw.block j hj⟩ (by simp))
         have HYL := Lib.hid hyl
         obtain ⟨p0, p1, p2, p3⟩ := tb4 K2.out
         clear ho hy hb hbw hyl))
  have hkey := Lib.hid (key_at (j := E) (by omega))
  go_wp2_with (at_mapUpdate; refine wpList_mapUpdate_own _ rfl _ _ _ 96 rfl 2 25 keyLawB Try.underlying96 RawB M 0 (.map []) rfl HM2.out (by decide) _ _ _ rfl rfl hkey.out _ [] rfl ?_; intro w4 hown4 hgrow4; have HG4 := Lib.hid hgrow4; clear hown4 hgrow4)
  go_ret
  have hb := HB2.out
  have hg := HG4.out
  have hyz := HY.out
  have hd : w1.drew.heap.size = w1.heap.size := rfl
  have ho : OwnI w2 w1.heap.size a cap ys := HO.out
  refine ⟨a, cap, rfl, ?_, ⟨hg.os.trans (hb.os.trans B1.out.os), hg.tape.trans (hb.tape.trans B1.out.tape), hg.output.trans (hb.output.trans B1.out.output), Nat.le_trans B1.out.size (Nat.le_trans hb.size hg.size), fun j hj hne => (hg.block j (Nat.lt_of_lt_of_le hj (Nat.le_trans B1.out.size hb.size)) hne).trans ((hb.block j (Nat.lt_of_lt_of_le hj B1.out.size)).trans (B1.out.block j hj))⟩⟩
  rw [← hyz]
  exact (ho.apart (b := some ⟨M, 0, none⟩) hg (fun k hk e => by
    have := (ho.lt k hk).1
    simp [blk] at e
    have := HML.out
    have := HSZ.out
    omega)).base B1.out.size
set_option maxRecDepth 20000 in
set_option maxHeartbeats 2000000 in
theorem c_rowsAt (n b M t : Nat) (s : Int) (h1 : 1 ≤ n) (h2 : n ≤ 16) (h3 : 1 ≤ b) (h4 : b ≤ 16) (h5 : t ≤ 1000) (hs : 0 ≤ s ∧ s ≤ 2147483647) (w : World) (hm : w.ownsMap Try.prog 2 RawB M 0 (.map [])) :
    Calls Try.prog 66 #[.agg #[.int .i64 n, .int .i64 b, .int .i64 s, .map (some M)], .int .i64 t] w fun e w' => ∃ a c, e = .returned (.slice a (batRows n b s t).length c) ∧ OwnI w' w.heap.size a c (batRows n b s t) ∧ w.grownBy w' (some M) := by
  have HSR := Lib.hid hs
  obtain ⟨hs1, hs2⟩ := hs
  have hK1 := batK_pos h1 h3
  have hK2 := batK_le h2 h3 h4
  have hKd : (((n : Int) + (b : Int) - 1) / (b : Int)) = ((batK n b : Nat) : Int) := by unfold batK; rw [Int.natCast_ediv]; congr 1; omega
  have hE : ((t : Int) / ((batK n b : Nat) : Int)) = ((t / batK n b : Nat) : Int) := (Int.natCast_ediv t (batK n b)).symm
  have hE' : ((t : Int).tdiv ((batK n b : Nat) : Int)) = ((t / batK n b : Nat) : Int) := by rw [Int.tdiv_eq_ediv_of_nonneg (by omega)]; exact hE
  have hR : ((t : Int) % ((batK n b : Nat) : Int)) = ((t % batK n b : Nat) : Int) := (Int.natCast_emod t (batK n b)).symm
  have hR' : ((t : Int).tmod ((batK n b : Nat) : Int)) = ((t % batK n b : Nat) : Int) := by rw [Int.tmod_eq_emod_of_nonneg (by omega)]; exact hR
  have hF := batFrom_lt (t := t) h1 h3
  have hE2 : t / batK n b ≤ 1000 := Nat.le_trans (Nat.div_le_self _ _) h5
  have hR2 : t % batK n b ≤ 1000 := Nat.le_trans (Nat.mod_le _ _) h5
  have HSD := Lib.hid (show (s + 7919 * ((t / batK n b : Nat) : Int)) % 2147483648 = batS n b s t from rfl)
  have HFD := Lib.hid (show ((t % batK n b : Nat) : Int) * (b : Int) = ((batFrom n b t : Nat) : Int) by unfold batFrom; rw [Int.natCast_mul])
  have HTD := Lib.hid (show min n (batFrom n b t + b) = batTo n b t from rfl)
  have HRD := Lib.hid (show ((shufR n (nextS (batS n b s t))).1.drop (batFrom n b t)).take (batTo n b t - batFrom n b t) = batRows n b s t from rfl)
  have HLN := Lib.hid (batRows_length h1 h3 s t)
  have HSL := Lib.hid (shufR_length h1 (nextS (batS n b s t)))
  have hT1 : batFrom n b t ≤ batTo n b t := by unfold batTo; omega
  have hT2 : batTo n b t ≤ n := by unfold batTo; omega
  generalize batRows n b s t = rows at *
  generalize batTo n b t = T at *
  generalize batFrom n b t = F at *
  generalize batS n b s t = s2 at *
  generalize t / batK n b = E at *
  generalize t % batK n b = R at *
  generalize batK n b = K at *
  have k1 : IntKind.i64.wrap ((R : Int) * (b : Int)) = (F : Int) := by rw [HFD.out]; exact IntWalk.i64_in _ (by omega)
  have hK0 : ¬ K = 0 := by omega
  have kE : IntKind.i64.wrap (E : Int) = (E : Int) := IntWalk.i64_in _ (by omega)
  have hTm : min ((F : Int) + (b : Int)) (n : Int) = (T : Int) := by have := HTD.out; omega
  obtain ⟨q, hq⟩ : ∃ q, nextS s2 = q := ⟨_, rfl⟩
  rw [hq] at HRD HSL
  have HQ := Lib.hid hq
  have hMl : M < w.heap.size := hm.lt
  have HML := Lib.hid hMl
  have K1 := Lib.hid (Blk.new w 98 #[.int .i64 n, .int .i64 b, .int .i64 s, .map (some M)])
  have B1 := Lib.hid ((Below.refl w.heap.size w).alloc (Nat.le_refl _) (.cells #[.int .i64 n, .int .i64 b, .int .i64 s, .map (some M)] 98))
  have HM1 := Lib.hid (hm.alloc (.cells #[.int .i64 n, .int .i64 b, .int .i64 s, .map (some M)] 98))
  have HSZ := Lib.hid (show w.heap.size < (w.alloc (.cells #[.int .i64 n, .int .i64 b, .int .i64 s, .map (some M)] 98)).heap.size by simp)
  clear hm hq hMl
  clear hTm
  by_cases hc : F + b ≤ n
  · have hle : (F : Int) + (b : Int) ≤ (n : Int) := by omega
    have hTe : (F : Int) + (b : Int) = (T : Int) := by have := HTD.out; omega
    clear hc
    go_enter Try.func66, Try.ntmps66
    go_wp2_with fail
    generalize w.alloc (.cells #[.int .i64 n, .int .i64 b, .int .i64 s, .map (some M)] 98) = w1 at K1 B1 HM1 HSZ ⊢
    obtain ⟨p0, p1, p2, p3⟩ := tb4 K1.out
    go_wp2_with fail
    go_quiet (fail)
    go_wp2_with fail
    have K1b := Lib.hid (K1.out.below (below_drewN (Below.refl _ _) nq))
    have B1b := Lib.hid (below_drewN B1.out nq)
    have HM1b := Lib.hid (show (w1.drewN nq).ownsMap Try.prog 2 RawB M 0 (.map []) from HM1.out)
    have HSZb := Lib.hid (show w.heap.size < (w1.drewN nq).heap.size from HSZ.out)
    clear p0 p1 p2 p3 K1 B1 HM1 HSZ
    generalize w1.drewN nq = w1 at K1b B1b HM1b HSZb ⊢
    obtain ⟨p0, p1, p2, p3⟩ := tb4 K1b.out
    go_region_held3 (fun w' => w'.cell? ⟨w.heap.size, 0, none⟩ = some (.int .i64 n) ∧ w'.cell? ⟨w.heap.size, 1, none⟩ = some (.int .i64 b) ∧ w'.cell? ⟨w.heap.size, 2, none⟩ = some (.int .i64 s) ∧ w'.cell? ⟨w.heap.size, 3, none⟩ = some (.map (some M))) (go_keep)
      (first
        | (go_at_call 122
           refine (c_order n b M E s s2 q h1 h2 hE2 HSR.out HSD.out HQ.out _ HM1b.out.drew).mono ?_
           rintro e w2 ⟨a, cap, rfl, ho, hg⟩
           obtain ⟨ga, hga, hg1, hg2⟩ := ownI_some ho (by rw [HSL.out]; omega)
           subst hga
           have hgw : w1.grownBy w2 (some M) := ⟨hg.os, hg.tape, hg.output, hg.size, hg.block⟩
           have HG2 := Lib.hid hgw
           have K2 := Lib.hid (K1b.out.off hgw (by have := HML.out; omega))
           have hcp := ho.cap_ok.1
           rw [HSL.out] at hcp
           have hc1 : (T : Int) ≤ (cap : Int) := by omega
           have hc2 : ¬ cap = F := by omega
           have hpr := part_row ho hT1 (by rw [HSL.out]; exact hT2)
           rw [HRD.out] at hpr
           have HP := Lib.hid hpr
           obtain ⟨p0, p1, p2, p3⟩ := tb4 K2.out
           clear ho hg hgw hpr)
        | (go_at_call 121
           refine (c_cloneInts _ _ _ _ rows _ HP.out (by omega)).mono ?_
           rintro e w3 ⟨a3, c3, rfl, ho, hb⟩
           have HO3 := Lib.hid ho
           have HB3 := Lib.hid hb
           have K3 := Lib.hid (K2.out.below hb)
           obtain ⟨p0, p1, p2, p3⟩ := tb4 K3.out
           clear ho hb))
    go_wp2_with fail
    go_ret
    have hg := HG2.out
    have hb := HB3.out
    have hs1 : w.heap.size ≤ w2.heap.size := Nat.le_trans B1b.out.size hg.size
    exact ⟨a3, c3, rfl, HO3.out.base hs1, ⟨hb.os.trans (hg.os.trans B1b.out.os), hb.tape.trans (hg.tape.trans B1b.out.tape), hb.output.trans (hg.output.trans B1b.out.output), Nat.le_trans hs1 hb.size, fun j hj hne => (hb.block j (Nat.lt_of_lt_of_le hj hs1)).trans ((hg.block j (Nat.lt_of_lt_of_le hj B1b.out.size) hne).trans (B1b.out.block j hj))⟩⟩
  · have hle : (n : Int) < (F : Int) + (b : Int) := by omega
    obtain rfl : n = T := by have := HTD.out; omega
    clear hc
    go_enter Try.func66, Try.ntmps66
    go_wp2_with fail
    generalize w.alloc (.cells #[.int .i64 n, .int .i64 b, .int .i64 s, .map (some M)] 98) = w1 at K1 B1 HM1 HSZ ⊢
    obtain ⟨p0, p1, p2, p3⟩ := tb4 K1.out
    go_wp2_with fail
    go_quiet (fail)
    go_wp2_with fail
    have K1b := Lib.hid (K1.out.below (below_drewN (Below.refl _ _) nq))
    have B1b := Lib.hid (below_drewN B1.out nq)
    have HM1b := Lib.hid (show (w1.drewN nq).ownsMap Try.prog 2 RawB M 0 (.map []) from HM1.out)
    have HSZb := Lib.hid (show w.heap.size < (w1.drewN nq).heap.size from HSZ.out)
    clear p0 p1 p2 p3 K1 B1 HM1 HSZ
    generalize w1.drewN nq = w1 at K1b B1b HM1b HSZb ⊢
    obtain ⟨p0, p1, p2, p3⟩ := tb4 K1b.out
    go_region_held3 (fun w' => w'.cell? ⟨w.heap.size, 0, none⟩ = some (.int .i64 n) ∧ w'.cell? ⟨w.heap.size, 1, none⟩ = some (.int .i64 b) ∧ w'.cell? ⟨w.heap.size, 2, none⟩ = some (.int .i64 s) ∧ w'.cell? ⟨w.heap.size, 3, none⟩ = some (.map (some M))) (go_keep)
      (first
        | (go_at_call 122
           refine (c_order n b M E s s2 q h1 h2 hE2 HSR.out HSD.out HQ.out _ HM1b.out.drew).mono ?_
           rintro e w2 ⟨a, cap, rfl, ho, hg⟩
           obtain ⟨ga, hga, hg1, hg2⟩ := ownI_some ho (by rw [HSL.out]; omega)
           subst hga
           have hgw : w1.grownBy w2 (some M) := ⟨hg.os, hg.tape, hg.output, hg.size, hg.block⟩
           have HG2 := Lib.hid hgw
           have K2 := Lib.hid (K1b.out.off hgw (by have := HML.out; omega))
           have hcp := ho.cap_ok.1
           rw [HSL.out] at hcp
           have hc1 : (n : Int) ≤ (cap : Int) := by omega
           have hc2 : ¬ cap = F := by omega
           have hpr := part_row ho hT1 (by rw [HSL.out]; exact hT2)
           rw [HRD.out] at hpr
           have HP := Lib.hid hpr
           obtain ⟨p0, p1, p2, p3⟩ := tb4 K2.out
           clear ho hg hgw hpr)
        | (go_at_call 121
           refine (c_cloneInts _ _ _ _ rows _ HP.out (by omega)).mono ?_
           rintro e w3 ⟨a3, c3, rfl, ho, hb⟩
           have HO3 := Lib.hid ho
           have HB3 := Lib.hid hb
           have K3 := Lib.hid (K2.out.below hb)
           obtain ⟨p0, p1, p2, p3⟩ := tb4 K3.out
           clear ho hb))
    go_wp2_with fail
    go_ret
    have hg := HG2.out
    have hb := HB3.out
    have hs1 : w.heap.size ≤ w2.heap.size := Nat.le_trans B1b.out.size hg.size
    exact ⟨a3, c3, rfl, HO3.out.base hs1, ⟨hb.os.trans (hg.os.trans B1b.out.os), hb.tape.trans (hg.tape.trans B1b.out.tape), hb.output.trans (hg.output.trans B1b.out.output), Nat.le_trans hs1 hb.size, fun j hj hne => (hb.block j (Nat.lt_of_lt_of_le hj hs1)).trans ((hg.block j (Nat.lt_of_lt_of_le hj B1b.out.size) hne).trans (B1b.out.block j hj))⟩⟩
def okLoad (n b s : Int) : Bool := isSideV n && isSideV b && isSeedV s
set_option maxRecDepth 20000 in
set_option maxHeartbeats 1000000 in
theorem c_loaderOf (n b s : Int) (h1 : isSideV n = true) (h2 : isSideV b = true) (h3 : isSeedV s = true) (w : World) :
    Calls Try.prog 64 #[.int .i64 n, .int .i64 b, .int .i64 s] w fun e w' => ∃ M, w.heap.size ≤ M ∧ e = .returned (.tuple #[.agg #[.int .i64 n, .int .i64 b, .int .i64 s, .map (some M)], .bool true]) ∧ w'.ownsMap Try.prog 2 RawB M 0 (.map []) ∧ Below w.heap.size w w' := by
  have hmm := @run_makeMap Try.prog
  have V1 := Lib.hid h1
  have V2 := Lib.hid h2
  have V3 := Lib.hid h3
  have B0 := Lib.hid (((Below.refl w.heap.size w).alloc (Nat.le_refl _) (.cells #[.int .i64 n, .int .i64 b, .int .i64 s, .map (some (w.heap.size + 1))] 98)).alloc (by simp) (.map #[] 0))
  have HM0 := Lib.hid (show ((w.alloc (.cells #[.int .i64 n, .int .i64 b, .int .i64 s, .map (some (w.heap.size + 1))] 98)).alloc (.map #[] 0)).ownsMap Try.prog 2 RawB (w.heap.size + 1) 0 (.map []) from by
    have h := World.ownsMap_made (w.alloc (.cells #[.int .i64 n, .int .i64 b, .int .i64 s, .map (some (w.heap.size + 1))] 98)) Try.prog 2 RawB
    rw [World.size_alloc] at h
    exact h)
  have K0 := Lib.hid ((Blk.new w 98 #[.int .i64 n, .int .i64 b, .int .i64 s, .map (some (w.heap.size + 1))]).below ((Below.refl _ _).alloc (Nat.le_refl _) (.map #[] 0)))
  clear h1 h2 h3
  go_enter Try.func64, Try.ntmps64
  go_wp2_with (first | (go_at_call 60; refine (c_isSideV _ _).mono ?_; rintro e w' ⟨rfl, rfl⟩; first | rw [V1.out] | rw [V2.out]) | (go_at_call 61; refine (c_isSeed _ _).mono ?_; rintro e w' ⟨rfl, rfl⟩; rw [V3.out]))
  obtain ⟨r0, r1, r2, r3⟩ := tb4 K0.out
  exact bodyPost_ret (v := .tuple #[.agg #[.int .i64 n, .int .i64 b, .int .i64 s, .map (some (w.heap.size + 1))], .bool true]) (by simp [results, Try.results64, go_sem, r0, r1, r2, r3]) rfl ⟨_, Nat.le_succ _, rfl, HM0.out, B0.out⟩
set_option maxRecDepth 20000 in
set_option maxHeartbeats 1000000 in
theorem c_loaderOf_no (n b s : Int) (h : okLoad n b s = false) (w : World) :
    Calls Try.prog 64 #[.int .i64 n, .int .i64 b, .int .i64 s] w fun e w' => e = .returned (.tuple #[.agg #[.int .i64 0, .int .i64 0, .int .i64 0, .map none], .bool false]) ∧ Below w.heap.size w w' := by
  have K0 := Lib.hid (Blk.new w 98 #[.int .i64 0, .int .i64 0, .int .i64 0, .map none])
  have B0 := Lib.hid ((Below.refl w.heap.size w).alloc (Nat.le_refl _) (.cells #[.int .i64 0, .int .i64 0, .int .i64 0, .map none] 98))
  obtain ⟨q0, q1, q2, q3⟩ := tb4 K0.out
  obtain ⟨f0, f1, f2, f3⟩ := tbf4 K0.out
  cases h1 : isSideV n with
  | false =>
    have V1 := Lib.hid h1
    clear h h1
    go_enter Try.func64, Try.ntmps64
    go_wp2_with (go_at_call 60; refine (c_isSideV _ _).mono ?_; rintro e w' ⟨rfl, rfl⟩; rw [V1.out])
    exact bodyPost_ret (v := .tuple #[.agg #[.int .i64 0, .int .i64 0, .int .i64 0, .map none], .bool false]) (by simp [results, Try.results64, go_sem, q0, q1, q2, q3]) rfl ⟨rfl, B0.out⟩
  | true =>
    have V1 := Lib.hid h1
    cases h2 : isSideV b with
    | false =>
      have V2 := Lib.hid h2
      clear h h1 h2
      go_enter Try.func64, Try.ntmps64
      go_wp2_with (go_at_call 60; refine (c_isSideV _ _).mono ?_; rintro e w' ⟨rfl, rfl⟩; first | rw [V1.out] | rw [V2.out])
      exact bodyPost_ret (v := .tuple #[.agg #[.int .i64 0, .int .i64 0, .int .i64 0, .map none], .bool false]) (by simp [results, Try.results64, go_sem, q0, q1, q2, q3]) rfl ⟨rfl, B0.out⟩
    | true =>
      have V2 := Lib.hid h2
      cases h3 : isSeedV s with
      | true => rw [okLoad, h1, h2, h3] at h; cases h
      | false =>
        have V3 := Lib.hid h3
        clear h h1 h2 h3
        go_enter Try.func64, Try.ntmps64
        go_wp2_with (first | (go_at_call 60; refine (c_isSideV _ _).mono ?_; rintro e w' ⟨rfl, rfl⟩; first | rw [V1.out] | rw [V2.out]) | (go_at_call 61; refine (c_isSeed _ _).mono ?_; rintro e w' ⟨rfl, rfl⟩; rw [V3.out]))
        exact bodyPost_ret (v := .tuple #[.agg #[.int .i64 0, .int .i64 0, .int .i64 0, .map none], .bool false]) (by simp [results, Try.results64, go_sem, q0, q1, q2, q3]) rfl ⟨rfl, B0.out⟩
theorem c_isStepV (n : Int) (w : World) : Calls Try.prog 65 #[.int .i64 n] w fun e w' => e = .returned (.bool (isStepV n)) ∧ w = w' := by
  unfold isStepV
  by_cases h1 : 0 ≤ n
  · by_cases h2 : n ≤ 1000
    · go_enter Try.func65, Try.ntmps65
      go_wp2_with fail
      go_ret
      exact ⟨by simp [h1, h2], rfl⟩
    · go_enter Try.func65, Try.ntmps65
      go_wp2_with fail
      go_ret
      exact ⟨by simp [h2], rfl⟩
  · go_enter Try.func65, Try.ntmps65
    go_wp2_with fail
    go_ret
    exact ⟨by simp; omega, rfl⟩
set_option maxRecDepth 20000 in
set_option maxHeartbeats 1000000 in
theorem t_iBatchOf (n b s t : Int) (w : World) : Calls Try.prog 19 #[.int .i64 n, .int .i64 b, .int .i64 s, .int .i64 t] w (RetI (vBatchOf n b s t).1 (vBatchOf n b s t).2 w) := by
  cases hl : okLoad n b s with
  | false =>
    have HL := Lib.hid hl
    rw [vBatchOf_no (show okBat n b s t = false by unfold okBat; unfold okLoad at hl; rw [hl]; rfl)]
    clear hl
    go_enter Try.func19, Try.ntmps19
    go_wp2_with fail
    refine (c_loaderOf_no n b s HL.out _).mono ?_
    rintro e w1 ⟨rfl, hb⟩
    have K0 := Lib.hid (Blk.new w1 98 #[.int .i64 0, .int .i64 0, .int .i64 0, .map none])
    have B0 := Lib.hid (hb.alloc hb.size (.cells #[.int .i64 0, .int .i64 0, .int .i64 0, .map none] 98))
    have HBS := Lib.hid hb.size
    obtain ⟨q0, q1, q2, q3⟩ := tb4 K0.out
    obtain ⟨f0, f1, f2, f3⟩ := tbf4 K0.out
    clear hb
    go_wp2_with fail
    go_ret2
    exact ⟨none, 0, [], rfl, nil_ownI _ _, rfl, B0.out⟩
  | true =>
    have h := hl
    simp only [okLoad, Bool.and_eq_true] at h
    obtain ⟨⟨h1, h2⟩, h3⟩ := h
    have HL := Lib.hid (c_loaderOf n b s h1 h2 h3)
    have HSQ := Lib.hid (isSeedV_yes h3)
    obtain ⟨n, rfl, n1, n2⟩ := isSideV_yes h1
    obtain ⟨b, rfl, b1, b2⟩ := isSideV_yes h2
    have KEY : ∀ (w1 : World) (M : Nat), w.heap.size ≤ M → w1.ownsMap Try.prog 2 RawB M 0 (.map []) → Below w.heap.size w w1 →
        ∃ w2, w2 = w1.alloc (.cells #[.int .i64 n, .int .i64 b, .int .i64 s, .map (some M)] 98) ∧ Blk w2 w1.heap.size 98 #[.int .i64 n, .int .i64 b, .int .i64 s, .map (some M)] ∧ w2.ownsMap Try.prog 2 RawB M 0 (.map []) ∧ Below w.heap.size w w2 := by
      intro w1 M hM hm hb
      exact ⟨_, rfl, Blk.new w1 _ _, hm.alloc _, hb.alloc hb.size _⟩
    have HKEY := Lib.hid KEY
    clear KEY
    cases h4 : isStepV t with
    | false =>
      have V4 := Lib.hid h4
      rw [vBatchOf_no (show okBat n b s t = false by simp [okBat, h4])]
      clear h1 h2 h3 h4 hl
      go_enter Try.func19, Try.ntmps19
      go_wp2_with fail
      refine (HL.out _).mono ?_
      rintro e w1 ⟨M, hM, rfl, hm, hb⟩
      obtain ⟨w2, hw2, hk, hm2, hb2⟩ := HKEY.out w1 M hM hm hb
      have K0 := Lib.hid (Blk.new w1 98 #[.int .i64 0, .int .i64 0, .int .i64 0, .map none])
      have HB2 := Lib.hid hb2
      obtain ⟨q0, q1, q2, q3⟩ := tb4 K0.out
      obtain ⟨f0, f1, f2, f3⟩ := tbf4 K0.out
      clear hm hb hk hm2 hb2
      go_wp2_with fail
      rw [← hw2]
      clear q0 q1 q2 q3 f0 f1 f2 f3 K0 hw2
      go_wp2_with (go_at_call 65; refine (c_isStepV _ _).mono ?_; rintro e w' ⟨rfl, rfl⟩; rw [V4.out])
      go_ret2
      exact ⟨none, 0, [], rfl, nil_ownI _ _, rfl, HB2.out⟩
    | true =>
      have V4 := Lib.hid h4
      have hok : okBat n b s t = true := by simp [okBat, h1, h2, h3, h4]
      obtain ⟨t, rfl, t2⟩ := isStepV_yes h4
      rw [vBatchOf_yes hok]
      clear h1 h2 h3 h4 hl hok
      go_enter Try.func19, Try.ntmps19
      go_wp2_with fail
      refine (HL.out _).mono ?_
      rintro e w1 ⟨M, hM, rfl, hm, hb⟩
      obtain ⟨w2, hw2, hk, hm2, hb2⟩ := HKEY.out w1 M hM hm hb
      have K0 := Lib.hid (Blk.new w1 98 #[.int .i64 0, .int .i64 0, .int .i64 0, .map none])
      have K2 := Lib.hid hk
      have HM2 := Lib.hid hm2
      have HB2 := Lib.hid hb2
      obtain ⟨q0, q1, q2, q3⟩ := tb4 K0.out
      obtain ⟨f0, f1, f2, f3⟩ := tbf4 K0.out
      have HMM := Lib.hid hM
      clear hm hb hk hm2 hb2 hM
      go_wp2_with fail
      rw [← hw2]
      clear q0 q1 q2 q3 f0 f1 f2 f3 K0 hw2
      obtain ⟨q0, q1, q2, q3⟩ := tb4 K2.out
      go_wp2_with (go_at_call 65; refine (c_isStepV _ _).mono ?_; rintro e w' ⟨rfl, rfl⟩; rw [V4.out])
      refine (c_rowsAt n b M t s n1 n2 b1 b2 t2 HSQ.out _ HM2.out).mono ?_
      rintro e w3 ⟨a3, c3, rfl, ho, hg⟩
      have HO := Lib.hid ho
      have HG := Lib.hid hg
      clear ho hg
      go_wp2_with fail
      go_ret2
      exact ⟨a3, c3, _, rfl, HO.out.base HB2.out.size, rfl, HB2.out.grown HG.out HB2.out.size (fun k hk => by cases hk; exact HMM.out)⟩
end Go.Proofs.Ythklfkfhhdglcaa
