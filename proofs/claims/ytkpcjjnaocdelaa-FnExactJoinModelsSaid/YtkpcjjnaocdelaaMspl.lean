/-
  Splitting a model: what the model and the program answer. Conditions: the cells can be read.
-/
import Derived.Test.YtkpcjjnaocdelaaMcp
import Derived.Deep.RegionHeld3
namespace Go.Proofs.Ytkpcjjnaocdelaa
open Go.RowKit Go.Deep Go.WideShapes Go.ChangeShapes Go.Maps
set_option linter.unusedVariables false
set_option linter.unusedSimpArgs false
attribute [local go_sem] World.drewN_zero

def RetW (b : Bool) (zs zt : List LayP) (w : World) (e : Ending) (w' : World) : Prop :=
  ∃ g1 c1 y1 g2 c2 y2, e = .returned (.tuple #[.agg #[.slice g1 (List.length y1) c1], .agg #[.slice g2 (List.length y2) c2], .bool b]) ∧ (OwnL w' w.heap.size [.sl 59 5 y1.length g1 c1 (laysC y1)] ∧ OwnL w' w.heap.size [.sl 59 5 y2.length g2 c2 (laysC y2)]) ∧
    (blL [.sl 59 5 y1.length g1 c1 (laysC y1)] ++ blL [.sl 59 5 y2.length g2 c2 (laysC y2)]).Nodup ∧ y1.map (fun x => x.p.can) = zs ∧ y2.map (fun x => x.p.can) = zt ∧ Below w.heap.size w w'
theorem retW_bound {ys yt : List LayA} {zs zt : List LayP} (h : ys.map (fun x => x.p.can) = zs) (h' : yt.map (fun x => x.p.can) = zt) (hz : 3 * zs.length + laySum zs + (3 * zt.length + laySum zt) ≤ 1048576) :
    cntLays ys + cntLays yt ≤ 1048576 ∧ True ∧ laySum (ys.map LayA.p) ≤ 1048576 ∧ laySum (yt.map LayA.p) ≤ 1048576 := by
  subst h h'
  rw [laySum_can, laySum_can, List.length_map, List.length_map] at hz
  unfold cntLays
  exact ⟨by omega, trivial, by omega, by omega⟩
theorem retW_no {w w' : World} (h : Below w.heap.size w w') : RetW false [] [] w (.returned (.tuple #[.agg #[.slice none 0 0], .agg #[.slice none 0 0], .bool false])) w' :=
  ⟨none, 0, [], none, 0, [], rfl, ⟨by simp [OwnL, Cl.Own, laysC, vs, World.ownsRow_nil], by simp [OwnL, Cl.Own, laysC, vs, World.ownsRow_nil]⟩, by simp [blL, Cl.bl, laysC, blk], rfl, rfl, h⟩
theorem laysC_take_drop (ls : List LayA) (k : Nat) : laysC ls = laysC (ls.take k) ++ laysC (ls.drop k) := by
  rw [← laysC_append, List.take_append_drop]
theorem LaysAt.part1 {w : World} {g : Option Addr} {n cap : Nat} {ls : List LayA} (h : LaysAt w g n cap ls) {k : Nat} (hk : k ≤ n) : LaysAt w g k cap (ls.take k) := by
  obtain ⟨h1, h2, h3, h4, h5⟩ := h
  rw [laysC_take_drop ls k, AtL_iff] at h4
  refine ⟨by rw [List.length_take, h1]; omega, by omega, h3, AtL_iff.2 fun c hc => h4 c (List.mem_append.2 (.inl hc)), ?_⟩
  rcases h5 with h0 | ⟨b, off, hg, hb, hc⟩
  · exact .inl (by omega)
  · refine .inr ⟨b, off, hg, hb, fun i hi => ?_⟩
    rw [hc i (by omega), laysC_take_drop ls k, vs_append, List.getElem?_append_left (by rw [vs_length, laysC_length, List.length_take, h1]; omega)]
theorem LaysAt.part2 {w : World} {b off : Nat} {n cap : Nat} {ls : List LayA} (h : LaysAt w (some ⟨b, off, none⟩) n cap ls) {k : Nat} (hk : k ≤ n) : LaysAt w (some ⟨b, off + k * 5, none⟩) (n - k) (cap - k) (ls.drop k) := by
  obtain ⟨h1, h2, h3, h4, h5⟩ := h
  rw [laysC_take_drop ls k, AtL_iff] at h4
  refine ⟨by rw [List.length_drop, h1], by omega, by omega, AtL_iff.2 fun c hc => h4 c (List.mem_append.2 (.inr hc)), ?_⟩
  rcases h5 with h0 | ⟨b', off', hg, hb, hc⟩
  · exact .inl (by omega)
  · simp only [Option.some.injEq, Addr.mk.injEq, and_true] at hg
    obtain ⟨rfl, rfl⟩ := hg
    refine .inr ⟨b, off + k * 5, rfl, hb, fun i hi => ?_⟩
    rw [Nat.add_assoc, hc (k * 5 + i) (by omega), laysC_take_drop ls k, vs_append, List.getElem?_append_right (by rw [vs_length, laysC_length, List.length_take, h1]; omega), vs_length, laysC_length, List.length_take, h1, Nat.min_eq_left hk, Nat.add_sub_cancel_left]
theorem okUp_of {ps : List LayP} {n : Nat} (h : ∀ j, j < n → testAt ps j = true) : okUp ps n = true := by
  induction n with
  | zero => rfl
  | succ n ih => simp only [okUp, ih (fun j hj => h j (by omega)), h n (by omega)]; rfl
theorem okUp_at1 {ps : List LayP} {n : Nat} (h : okUp ps n = true) {j : Nat} (hj : j < n) : testAt ps j = true := by
  cases ht : testAt ps j with
  | true => rfl
  | false => rw [okUp_no ht n hj] at h; exact h
theorem vMod_part1 {ps : List LayP} {k : Nat} (h : vMod ps = true) (h1 : 1 ≤ k) (hk : k ≤ ps.length) : vMod (ps.take k) = true := by
  unfold vMod at h ⊢
  simp only [Bool.and_eq_true, decide_eq_true_eq] at h ⊢
  have hl : (ps.take k).length = k := by rw [List.length_take]; omega
  rw [hl]
  refine ⟨⟨h1, by omega⟩, okUp_of fun j hj => ?_⟩
  rw [← okUp_at1 h.2 (show j < ps.length by omega)]
  unfold testAt
  rw [List.getElem?_take_of_lt hj]
  cases ps[j]? with
  | none => rfl
  | some p =>
    cases j with
    | zero => rfl
    | succ m => simp only [List.getElem?_take_of_lt (show m < k by omega)]
theorem vMod_part2 {ps : List LayP} {k : Nat} (h : vMod ps = true) (hk : k < ps.length) : vMod (ps.drop k) = true := by
  unfold vMod at h ⊢
  simp only [Bool.and_eq_true, decide_eq_true_eq] at h ⊢
  have hl : (ps.drop k).length = ps.length - k := by rw [List.length_drop]
  rw [hl]
  refine ⟨⟨by omega, by omega⟩, okUp_of fun j hj => ?_⟩
  have ht := okUp_at1 h.2 (show k + j < ps.length by omega)
  have hx : ps[k + j]? = some ps[k + j] := List.getElem?_eq_getElem (by omega)
  unfold testAt at ht ⊢
  rw [List.getElem?_drop]
  rw [hx] at ht ⊢
  cases j with
  | zero =>
    simp only [Bool.and_eq_true] at ht ⊢
    exact ⟨ht.1, trivial⟩
  | succ m =>
    simp only [show k + (m + 1) = (k + m) + 1 by omega, Bool.and_eq_true] at ht ⊢
    rw [List.getElem?_drop]
    exact ht
def vSplitModel (ps : List LayP) (v : Int) : Bool × List LayP × List LayP :=
  if vMod ps && (decide (1 ≤ v) && decide (v ≤ (ps.length : Int) - 1)) then (true, (ps.take v.toNat).map LayP.can, (ps.drop v.toNat).map LayP.can) else (false, [], [])
set_option maxRecDepth 20000 in
set_option maxHeartbeats 1000000 in
theorem c_l09Part (g : Option Addr) (cap n : Nat) (ls : List LayA) (w : World) (h : LaysAt w g n cap ls) (hs : laySum (ls.map LayA.p) ≤ 432) (h6 : n ≤ 6) :
    Calls Try.prog 93 #[.slice g n cap] w (RetMd (ls.map LayA.p) n w) := by
  obtain ⟨k1, k2, bb⟩ := two_boxes w 41 #[.slice none 0 0] #[.slice g n cap]
  have K1 := Lib.hid k1
  have K2 := Lib.hid k2
  have B := Lib.hid bb
  have H := Lib.hid (h.kept bb)
  have HS := Lib.hid hs
  have H6 := Lib.hid h6
  clear k1 k2 bb h hs h6
  go_enter Try.func93, Try.ntmps93
  go_wp2_with fail
  generalize (w.alloc (.cells #[.slice none 0 0] 41)).alloc (.cells #[.slice g n cap] 41) = w1 at K1 K2 B H ⊢
  obtain ⟨p0, pl⟩ := tb1 K2.out
  refine (c_l07Own (w.heap.size + 1) g cap n ls w1 pl p0 H.out HS.out H6.out).mono ?_
  rintro e w2 ⟨gs, cp, ys, rfl, hyl, hyp, ho, hnd, bl⟩
  have S1 := Lib.hid (show w.heap.size < w1.heap.size from K1.out.lt)
  have K3 := Lib.hid (K1.out.below bl)
  have B3 := Lib.hid (Below.next B.out bl)
  have HYL := Lib.hid hyl
  have HYP := Lib.hid hyp
  have O3 := Lib.hid ho
  have ND := Lib.hid hnd
  clear bl hyl hyp ho hnd p0 pl
  obtain ⟨s0, sl⟩ := tb1 K3.out
  have f0 := K3.out.frozen 0
  go_wp2_with fail
  refine bodyPost_ret (v := .agg #[.slice gs n cp]) (by simp [results, Try.results93, go_sem, s0]) rfl ?_
  exact ⟨gs, cp, ys, rfl, HYL.out, HYP.out, OwnL.base (Nat.le_of_lt S1.out) _ (O3.out.far (p := ⟨w.heap.size, 0, none⟩) S1.out _), ND.out, B3.out.setCell (p := ⟨w.heap.size, 0, none⟩) (Nat.le_refl _) _⟩
theorem three_boxes (w : World) (t : TypeId) (x y z : Array Value) : Blk (((w.alloc (.cells x t)).alloc (.cells y t)).alloc (.cells z t)) w.heap.size t x ∧ Blk (((w.alloc (.cells x t)).alloc (.cells y t)).alloc (.cells z t)) (w.heap.size + 1) t y ∧
    Blk (((w.alloc (.cells x t)).alloc (.cells y t)).alloc (.cells z t)) (w.heap.size + 1 + 1) t z ∧ Below w.heap.size w (((w.alloc (.cells x t)).alloc (.cells y t)).alloc (.cells z t)) := by
  obtain ⟨h1, h2, h3⟩ := two_boxes w t x y
  have al := (Below.refl ((w.alloc (.cells x t)).alloc (.cells y t)).heap.size ((w.alloc (.cells x t)).alloc (.cells y t))).alloc (Nat.le_refl _) (.cells z t)
  have h4 := Blk.new ((w.alloc (.cells x t)).alloc (.cells y t)) t z
  simp only [World.size_alloc] at h4
  exact ⟨h1.below al, h2.below al, h4, Below.next h3 al⟩
theorem stored1 {w : World} {g : Nat} {t : TypeId} {x0 y0 : Value} (h : Blk w g t #[x0]) : Blk (w.setCell ⟨g, 0, none⟩ y0) g t #[y0] ∧ w.grownBy (w.setCell ⟨g, 0, none⟩ y0) (some g) := storec1 h
set_option maxRecDepth 20000 in
set_option maxHeartbeats 4000000 in
theorem t_sSplitModel (ps : List LayP) (n : Nat) (g : Option Addr) (c : Nat) (y : List LayA) (v : Int) (w : World) (hp : y.map LayA.p = ps) (h : LaysAt w g n c y) :
    Calls Try.prog 45 #[.agg #[.slice g n c], .int .i64 v] w (RetW (vSplitModel ps v).1 (vSplitModel ps v).2.1 (vSplitModel ps v).2.2 w) := by
  subst hp
  have hln : (y.map LayA.p).length = n := by simpa using h.1
  have hnm : n ≤ 9223372036854775807 := by have h1 := h.2.1; have h2 := h.2.2.1; unfold maxLen at h2; omega
  obtain ⟨k1, k2, k3, bb⟩ := three_boxes w 41 #[.slice g n c] #[.slice none 0 0] #[.slice none 0 0]
  have K1 := Lib.hid k1
  have K2 := Lib.hid k2
  have K3 := Lib.hid k3
  have B := Lib.hid bb
  have H := Lib.hid (h.kept bb)
  cases hv : vMod (y.map LayA.p) with
  | false =>
    have HV := Lib.hid hv
    rw [show vSplitModel (y.map LayA.p) v = (false, [], []) by simp [vSplitModel, hv]]
    clear k1 k2 k3 bb h hv hln
    go_enter Try.func45, Try.ntmps45
    go_wp2_with fail
    generalize ((w.alloc (.cells #[.slice g n c] 41)).alloc (.cells #[.slice none 0 0] 41)).alloc (.cells #[.slice none 0 0] 41) = w1 at K1 K2 K3 B H ⊢
    obtain ⟨p0, pl⟩ := tb1 K1.out
    refine (c_l03Is w.heap.size 0 g c n y false HV.out w1 p0 H.out).mono ?_
    rintro e w2 ⟨rfl, d, rfl⟩
    have B2 := Lib.hid (below_drewN B.out d)
    have K22 := Lib.hid (K2.out.below (below_drewN (Below.refl _ _) d))
    have K32 := Lib.hid (K3.out.below (below_drewN (Below.refl _ _) d))
    generalize w1.drewN d = w2 at B2 K22 K32 ⊢
    clear p0 pl
    obtain ⟨s0, sl⟩ := tb1 K22.out
    obtain ⟨t0, tl⟩ := tb1 K32.out
    have f0 := K22.out.frozen 0
    have f1 := K32.out.frozen 0
    go_wp2_with fail
    refine bodyPost_ret (v := .tuple #[.agg #[.slice none 0 0], .agg #[.slice none 0 0], .bool false]) (by simp [results, Try.results45, go_sem, s0, t0]) rfl (retW_no ?_)
    exact (B2.out.setCell (p := ⟨w.heap.size + 1, 0, none⟩) (by simp) _).setCell (p := ⟨w.heap.size + 1 + 1, 0, none⟩) (by simp; omega) _
  | true =>
    obtain ⟨v1, v6, v432⟩ := vMod_parts hv
    have hn6 : n ≤ 6 := by omega
    have hn1 : 1 ≤ n := by omega
    have HV := Lib.hid hv
    cases hr : (decide (1 ≤ v) && decide (v ≤ (n : Int) - 1)) with
    | false =>
      have HR := Lib.hid hr
      rw [show vSplitModel (y.map LayA.p) v = (false, [], []) by simp [vSplitModel, hv, hln, hr]]
      clear k1 k2 k3 bb h hv hln hr
      go_enter Try.func45, Try.ntmps45
      go_wp2_with fail
      generalize ((w.alloc (.cells #[.slice g n c] 41)).alloc (.cells #[.slice none 0 0] 41)).alloc (.cells #[.slice none 0 0] 41) = w1 at K1 K2 K3 B H ⊢
      obtain ⟨p0, pl⟩ := tb1 K1.out
      refine (c_l03Is w.heap.size 0 g c n y true HV.out w1 p0 H.out).mono ?_
      rintro e w2 ⟨rfl, d, rfl⟩
      have B2 := Lib.hid (below_drewN B.out d)
      have K12 := Lib.hid (K1.out.below (below_drewN (Below.refl _ _) d))
      have K22 := Lib.hid (K2.out.below (below_drewN (Below.refl _ _) d))
      have K32 := Lib.hid (K3.out.below (below_drewN (Below.refl _ _) d))
      generalize w1.drewN d = w2 at B2 K12 K22 K32 ⊢
      clear p0 pl
      obtain ⟨r0, rl⟩ := tb1 K12.out
      obtain ⟨s0, sl⟩ := tb1 K22.out
      obtain ⟨t0, tl⟩ := tb1 K32.out
      have f0 := K22.out.frozen 0
      have f1 := K32.out.frozen 0
      go_wp2_with fail
      refine (c_l00In _ _ _ false HR.out _).mono ?_
      rintro e w' ⟨rfl, rfl⟩
      go_wp2_with fail
      refine bodyPost_ret (v := .tuple #[.agg #[.slice none 0 0], .agg #[.slice none 0 0], .bool false]) (by simp [results, Try.results45, go_sem, s0, t0]) rfl (retW_no ?_)
      exact (B2.out.setCell (p := ⟨w.heap.size + 1, 0, none⟩) (by simp) _).setCell (p := ⟨w.heap.size + 1 + 1, 0, none⟩) (by simp; omega) _
    | true =>
      have HR := Lib.hid hr
      have hr' := hr
      rw [Bool.and_eq_true, decide_eq_true_eq, decide_eq_true_eq] at hr'
      obtain ⟨k, rfl⟩ : ∃ k : Nat, v = (k : Int) := ⟨v.toNat, by omega⟩
      have hk1 : 1 ≤ k := by omega
      have hkn : k + 1 ≤ n := by omega
      rw [show vSplitModel (y.map LayA.p) (k : Int) = (true, ((y.map LayA.p).take k).map LayP.can, ((y.map LayA.p).drop k).map LayP.can) by simp [vSplitModel, hv, hln, hr]]
      dsimp only
      obtain ⟨b, off, rfl⟩ : ∃ b off, g = some ⟨b, off, none⟩ := by
        rcases h.2.2.2.2 with h0 | ⟨b, off, hg, _⟩
        · omega
        · exact ⟨b, off, hg⟩
      have hcn : n ≤ c := h.2.1
      have hcm : c ≤ 9223372036854775807 := by have h2 := h.2.2.1; unfold maxLen at h2; omega
      have sum1 : laySum ((y.take k).map LayA.p) ≤ 432 := by
        have := laySum_le (ls := y) k; omega
      have sum2 : laySum ((y.drop k).map LayA.p) ≤ 432 := by
        have h1 : y.map LayA.p = (y.take k).map LayA.p ++ (y.drop k).map LayA.p := by rw [← List.map_append, List.take_append_drop]
        rw [h1, laySum_append] at v432; omega
      have HP1 := Lib.hid (fun W (hb : LaysAt W (some ⟨b, off, none⟩) n c y) => c_l09Part _ c k (y.take k) W (hb.part1 (by omega)) sum1 (by omega))
      have HP2 := Lib.hid (fun W (hb : LaysAt W (some ⟨b, off, none⟩) n c y) => c_l09Part _ (c - k) (n - k) (y.drop k) W (hb.part2 (by omega)) sum2 (by omega))
      have HKN := Lib.hid hkn
      have hk1' : (1 : Int) ≤ (k : Int) := by omega
      have hkn' : (k : Int) ≤ (n : Int) := by omega
      have hkc' : (k : Int) ≤ (c : Int) := by omega
      have hkc : ¬ c = k := by omega
      have hckn : k ≤ c := by omega
      have hckn2 : k ≤ n := by omega
      clear k1 k2 k3 bb h hv hln hr hr' sum1 sum2 v1 v6 v432
      go_enter Try.func45, Try.ntmps45
      go_wp2_with fail
      generalize ((w.alloc (.cells #[.slice (some ⟨b, off, none⟩) n c] 41)).alloc (.cells #[.slice none 0 0] 41)).alloc (.cells #[.slice none 0 0] 41) = w1 at K1 K2 K3 B H ⊢
      obtain ⟨p0, pl⟩ := tb1 K1.out
      refine (c_l03Is w.heap.size 0 _ c n y true HV.out w1 p0 H.out).mono ?_
      rintro e w2 ⟨rfl, d, rfl⟩
      have B2 := Lib.hid (below_drewN B.out d)
      have H2 := Lib.hid (H.out.kept (below_drewN (Below.refl _ _) d))
      have K12 := Lib.hid (K1.out.below (below_drewN (Below.refl _ _) d))
      have K22 := Lib.hid (K2.out.below (below_drewN (Below.refl _ _) d))
      have K32 := Lib.hid (K3.out.below (below_drewN (Below.refl _ _) d))
      generalize w1.drewN d = w2 at B2 H2 K12 K22 K32 ⊢
      clear p0 pl
      obtain ⟨r0, rl⟩ := tb1 K12.out
      obtain ⟨s0, sl⟩ := tb1 K22.out
      obtain ⟨t0, tl⟩ := tb1 K32.out
      have f0 := K22.out.frozen 0
      have f1 := K32.out.frozen 0
      go_wp2_with fail
      refine (c_l00In _ _ _ true HR.out _).mono ?_
      rintro e w' ⟨rfl, rfl⟩
      go_wp2_with fail
      have bd : Below w2.heap.size w2 w2.drew := (Below.refl _ _).drew
      have HD := Lib.hid (H2.out.kept bd)
      have K1d := Lib.hid (K12.out.below bd)
      have K2d := Lib.hid (K22.out.below bd)
      have K3d := Lib.hid (K32.out.below bd)
      have Bd := Lib.hid (Below.next B2.out bd)
      have S2 := Lib.hid (show w.heap.size + 1 + 1 < w2.heap.size from K32.out.lt)
      have n1 : ¬ w.heap.size = w.heap.size + 1 + 1 := by omega
      have n2 : ¬ w.heap.size + 1 + 1 = w.heap.size := by omega
      clear bd
      go_region_held3 (fun w' => w'.cell? ⟨w.heap.size, 0, none⟩ = some (.slice (some ⟨b, off, none⟩) n c)) (go_keep)
        (first
          | (go_at_call 93
             refine (HP1.out _ HD.out).mono ?_
             rintro e w3 ⟨ga, ca, ya, rfl, hyl, hyp, ho, hnd, bl⟩
             have YLa := Lib.hid hyl
             have YPa := Lib.hid hyp
             have Oa := Lib.hid ho
             have NDa := Lib.hid hnd
             have H3 := Lib.hid (HD.out.kept bl)
             have K13 := Lib.hid (K1d.out.below bl)
             have K23 := Lib.hid (K2d.out.below bl)
             have K33 := Lib.hid (K3d.out.below bl)
             have B3 := Lib.hid (Below.next Bd.out bl)
             have S3 := Lib.hid (Nat.lt_of_lt_of_le S2.out bl.size)
             clear hyl hyp ho hnd bl
             clear r0 rl s0 sl t0 tl f0 f1
             obtain ⟨r0, rl⟩ := tb1 K13.out)
          | (go_at_call 93
             refine (HP2.out _ H3.out).mono ?_
             rintro e w4 ⟨gb, cb, yb, rfl, hyl, hyp, ho, hnd, bl⟩
             have YLb := Lib.hid hyl
             have YPb := Lib.hid hyp
             have Ob := Lib.hid ho
             have NDb := Lib.hid hnd
             have Oa4 := Lib.hid (OwnL.kept Oa.out bl)
             have APP := Lib.hid (apart_new Oa.out ho)
             have K24 := Lib.hid (K23.out.below bl)
             have K34 := Lib.hid (K33.out.below bl)
             have K14 := Lib.hid (K13.out.below bl)
             have B4 := Lib.hid (Below.next B3.out bl)
             clear hyl hyp ho hnd bl
             clear r0 rl
             obtain ⟨r0, rl⟩ := tb1 K14.out
             obtain ⟨s0, sl⟩ := tb1 K24.out
             obtain ⟨t0, tl⟩ := tb1 K34.out
             have f0 := K24.out.frozen 0
             have f1 := K34.out.frozen 0))
      obtain ⟨hk, hg⟩ := stored1 K24.out (y0 := .slice ga k ca)
      have K2e := Lib.hid hk
      have K3e := Lib.hid (K34.out.off hg (by omega))
      have Oae := Lib.hid (Oa4.out.offg hg (show w.heap.size + 1 < w2.heap.size by have := S2.out; omega))
      have Obe := Lib.hid (Ob.out.offg hg (by have := S3.out; omega))
      have Be := Lib.hid (Below.at_ B4.out hg (by omega))
      clear hk hg
      generalize w4.setCell ⟨w.heap.size + 1, 0, none⟩ (.slice ga k ca) = w5 at K2e K3e Oae Obe Be ⊢
      obtain ⟨hk, hg⟩ := stored1 K3e.out (y0 := .slice gb (n - k) cb)
      have K3f := Lib.hid hk
      have K2f := Lib.hid (K2e.out.off hg (by omega))
      have Oaf := Lib.hid (Oae.out.offg hg (show w.heap.size + 1 + 1 < w2.heap.size from S2.out))
      have Obf := Lib.hid (Obe.out.offg hg S3.out)
      have Bf := Lib.hid (Below.at_ Be.out hg (by omega))
      clear hk hg
      generalize w5.setCell ⟨w.heap.size + 1 + 1, 0, none⟩ (.slice gb (n - k) cb) = w6 at K2f K3f Oaf Obf Bf ⊢
      clear r0 rl s0 sl t0 tl f0 f1
      obtain ⟨s0, sl⟩ := tb1 K2f.out
      obtain ⟨t0, tl⟩ := tb1 K3f.out
      have f0 := K2f.out.frozen 0
      have f1 := K3f.out.frozen 0
      go_wp2_with fail
      refine bodyPost_ret (v := .tuple #[.agg #[.slice ga k ca], .agg #[.slice gb (n - k) cb], .bool true]) (by simp [results, Try.results45, go_sem, s0, t0]) rfl ?_
      refine ⟨ga, ca, ya, gb, cb, yb, by rw [YLa.out, YLb.out], ⟨?_, ?_⟩, ?_, ?_, ?_, Bf.out⟩
      · rw [YLa.out]; exact OwnL.base (show w.heap.size ≤ w2.heap.size by have := S2.out; omega) _ Oaf.out
      · rw [YLb.out]; exact OwnL.base (by have := S3.out; omega) _ Obf.out
      · rw [YLa.out, YLb.out]
        exact List.nodup_append.2 ⟨NDa.out, NDb.out, fun x hx y hy e => APP.out x hx (e ▸ hy)⟩
      · rw [show ya.map (fun x => x.p.can) = (ya.map LayA.p).map LayP.can by simp, YPa.out, List.map_take]
      · rw [show yb.map (fun x => x.p.can) = (yb.map LayA.p).map LayP.can by simp, YPb.out, List.map_drop]
set_option maxRecDepth 20000 in
set_option maxHeartbeats 4000000 in
theorem t_iSplitModel (ps : List LayP) (n : Nat) (g : Option Addr) (c : Nat) (y : List LayA) (v : Int) (w : World) (hp : y.map LayA.p = ps) (h : LaysAt w g n c y) :
    Calls Try.prog 46 #[.agg #[.slice g n c], .int .i64 v] w (RetW (vSplitModel ps v).1 (vSplitModel ps v).2.1 (vSplitModel ps v).2.2 w) := by
  subst hp
  have hln : (y.map LayA.p).length = n := by simpa using h.1
  have hnm : n ≤ 9223372036854775807 := by have h1 := h.2.1; have h2 := h.2.2.1; unfold maxLen at h2; omega
  obtain ⟨k1, k2, k3, bb⟩ := three_boxes w 41 #[.slice g n c] #[.slice none 0 0] #[.slice none 0 0]
  have K1 := Lib.hid k1
  have K2 := Lib.hid k2
  have K3 := Lib.hid k3
  have B := Lib.hid bb
  have H := Lib.hid (h.kept bb)
  cases hv : vMod (y.map LayA.p) with
  | false =>
    have HV := Lib.hid hv
    rw [show vSplitModel (y.map LayA.p) v = (false, [], []) by simp [vSplitModel, hv]]
    clear k1 k2 k3 bb h hv hln
    go_enter Try.func46, Try.ntmps46
    go_wp2_with fail
    generalize ((w.alloc (.cells #[.slice g n c] 41)).alloc (.cells #[.slice none 0 0] 41)).alloc (.cells #[.slice none 0 0] 41) = w1 at K1 K2 K3 B H ⊢
    refine (c_iValidModel g c n y false HV.out w1 H.out).mono ?_
    rintro e w2 ⟨rfl, bl⟩
    have B2 := Lib.hid (Below.next B.out bl)
    have K22 := Lib.hid (K2.out.below bl)
    have K32 := Lib.hid (K3.out.below bl)
    clear bl
    obtain ⟨s0, sl⟩ := tb1 K22.out
    obtain ⟨t0, tl⟩ := tb1 K32.out
    have f0 := K22.out.frozen 0
    have f1 := K32.out.frozen 0
    go_wp2_with fail
    refine bodyPost_ret (v := .tuple #[.agg #[.slice none 0 0], .agg #[.slice none 0 0], .bool false]) (by simp [results, Try.results46, go_sem, s0, t0]) rfl (retW_no ?_)
    exact (B2.out.setCell (p := ⟨w.heap.size + 1, 0, none⟩) (by simp) _).setCell (p := ⟨w.heap.size + 1 + 1, 0, none⟩) (by simp; omega) _
  | true =>
    obtain ⟨v1, v6, v432⟩ := vMod_parts hv
    have hn6 : n ≤ 6 := by omega
    have hn1 : 1 ≤ n := by omega
    have HV := Lib.hid hv
    cases hr : (decide (1 ≤ v) && decide (v ≤ (n : Int) - 1)) with
    | false =>
      rw [show vSplitModel (y.map LayA.p) v = (false, [], []) by simp [vSplitModel, hv, hln, hr]]
      have hcase : v ≤ 0 ∨ (1 ≤ v ∧ (n : Int) ≤ v) := by
        rw [Bool.and_eq_false_iff, decide_eq_false_iff_not, decide_eq_false_iff_not] at hr
        omega
      clear k1 k2 k3 bb h hv hln hr
      rcases hcase with hc1 | ⟨hc1, hc2⟩
      all_goals (
        go_enter Try.func46, Try.ntmps46
        go_wp2_with fail
        generalize ((w.alloc (.cells #[.slice g n c] 41)).alloc (.cells #[.slice none 0 0] 41)).alloc (.cells #[.slice none 0 0] 41) = w1 at K1 K2 K3 B H ⊢
        refine (c_iValidModel g c n y true HV.out w1 H.out).mono ?_
        rintro e w2 ⟨rfl, bl⟩
        have B2 := Lib.hid (Below.next B.out bl)
        have K12 := Lib.hid (K1.out.below bl)
        have K22 := Lib.hid (K2.out.below bl)
        have K32 := Lib.hid (K3.out.below bl)
        clear bl
        obtain ⟨r0, rl⟩ := tb1 K12.out
        obtain ⟨s0, sl⟩ := tb1 K22.out
        obtain ⟨t0, tl⟩ := tb1 K32.out
        have f0 := K22.out.frozen 0
        have f1 := K32.out.frozen 0
        go_wp2_with fail
        refine bodyPost_ret (v := .tuple #[.agg #[.slice none 0 0], .agg #[.slice none 0 0], .bool false]) (by simp [results, Try.results46, go_sem, s0, t0]) rfl (retW_no ?_)
        exact (B2.out.setCell (p := ⟨w.heap.size + 1, 0, none⟩) (by simp) _).setCell (p := ⟨w.heap.size + 1 + 1, 0, none⟩) (by simp; omega) _)
    | true =>
      have HR := Lib.hid hr
      have hr' := hr
      rw [Bool.and_eq_true, decide_eq_true_eq, decide_eq_true_eq] at hr'
      obtain ⟨k, rfl⟩ : ∃ k : Nat, v = (k : Int) := ⟨v.toNat, by omega⟩
      have hk1 : 1 ≤ k := by omega
      have hkn : k + 1 ≤ n := by omega
      rw [show vSplitModel (y.map LayA.p) (k : Int) = (true, ((y.map LayA.p).take k).map LayP.can, ((y.map LayA.p).drop k).map LayP.can) by simp [vSplitModel, hv, hln, hr]]
      dsimp only
      obtain ⟨b, off, rfl⟩ : ∃ b off, g = some ⟨b, off, none⟩ := by
        rcases h.2.2.2.2 with h0 | ⟨b, off, hg, _⟩
        · omega
        · exact ⟨b, off, hg⟩
      have hcn : n ≤ c := h.2.1
      have hcm : c ≤ 9223372036854775807 := by have h2 := h.2.2.1; unfold maxLen at h2; omega
      have vm1 : vMod ((y.take k).map LayA.p) = true := by rw [List.map_take]; exact vMod_part1 hv hk1 (by omega)
      have vm2 : vMod ((y.drop k).map LayA.p) = true := by rw [List.map_drop]; exact vMod_part2 hv (by omega)
      have HP1 := Lib.hid (fun W (hb : LaysAt W (some ⟨b, off, none⟩) n c y) => c_copiedM _ c k (y.take k) W (hb.part1 (by omega)) vm1)
      have HP2 := Lib.hid (fun W (hb : LaysAt W (some ⟨b, off, none⟩) n c y) => c_copiedM _ (c - k) (n - k) (y.drop k) W (hb.part2 (by omega)) vm2)
      have HKN := Lib.hid hkn
      have hk1' : (1 : Int) ≤ (k : Int) := by omega
      have hkn' : (k : Int) ≤ (n : Int) := by omega
      have hkc' : (k : Int) ≤ (c : Int) := by omega
      have hkc : ¬ c = k := by omega
      have hckn : k ≤ c := by omega
      have hckn2 : k ≤ n := by omega
      have hkn2 : (k : Int) ≤ (n : Int) - 1 := by omega
      clear k1 k2 k3 bb h hv hln hr hr' vm1 vm2 v1 v6 v432
      go_enter Try.func46, Try.ntmps46
      go_wp2_with fail
      generalize ((w.alloc (.cells #[.slice (some ⟨b, off, none⟩) n c] 41)).alloc (.cells #[.slice none 0 0] 41)).alloc (.cells #[.slice none 0 0] 41) = w1 at K1 K2 K3 B H ⊢
      refine (c_iValidModel _ c n y true HV.out w1 H.out).mono ?_
      rintro e w2 ⟨rfl, bl⟩
      have B2 := Lib.hid (Below.next B.out bl)
      have H2 := Lib.hid (H.out.kept bl)
      have K12 := Lib.hid (K1.out.below bl)
      have K22 := Lib.hid (K2.out.below bl)
      have K32 := Lib.hid (K3.out.below bl)
      clear bl
      obtain ⟨r0, rl⟩ := tb1 K12.out
      obtain ⟨s0, sl⟩ := tb1 K22.out
      obtain ⟨t0, tl⟩ := tb1 K32.out
      have f0 := K22.out.frozen 0
      have f1 := K32.out.frozen 0
      go_wp2_with fail
      have bd : Below w2.heap.size w2 w2.drew := (Below.refl _ _).drew
      have HD := Lib.hid (H2.out.kept bd)
      have K1d := Lib.hid (K12.out.below bd)
      have K2d := Lib.hid (K22.out.below bd)
      have K3d := Lib.hid (K32.out.below bd)
      have Bd := Lib.hid (Below.next B2.out bd)
      have S2 := Lib.hid (show w.heap.size + 1 + 1 < w2.heap.size from K32.out.lt)
      have n1 : ¬ w.heap.size = w.heap.size + 1 + 1 := by omega
      have n2 : ¬ w.heap.size + 1 + 1 = w.heap.size := by omega
      clear bd
      go_region_held3 (fun w' => w'.cell? ⟨w.heap.size, 0, none⟩ = some (.slice (some ⟨b, off, none⟩) n c)) (go_keep)
        (first
          | (go_at_call 94
             refine (HP2.out _ H3.out).mono ?_
             rintro e w4 ⟨gb, cb, yb, rfl, ho, hnd, hyp, bl⟩
             have YPb := Lib.hid hyp
             have Ob := Lib.hid ho
             have NDb := Lib.hid hnd
             have Oa4 := Lib.hid (OwnL.kept Oa.out bl)
             have APP := Lib.hid (apart_new Oa.out ho)
             have K24 := Lib.hid (K23.out.below bl)
             have K34 := Lib.hid (K33.out.below bl)
             have K14 := Lib.hid (K13.out.below bl)
             have B4 := Lib.hid (Below.next B3.out bl)
             clear hyp ho hnd bl
             clear r0 rl
             obtain ⟨r0, rl⟩ := tb1 K14.out
             obtain ⟨s0, sl⟩ := tb1 K24.out
             obtain ⟨t0, tl⟩ := tb1 K34.out
             have f0 := K24.out.frozen 0
             have f1 := K34.out.frozen 0)
          | (go_at_call 94
             refine (HP1.out _ HD.out).mono ?_
             rintro e w3 ⟨ga, ca, ya, rfl, ho, hnd, hyp, bl⟩
             have YPa := Lib.hid hyp
             have Oa := Lib.hid ho
             have NDa := Lib.hid hnd
             have H3 := Lib.hid (HD.out.kept bl)
             have K13 := Lib.hid (K1d.out.below bl)
             have K23 := Lib.hid (K2d.out.below bl)
             have K33 := Lib.hid (K3d.out.below bl)
             have B3 := Lib.hid (Below.next Bd.out bl)
             have S3 := Lib.hid (Nat.lt_of_lt_of_le S2.out bl.size)
             clear hyp ho hnd bl
             clear r0 rl s0 sl t0 tl f0 f1
             obtain ⟨r0, rl⟩ := tb1 K13.out))
      obtain ⟨hk, hg⟩ := stored1 K24.out (y0 := .slice ga ya.length ca)
      have K2e := Lib.hid hk
      have K3e := Lib.hid (K34.out.off hg (by omega))
      have Oae := Lib.hid (Oa4.out.offg hg (show w.heap.size + 1 < w2.heap.size by have := S2.out; omega))
      have Obe := Lib.hid (Ob.out.offg hg (by have := S3.out; omega))
      have Be := Lib.hid (Below.at_ B4.out hg (by omega))
      clear hk hg
      generalize w4.setCell ⟨w.heap.size + 1, 0, none⟩ (.slice ga ya.length ca) = w5 at K2e K3e Oae Obe Be ⊢
      obtain ⟨hk, hg⟩ := stored1 K3e.out (y0 := .slice gb yb.length cb)
      have K3f := Lib.hid hk
      have K2f := Lib.hid (K2e.out.off hg (by omega))
      have Oaf := Lib.hid (Oae.out.offg hg (show w.heap.size + 1 + 1 < w2.heap.size from S2.out))
      have Obf := Lib.hid (Obe.out.offg hg S3.out)
      have Bf := Lib.hid (Below.at_ Be.out hg (by omega))
      clear hk hg
      generalize w5.setCell ⟨w.heap.size + 1 + 1, 0, none⟩ (.slice gb yb.length cb) = w6 at K2f K3f Oaf Obf Bf ⊢
      clear r0 rl s0 sl t0 tl f0 f1
      obtain ⟨s0, sl⟩ := tb1 K2f.out
      obtain ⟨t0, tl⟩ := tb1 K3f.out
      have f0 := K2f.out.frozen 0
      have f1 := K3f.out.frozen 0
      go_wp2_with fail
      refine bodyPost_ret (v := .tuple #[.agg #[.slice ga ya.length ca], .agg #[.slice gb yb.length cb], .bool true]) (by simp [results, Try.results46, go_sem, s0, t0]) rfl ?_
      refine ⟨ga, ca, ya, gb, cb, yb, rfl, ⟨?_, ?_⟩, ?_, ?_, ?_, Bf.out⟩
      · exact OwnL.base (show w.heap.size ≤ w2.heap.size by have := S2.out; omega) _ Oaf.out
      · exact OwnL.base (by have := S3.out; omega) _ Obf.out
      · exact List.nodup_append.2 ⟨NDa.out, NDb.out, fun x hx y hy e => APP.out x hx (e ▸ hy)⟩
      · rw [YPa.out, List.map_take]
      · rw [YPb.out, List.map_drop]
theorem vSplitModel_len (ps : List LayP) (v : Int) : 3 * (vSplitModel ps v).2.1.length + laySum (vSplitModel ps v).2.1 + (3 * (vSplitModel ps v).2.2.length + laySum (vSplitModel ps v).2.2) ≤ 1048576 := by
  unfold vSplitModel
  split
  · rename_i h
    rw [Bool.and_eq_true] at h
    obtain ⟨v1, v6, v432⟩ := vMod_parts h.1
    have hc : ∀ qs : List LayP, laySum (qs.map LayP.can) = laySum qs := by
      intro qs
      unfold laySum
      rw [List.map_map]
      congr 1
      refine List.map_congr_left fun x _ => ?_
      simp [LayP.n, LayP.can]
    dsimp only
    rw [hc, hc, List.length_map, List.length_map, List.length_take, List.length_drop]
    have h1 : laySum ps = laySum (ps.take v.toNat) + laySum (ps.drop v.toNat) := by rw [← laySum_append, List.take_append_drop]
    omega
  · simp [laySum]
end Go.Proofs.Ytkpcjjnaocdelaa
