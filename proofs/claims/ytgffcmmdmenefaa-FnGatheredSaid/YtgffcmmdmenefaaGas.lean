/-
  Gathering, in the model: two lists of the call's own, changed in place round by round. Conditions: the numbers can be read.
-/
import Derived.Test.YtgffcmmdmenefaaGat
import Derived.BigRegion
import Derived.Deep.RegionLaw
namespace Go.Proofs.Ytgffcmmdmenefaa
open Go.RowKit Go.Deep Go.WideShapes Go.ChangeShapes
set_option linter.unusedVariables false
attribute [local go_sem] World.drewN_zero

/-- the sum, and the rest, of number j where the first i numbers have had one round more than k -/
def gS (z : List Nat) (k i j : Nat) : Nat := (gst (canon .f32 (z.getD j 0)) (if j < i then k + 1 else k)).1
def gR (z : List Nat) (k i j : Nat) : Nat := (gst (canon .f32 (z.getD j 0)) (if j < i then k + 1 else k)).2
def okG (z : List Nat) (r : Int) : Bool := decide (z.length ≤ 256) && (decide (0 ≤ r) && decide (r ≤ 20))
def vGatherRounding (z : List Nat) (r : Int) : Bool × List Nat × List Nat :=
  if okG z r = true then (true, (List.range z.length).map (gS z r.toNat 0), (List.range z.length).map (gR z r.toNat 0)) else (false, [], [])
theorem vGatherRounding_len (z : List Nat) (r : Int) : (vGatherRounding z r).2.1.length ≤ 1048576 ∧ (vGatherRounding z r).2.2.length ≤ 1048576 := by
  unfold vGatherRounding
  split
  · rename_i h
    simp only [okG, Bool.and_eq_true, decide_eq_true_eq] at h
    simp; omega
  · simp
/-- two lists and ok -/
def RetLL (b : Bool) (zs ts : List Nat) (w : World) (e : Ending) (w' : World) : Prop :=
  ∃ a c xs a' c' ys, e = .returned (.tuple #[.slice a xs.length c, .slice a' ys.length c', .bool b]) ∧ OwnF w' w.heap.size a c xs ∧ OwnF w' w.heap.size a' c' ys ∧ (∀ g, blk a = some g → blk a' ≠ some g) ∧ xs.map (canon .f32) = zs ∧ ys.map (canon .f32) = ts ∧ Below w.heap.size w w'
/-- the lists on the way -/
def GatAt (z : List Nat) (n gs gr B k i : Nat) (w wr : World) : Prop :=
  ∃ xs ys : List Nat, xs.length = n ∧ ys.length = n ∧ OwnF wr B (some ⟨gs, 0, none⟩) n xs ∧ OwnF wr B (some ⟨gr, 0, none⟩) n ys ∧ xs.map (canon .f32) = (List.range n).map (gS z k i) ∧ ys.map (canon .f32) = (List.range n).map (gR z k i) ∧ Below w.heap.size w wr
theorem map_set_range {f g : Nat → Nat} {n i v : Nat} {xs : List Nat} (hx : xs.map (canon .f32) = (List.range n).map f) (hv : canon .f32 v = g i) (hfg : ∀ j, j ≠ i → f j = g j) : (xs.set i v).map (canon .f32) = (List.range n).map g := by
  rw [List.map_set, hx, hv]
  apply List.ext_getElem (by simp)
  intro j h1 h2
  rw [List.getElem_set]
  split
  · rename_i e; subst e; simp
  · rename_i e; simp only [List.getElem_map, List.getElem_range]; exact hfg j (fun h => e h.symm)
theorem gS_next {z : List Nat} {k i j : Nat} (h : j ≠ i) : gS z k i j = gS z k (i + 1) j := by
  unfold gS
  by_cases h1 : j < i
  · rw [if_pos h1, if_pos (by omega)]
  · rw [if_neg h1, if_neg (by omega)]
theorem gR_next {z : List Nat} {k i j : Nat} (h : j ≠ i) : gR z k i j = gR z k (i + 1) j := by
  unfold gR
  by_cases h1 : j < i
  · rw [if_pos h1, if_pos (by omega)]
  · rw [if_neg h1, if_neg (by omega)]
theorem gS_end {z : List Nat} {k n j : Nat} (h : j < n) : gS z k n j = gS z (k + 1) 0 j := by unfold gS; rw [if_pos h, if_neg (by omega)]
theorem gR_end {z : List Nat} {k n j : Nat} (h : j < n) : gR z k n j = gR z (k + 1) 0 j := by unfold gR; rw [if_pos h, if_neg (by omega)]
theorem gat_end {z : List Nat} {n gs gr B k : Nat} {w wr : World} (h : GatAt z n gs gr B k n w wr) : GatAt z n gs gr B (k + 1) 0 w wr := by
  obtain ⟨xs, ys, h1, h2, h3, h4, h5, h6, h7⟩ := h
  exact ⟨xs, ys, h1, h2, h3, h4, h5.trans (List.map_congr_left fun j hj => gS_end (List.mem_range.1 hj)), h6.trans (List.map_congr_left fun j hj => gR_end (List.mem_range.1 hj)), h7⟩
theorem set_grown (w : World) (g i : Nat) (v : Value) : w.grownBy (w.setCell ⟨g, i, none⟩ v) (some g) := ⟨rfl, rfl, rfl, by simp, fun k _ hk => Below.heap_setCell w ⟨g, i, none⟩ v k (fun e => hk (by simp [e]))⟩
/-- one number's round -/
theorem gat_step {z : List Nat} {n gs gr B k i d u v : Nat} {w wr w1 : World} {xs ys : List Nat} (hne : gs ≠ gr) (hi : i < n) (hx : xs.length = n) (hy : ys.length = n) (ho : OwnF wr B (some ⟨gs, 0, none⟩) n xs) (hr : OwnF wr B (some ⟨gr, 0, none⟩) n ys)
    (ex : xs.map (canon .f32) = (List.range n).map (gS z k i)) (ey : ys.map (canon .f32) = (List.range n).map (gR z k i)) (hl : Below w.heap.size w wr) (hB : w.heap.size ≤ B) (hb : Below wr.heap.size wr w1) (hu : u < 2 ^ 32) (hv : v < 2 ^ 32)
    (cu : canon .f32 u = gS z k (i + 1) i) (cv : canon .f32 v = gR z k (i + 1) i) : GatAt z n gs gr B k (i + 1) w (((w1.setCell ⟨gr, i, none⟩ (.float .f32 v)).drewN d).setCell ⟨gs, i, none⟩ (.float .f32 u)) := by
  have ho1 := ho.kept hb
  have hr1 := hr.kept hb
  have hgs := (ho1.lt gs rfl).1
  have hgr := (hr1.lt gr rfl).1
  have hr2 := (own_set hr1 (show i < ys.length by omega) hv).drewN d
  have ho2 := (ho1.apart (b := some ⟨gr, 0, none⟩) (set_grown w1 gr i (.float .f32 v)) (fun g h h' => hne (by simp [blk] at h h'; omega))).drewN d
  have ho3 := own_set ho2 (show i < xs.length by omega) hu
  have hr3 := hr2.apart (b := some ⟨gs, 0, none⟩) (set_grown ((w1.setCell ⟨gr, i, none⟩ (.float .f32 v)).drewN d) gs i (.float .f32 u)) (fun g h h' => hne (by simp [blk] at h h'; omega))
  refine ⟨xs.set i u, ys.set i v, by simp [hx], by simp [hy], ho3, hr3, map_set_range ex cu (fun j h => gS_next h), map_set_range ey cv (fun j h => gR_next h), ?_⟩
  exact (below_drewN ((hl.trans (hb.mono hl.size)).setCell (Nat.le_trans hB hgr) _) d).setCell (Nat.le_trans hB hgs) _
theorem gat_cells {B g n i : Nat} {wr w1 : World} {ys : List Nat} (hi : i < n) (hy : ys.length = n) (ho : OwnF wr B (some ⟨g, 0, none⟩) n ys) (hb : Below wr.heap.size wr w1) : w1.cell? ⟨g, i, none⟩ = some (.float .f32 (ys.getD i 0)) ∧ w1.frozen? ⟨g, i, none⟩ = false := own_cell (ho.kept hb) (by omega)
theorem canon_at {f : Nat → Nat} {n i : Nat} {xs : List Nat} (hx : xs.map (canon .f32) = (List.range n).map f) (hi : i < n) : canon .f32 (xs.getD i 0) = f i := by
  have hl : xs.length = n := by simpa using congrArg List.length hx
  have := congrArg (fun l : List Nat => l[i]?) hx
  simp [hi, show i < xs.length by omega] at this
  simpa [List.getD, show i < xs.length by omega] using this
theorem gst_next (x k : Nat) : gst x (k + 1) = (cop .add .f32 (gst x k).1 (cbf (cop .add .f32 x (gst x k).2)), cop .sub .f32 (cop .add .f32 x (gst x k).2) (cbf (cop .add .f32 x (gst x k).2))) := rfl
theorem gS_at (z : List Nat) (k i : Nat) : gS z k i i = (gst (canon .f32 (z.getD i 0)) k).1 ∧ gR z k i i = (gst (canon .f32 (z.getD i 0)) k).2 ∧ gS z k (i + 1) i = (gst (canon .f32 (z.getD i 0)) (k + 1)).1 ∧ gR z k (i + 1) i = (gst (canon .f32 (z.getD i 0)) (k + 1)).2 := by
  unfold gS gR
  rw [if_neg (Nat.lt_irrefl i), if_pos (Nat.lt_succ_self i)]
  exact ⟨rfl, rfl, rfl, rfl⟩
/-- the numbers of one round, from those of the round before -/
theorem gat_vals {z : List Nat} {k i x s t y b : Nat} (hx : z.getD i 0 = x) (hs : canon .f32 s = gS z k i i) (ht : canon .f32 t = gR z k i i) (hy : canon .f32 y = cop .add .f32 (canon .f32 x) (canon .f32 t)) (hb : canon .f32 b = cbf (canon .f32 y)) (w1 w2 : World) :
    canon .f32 (fval .add .f32 s b w1) = gS z k (i + 1) i ∧ canon .f32 (fval .sub .f32 y b w2) = gR z k (i + 1) i := by
  obtain ⟨g1, g2, g3, g4⟩ := gS_at z k i
  rw [hx] at g1 g2 g3 g4
  rw [canon_fval, canon_fval, g3, g4, gst_next, hs, g1, hb, hy, ht, g2]
  exact ⟨rfl, rfl⟩
theorem gat_first {z : List Nat} {n gs gr B : Nat} {w wr : World} (ho : OwnF wr B (some ⟨gs, 0, none⟩) n (List.replicate n 0)) (hr : OwnF wr B (some ⟨gr, 0, none⟩) n (List.replicate n 0)) (hl : Below w.heap.size w wr) : GatAt z n gs gr B 0 0 w wr := by
  have e : ∀ f : Nat → Nat, (∀ j, f j = 0) → (List.replicate n 0).map (canon .f32) = (List.range n).map f := by
    intro f hf
    apply List.ext_getElem (by simp)
    intro j h1 h2
    simp [hf]
    decide +kernel
  exact ⟨_, _, by simp, by simp, ho, hr, e _ (fun j => by unfold gS; rw [if_neg (by omega)]; rfl), e _ (fun j => by unfold gR; rw [if_neg (by omega)]; rfl), hl⟩
theorem own_zeros {w : World} {B g n : Nat} (h : w.ownsRow B 22 1 (.slice (some ⟨g, 0, none⟩) n n) n (List.replicate n (Value.float .f32 0))) : OwnF w B (some ⟨g, 0, none⟩) n (List.replicate n 0) := by
  refine ⟨by simpa using h, fun y hy => ?_⟩
  rw [List.mem_replicate] at hy
  rw [hy.2]; decide
set_option maxRecDepth 20000 in
set_option maxHeartbeats 4000000 in
theorem t_sGatherRounding (z : List Nat) (r : Int) (a0 : Option Addr) (w : World) (h : IsFloats .f32 w a0 z.length z.length z) : Calls Try.prog 40 #[.slice a0 z.length z.length, .int .i64 r] w (RetLL (vGatherRounding z r).1 (vGatherRounding z r).2.1 (vGatherRounding z r).2.2 w) := by
  have HF := Lib.hid h
  have hmax : z.length ≤ 9223372036854775807 := by have := h.2.1; unfold maxLen at this; exact this
  obtain ⟨n, hn⟩ : ∃ n, z.length = n := ⟨_, rfl⟩
  have HN := Lib.hid hn
  cases h1 : decide (n ≤ 256) with
  | false =>
    have H1 := Lib.hid h1
    have HX := Lib.hid (show vGatherRounding z r = (false, [], []) by unfold vGatherRounding; rw [if_neg (by simp [okG, hn, h1])])
    rw [HX.out]
    rw [hn] at HF hmax ⊢
    clear h h1 hn HX
    go_enter Try.func40, Try.ntmps40
    go_wp2_with (go_at_call 73; refine (c_l01Few _ _ _ _).mono ?_; rintro e w' ⟨rfl, rfl⟩; rw [H1.out])
    go_ret3
    exact ⟨none, 0, [], none, 0, [], rfl, nil_own _ _, nil_own _ _, (fun g h => by cases h), rfl, rfl, Below.refl _ _⟩
  | true =>
    have H1 := Lib.hid h1
    cases h2 : (decide (0 ≤ r) && decide (r ≤ 20)) with
    | false =>
      have H2 := Lib.hid h2
      have HX := Lib.hid (show vGatherRounding z r = (false, [], []) by unfold vGatherRounding okG; rw [h2]; simp)
      rw [HX.out]
      rw [hn] at HF hmax ⊢
      clear h h1 h2 hn HX
      go_enter Try.func40, Try.ntmps40
      go_wp2_with (first | (go_at_call 73; refine (c_l01Few _ _ _ _).mono ?_; rintro e w' ⟨rfl, rfl⟩; rw [H1.out]) | (go_at_call 62; refine (c_l00In r 0 20 _ H2.out _).mono ?_; rintro e w' ⟨rfl, rfl⟩))
      go_ret3
      exact ⟨none, 0, [], none, 0, [], rfl, nil_own _ _, nil_own _ _, (fun g h => by cases h), rfl, rfl, Below.refl _ _⟩
    | true =>
      have H2 := Lib.hid h2
      have hfew : n ≤ 256 := by simpa using h1
      have HX := Lib.hid (show vGatherRounding z r = (true, (List.range n).map (gS z r.toNat 0), (List.range n).map (gR z r.toNat 0)) by unfold vGatherRounding okG; rw [h2, hn, h1]; rfl)
      simp only [Bool.and_eq_true, decide_eq_true_eq] at h2
      obtain ⟨R, rfl⟩ : ∃ R : Nat, r = R := ⟨r.toNat, by omega⟩
      have hR : R ≤ 20 := by omega
      rw [HX.out]
      rw [Int.toNat_natCast]
      rw [hn] at HF hmax ⊢
      obtain ⟨i0, hi, hz0, hz1, hz2⟩ := info_parts info_f32
      have HI := Lib.hid hi
      have HZ0 := Lib.hid hz0
      have HZ1 := Lib.hid hz1
      have HZ2 := Lib.hid hz2
      clear h h1 h2 hn HX hi hz0 hz1 hz2
      go_enter Try.func40, Try.ntmps40
      go_wp2_with (first | (go_at_call 73; refine (c_l01Few _ _ _ _).mono ?_; rintro e w' ⟨rfl, rfl⟩; rw [H1.out]) | (go_at_call 62; refine (c_l00In (R : Int) 0 20 _ H2.out _).mono ?_; rintro e w' ⟨rfl, rfl⟩) | (at_make; refine wpList_make_full _ rfl _ _ 33 rfl w.heap.size 22 i0 (.float .f32 0) 1 Try.underlying33 HI.out HZ0.out HZ1.out _ _ _ _ n rfl rfl rfl rfl ?c1 ?c2 ?c3 ?_))
      case c1 => rw [HZ2.out]; omega
      case c2 => unfold maxLen; omega
      case c3 => exact Nat.le_refl _
      intro w1 hown hgrow
      have hb1 : Below w.heap.size w w1 := (Below.refl _ _).grown hgrow (Nat.le_refl _) (fun k h => by cases h)
      rw [toList_madeCells_one] at hown
      have HO := Lib.hid (own_zeros hown)
      have HB := Lib.hid hb1
      have HL1 := Lib.hid (show w.heap.size < w1.heap.size from (HO.out.lt _ rfl).2)
      clear hown hb1 hgrow
      go_wp2_with (at_make; refine wpList_make_full _ rfl _ _ 33 rfl w.heap.size 22 i0 (.float .f32 0) 1 Try.underlying33 HI.out HZ0.out HZ1.out _ _ _ _ n rfl rfl rfl rfl ?c1 ?c2 ?c3 ?_)
      case c1 => rw [HZ2.out]; omega
      case c2 => unfold maxLen; omega
      case c3 => exact HB.out.size
      intro w2 hown hgrow
      have hb2 : Below w1.heap.size w1 w2 := (Below.refl _ _).grown hgrow (Nat.le_refl _) (fun k h => by cases h)
      rw [toList_madeCells_one] at hown
      have HST := Lib.hid (gat_first (z := z) (w := w) (HO.out.kept hb2) (own_zeros hown) (Below.next HB.out hb2))
      clear hown hb2 hgrow HO HB
      obtain ⟨gs, hgs⟩ : ∃ g, w.heap.size = g := ⟨_, rfl⟩
      obtain ⟨gr, hgr⟩ : ∃ g, w1.heap.size = g := ⟨_, rfl⟩
      have HNE := Lib.hid (show gs ≠ gr by have := HL1.out; omega)
      have HGS := Lib.hid hgs
      have HST2 := HST.out
      have HST3 := Lib.hid (show GatAt z n gs gr w.heap.size 0 0 w w2 by rw [← hgs, ← hgr]; exact HST2)
      clear HST HST2
      try rw [hgs]
      try rw [hgr]
      clear hgs hgr HL1
      go_wp2_with fail
      go_loopw [9] (fun i wr => ∃ k : Nat, k ≤ R ∧ i = .int .i64 k ∧ GatAt z n gs gr w.heap.size k 0 w wr) (fun i _ => R - (intOf i).toNat)
      case atStart => exact ⟨0, Nat.zero_le _, rfl, HST3.out⟩
      case round =>
        obtain ⟨k, hk, rfl, hg⟩ := hrel
        have HG := Lib.hid hg
        have hk0 : (0 : Int) ≤ (k : Int) := by omega
        clear hg HST3
        by_cases hlt : k < R
        · have hlt' : (k : Int) < (R : Int) := by omega
          go_wp2_with fail
          go_loopw [10] (fun i wr => ∃ j : Nat, j ≤ n ∧ i = .int .i64 j ∧ GatAt z n gs gr w.heap.size k j w wr) (fun i _ => n - (intOf i).toNat)
          case atStart => exact ⟨0, Nat.zero_le _, rfl, HG.out⟩
          case round =>
            obtain ⟨j, hj, rfl, hg⟩ := hrel
            have HGJ := Lib.hid hg
            have hj0 : (0 : Int) ≤ (j : Int) := by omega
            clear hg
            by_cases hlj : j < n
            · have hlj' : (j : Int) < (n : Int) := by omega
              obtain ⟨xs, ys, hx, hy, ho, hr, ex, ey, hl⟩ := HGJ.out
              rcases HF.out.2.2.2.2 with h' | ⟨ab, off, rfl, hab, hcell⟩
              · omega
              have hc := (hl.cell (p := ⟨ab, off + j, none⟩) hab).trans (hcell j hlj)
              obtain ⟨c1, f1⟩ := gat_cells hlj hx ho (Below.refl _ _)
              obtain ⟨c2, f2⟩ := gat_cells hlj hy hr (Below.refl _ _)
              have HS := Lib.hid (canon_at ex hlj)
              have HT := Lib.hid (canon_at ey hlj)
              have HO := Lib.hid ho
              have HR := Lib.hid hr
              have HX := Lib.hid ex
              have HY := Lib.hid ey
              have HXL := Lib.hid hx
              have HYL := Lib.hid hy
              have HL := Lib.hid hl
              obtain ⟨x, hx'⟩ : ∃ x, z.getD j 0 = x := ⟨_, rfl⟩
              have HZX := Lib.hid hx'
              rw [hx'] at hc
              obtain ⟨s, hs'⟩ : ∃ x, xs.getD j 0 = x := ⟨_, rfl⟩
              obtain ⟨t, ht'⟩ : ∃ x, ys.getD j 0 = x := ⟨_, rfl⟩
              rw [hs'] at c1 HS
              rw [ht'] at c2 HT
              have hne := HNE.out
              have hne' : ¬ gr = gs := fun h => hne h.symm
              clear hcell ho hr ex ey hx hy hl hx' hs' ht'
              go_wp2_with fail
              go_region
              all_goals
                go_wp2_with (go_at_call 74; refine (c_l01Bfloat _ (fval_lt .add .f32 _ _ _) _).mono ?_; rintro e w' ⟨rfl, d, rfl⟩)
                go_roundw
                case rel =>
                  obtain ⟨v1, v2⟩ := gat_vals HZX.out HS.out HT.out (canon_fval .add .f32 x t _) (cbf_of _) _ _
                  exact ⟨j + 1, hlj, by go_num, gat_step hne hlj HXL.out HYL.out HO.out HR.out HX.out HY.out HL.out (Nat.le_refl _) (below_drewN (Below.refl _ _) _) (fval_lt .add .f32 _ _ _) (fval_lt .sub .f32 _ _ _) v1 v2⟩
                case measure => simp [intOf]; omega
            · obtain rfl : j = n := by omega
              have HE := Lib.hid (gat_end HGJ.out)
              go_wp2_with fail
              go_roundw
              case rel => exact ⟨k + 1, hlt, by go_num, HE.out⟩
              case measure => simp [intOf]; omega
        · obtain rfl : k = R := by omega
          obtain ⟨xs, ys, hx, hy, ho, hr, ex, ey, hl⟩ := HG.out
          have HO := Lib.hid ho
          have HR := Lib.hid hr
          have HX := Lib.hid ex
          have HY := Lib.hid ey
          have HXL := Lib.hid hx
          have HYL := Lib.hid hy
          have HL := Lib.hid hl
          clear ho hr ex ey hx hy hl
          go_wp2_with fail
          go_ret3
          exact ⟨some ⟨gs, 0, none⟩, n, xs, some ⟨gr, 0, none⟩, n, ys, by rw [HXL.out, HYL.out]; rfl, HO.out, HR.out, (fun g h h' => HNE.out (by simp [blk] at h h'; omega)), HX.out, HY.out, HL.out⟩
end Go.Proofs.Ytgffcmmdmenefaa
