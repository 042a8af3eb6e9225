/-
  Gathering, in the program: all rounds. Conditions: the numbers can be read.
-/
import Derived.Test.YtgffcmmdmenefaaGam
import Derived.OwnWalk
namespace Go.Proofs.Ytgffcmmdmenefaa
open Go.RowKit Go.Deep Go.WideShapes Go.ChangeShapes Go.Maps
set_option linter.unusedVariables false
attribute [local go_sem] World.drewN_zero

def bnd (k : Nat) : Nat := 256 * k
theorem bnd_succ (k : Nat) : bnd (k + 1) = bnd k + 256 := Nat.mul_succ 256 k
theorem bnd_le {k : Nat} (h : k ≤ 20) : bnd k ≤ 5120 := Nat.mul_le_mul_left 256 h
def GatP (z : List Nat) (n gs M gb B k i : Nat) (w wr : World) : Prop :=
  ∃ (xs : List Nat) (m : Nat), xs.length = n ∧ m ≤ bnd k + i ∧ OwnF wr B (some ⟨gs, 0, none⟩) n xs ∧ xs.map (canon .f32) = (List.range n).map (gS z k i) ∧ MapAt wr M m n (gR z k i) ∧
    Blk wr gb 83 #[.slice (some ⟨gs, 0, none⟩) n n, .map (some M)] ∧ Below w.heap.size w wr
theorem mapAt_congr {w : World} {M m n : Nat} {T T' : Nat → Nat} (h : MapAt w M m n T) (he : ∀ j, j < n → T j = T' j) : MapAt w M m n T' := by
  obtain ⟨D, h1, h2, h3⟩ := h
  exact ⟨D, h1, h2, fun j hj => by obtain ⟨b, hb, hb2, hb3⟩ := h3 j hj; exact ⟨b, hb, hb2.trans (he j hj), hb3⟩⟩
theorem mapAt_mono {w : World} {M m m' n : Nat} {T : Nat → Nat} (h : MapAt w M m n T) (hm : m ≤ m') : MapAt w M m' n T := by
  obtain ⟨D, h1, h2⟩ := h
  exact ⟨D, h1.mono hm, h2⟩
theorem nextT_eq {z : List Nat} {k i x : Nat} (hx : z.getD i 0 = x) (j : Nat) : nextT (gR z k i) x i j = gR z k (i + 1) j := by
  unfold nextT
  by_cases h : j = i
  · subst h
    obtain ⟨g1, g2, g3, g4⟩ := gS_at z k j
    rw [if_pos rfl, g2, g4, gst_next, hx]
  · rw [if_neg h]; exact gR_next h
theorem gatP_end {z : List Nat} {n gs M gb B k : Nat} {w wr : World} (hn : n ≤ 256) (h : GatP z n gs M gb B k n w wr) : GatP z n gs M gb B (k + 1) 0 w wr := by
  obtain ⟨xs, m, h1, h2, h3, h4, h5, h6, h7⟩ := h
  have hm : m ≤ bnd (k + 1) + 0 := by rw [bnd_succ]; omega
  exact ⟨xs, m, h1, hm, h3, h4.trans (List.map_congr_left fun j hj => gS_end (List.mem_range.1 hj)), mapAt_congr h5 (fun j hj => gR_end hj), h6, h7⟩
theorem gatP_step {z : List Nat} {n gs M gb k i x m : Nat} {xs : List Nat} {w wr w' : World} (hx : z.getD i 0 = x) (hi : i < n) (hl : xs.length = n) (hm : m ≤ bnd k + i) (ex : xs.map (canon .f32) = (List.range n).map (gS z k i)) (hb : Blk wr gb 83 #[.slice (some ⟨gs, 0, none⟩) n n, .map (some M)])
    (hg1 : gb ≠ gs) (hg2 : gb ≠ M) (hlw : Below w.heap.size w wr) {B : Nat} (hB : w.heap.size = B) (hr : GathRet B gs M m n i x (gR z k i) xs wr w') : GatP z n gs M gb B k (i + 1) w w' := by
  subst hB
  obtain ⟨u, hu, hcu, ho, hmap, hbl, hsz, hoth⟩ := hr
  obtain ⟨g1, g2, g3, g4⟩ := gS_at z k i
  refine ⟨xs.set i u, m + 1, by simp [hl], by omega, ho, map_set_range ex ?_ (fun j h => gS_next h), mapAt_congr hmap (fun j _ => nextT_eq hx j), (hoth gb hb.lt hg1 hg2).trans hb, hlw.trans hbl⟩
  rw [hcu, g3, gst_next, canon_at ex hi, g1, g2, hx]
theorem rest_empty (n : Nat) (z : List Nat) : RestD n (gR z 0 0) (.map []) := by
  refine ⟨fun x h => (by cases h), fun j _ => ⟨0, by decide, ?_, rfl⟩⟩
  unfold gR
  rw [if_neg (by omega)]
  show canon .f32 0 = 0
  decide +kernel
set_option maxRecDepth 20000 in
set_option maxHeartbeats 4000000 in
theorem t_iGatherRounding (z : List Nat) (r : Int) (a0 : Option Addr) (w : World) (h : IsFloats .f32 w a0 z.length z.length z) : Calls Try.prog 41 #[.slice a0 z.length z.length, .int .i64 r] w (RetLL (vGatherRounding z r).1 (vGatherRounding z r).2.1 (vGatherRounding z r).2.2 w) := by
  have HF := Lib.hid h
  have hmax : z.length ≤ 9223372036854775807 := by have := h.2.1; unfold maxLen at this; exact this
  obtain ⟨n, hn⟩ : ∃ n, z.length = n := ⟨_, rfl⟩
  have HN := Lib.hid hn
  have hno : ¬ (n ≤ 256 ∧ 0 ≤ r ∧ r ≤ 20) → vGatherRounding z r = (false, [], []) := fun hh => by
    unfold vGatherRounding
    rw [if_neg]
    intro ho
    simp only [okG, hn, Bool.and_eq_true, decide_eq_true_eq] at ho
    exact hh ⟨ho.1, ho.2.1, ho.2.2⟩
  by_cases h1 : n ≤ 256
  case neg =>
    have HX := Lib.hid (hno (fun hh => h1 hh.1))
    have h1' : (256 : Int) < (n : Int) := by omega
    rw [HX.out]
    rw [hn] at hmax ⊢
    clear h h1 hn hno HX
    go_enter Try.func41, Try.ntmps41
    go_wp2_with fail
    go_ret3
    exact ⟨none, 0, [], none, 0, [], rfl, nil_own _ _, nil_own _ _, (fun g h => by cases h), rfl, rfl, Below.refl _ _⟩
  by_cases h2 : 0 ≤ r
  case neg =>
    have HX := Lib.hid (hno (fun hh => h2 hh.2.1))
    have h1' : (n : Int) ≤ 256 := by omega
    have h2' : r ≤ -1 := by omega
    rw [HX.out]
    rw [hn] at hmax ⊢
    clear h h1 h2 hn hno HX
    go_enter Try.func41, Try.ntmps41
    go_wp2_with fail
    go_ret3
    exact ⟨none, 0, [], none, 0, [], rfl, nil_own _ _, nil_own _ _, (fun g h => by cases h), rfl, rfl, Below.refl _ _⟩
  by_cases h3 : r ≤ 20
  case neg =>
    have HX := Lib.hid (hno (fun hh => h3 hh.2.2))
    have h1' : (n : Int) ≤ 256 := by omega
    have h3' : 21 ≤ r := by omega
    rw [HX.out]
    rw [hn] at hmax ⊢
    clear h h1 h3 hn hno HX
    go_enter Try.func41, Try.ntmps41
    go_wp2_with fail
    go_ret3
    exact ⟨none, 0, [], none, 0, [], rfl, nil_own _ _, nil_own _ _, (fun g h => by cases h), rfl, rfl, Below.refl _ _⟩
  have HX := Lib.hid (show vGatherRounding z r = (true, (List.range n).map (gS z r.toNat 0), (List.range n).map (gR z r.toNat 0)) by unfold vGatherRounding okG; rw [hn, decide_eq_true h1, decide_eq_true h2, decide_eq_true h3]; rfl)
  obtain ⟨R, rfl⟩ : ∃ R : Nat, r = R := ⟨r.toNat, by omega⟩
  have hR : R ≤ 20 := by omega
  rw [HX.out]
  rw [Int.toNat_natCast]
  rw [hn] at HF hmax ⊢
  obtain ⟨i0, hi, hz0, hz1, hz2⟩ := info_parts info_f32
  have HI := Lib.hid hi
  have HZ0 := Lib.hid hz0
  have HZ1 := Lib.hid hz1
  have HZ2 := Lib.hid hz2
  have hmm := @run_makeMap Try.prog
  clear h h2 h3 hn HX hi hz0 hz1 hz2 hno
  go_enter Try.func41, Try.ntmps41
  go_wp2_with (at_make; refine wpList_make_full _ rfl _ _ 33 rfl w.heap.size 22 i0 (.float .f32 0) 1 Try.underlying33 HI.out HZ0.out HZ1.out _ _ _ _ n rfl rfl rfl rfl ?c1 ?c2 ?c3 ?_)
  case c1 => rw [HZ2.out]; omega
  case c2 => unfold maxLen; omega
  case c3 => exact Nat.le_refl _
  intro w1 hown hgrow
  have hb1 : Below w.heap.size w w1 := (Below.refl _ _).grown hgrow (Nat.le_refl _) (fun k h => by cases h)
  rw [toList_madeCells_one] at hown
  have HO := Lib.hid (own_zeros hown)
  have HB := Lib.hid hb1
  have HL1 := Lib.hid (show w.heap.size < w1.heap.size from (HO.out.lt _ rfl).2)
  clear hown hb1 hgrow
  go_wp2_with fail
  have al1 := (Below.refl w1.heap.size w1).alloc (Nat.le_refl _) (.map #[] 0)
  have al2 := al1.alloc al1.size (.cells #[.slice (some ⟨w.heap.size, 0, none⟩) n n, .map (some w1.heap.size)] 83)
  have HST := Lib.hid (show GatP z n w.heap.size w1.heap.size (w1.heap.size + 1) w.heap.size 0 0 w ((w1.alloc (.map #[] 0)).alloc (.cells #[.slice (some ⟨w.heap.size, 0, none⟩) n n, .map (some w1.heap.size)] 83)) from by
    have k := Blk.new (w1.alloc (.map #[] 0)) 83 #[.slice (some ⟨w.heap.size, 0, none⟩) n n, .map (some w1.heap.size)]
    rw [World.size_alloc] at k
    refine ⟨List.replicate n 0, 0, by simp, Nat.zero_le _, HO.out.kept al2, ?_, ⟨.map [], (World.ownsMap_made w1 Try.prog 3 RF).alloc _, rest_empty n z⟩, k, Below.next HB.out al2⟩
    apply List.ext_getElem (by simp)
    intro j h1 h2
    simp only [List.getElem_map, List.getElem_replicate, List.getElem_range]
    unfold gS
    rw [if_neg (by omega)]
    show canon .f32 0 = 0
    decide +kernel)
  generalize (w1.alloc (.map #[] 0)).alloc (.cells #[.slice (some ⟨w.heap.size, 0, none⟩) n n, .map (some w1.heap.size)] 83) = w2 at *
  obtain ⟨M, hM⟩ : ∃ g, w1.heap.size = g := ⟨_, rfl⟩
  obtain ⟨gb, hgb⟩ : ∃ g, M + 1 = g := ⟨_, rfl⟩
  obtain ⟨gs, hgs⟩ : ∃ g, w.heap.size = g := ⟨_, rfl⟩
  have HGS := Lib.hid hgs
  have HN1 := Lib.hid (show M ≠ gs ∧ gb ≠ gs ∧ gb ≠ M ∧ gs ≤ M by have := HL1.out; omega)
  have HST2 := HST.out
  rw [hM, hgb, hgs] at HST2
  have HST3 := Lib.hid HST2
  clear al1 al2 HST HST2 HO HB HL1
  simp only [hM, hgs]
  simp only [hgb]
  clear hgb hM hgs hmm
  go_loopw [27] (fun i wr => ∃ k : Nat, k ≤ R ∧ i = .int .i64 k ∧ GatP z n gs M gb gs k 0 w wr) (fun i _ => R - (intOf i).toNat)
  case atStart => exact ⟨0, Nat.zero_le _, rfl, HST3.out⟩
  case round =>
    obtain ⟨k, hk, rfl, hg⟩ := hrel
    have HG := Lib.hid hg
    have hk0 : (0 : Int) ≤ (k : Int) := by omega
    clear hg HST3
    by_cases hlt : k < R
    · have hlt' : (k : Int) < (R : Int) := by omega
      go_wp2_with fail
      go_loopw [31] (fun i wr => ∃ j : Nat, j ≤ n ∧ i = .int .i64 j ∧ GatP z n gs M gb gs k j w wr) (fun i _ => n - (intOf i).toNat)
      case atStart => exact ⟨0, Nat.zero_le _, rfl, HG.out⟩
      case round =>
        obtain ⟨j, hj, rfl, hg⟩ := hrel
        have HGJ := Lib.hid hg
        have hj0 : (0 : Int) ≤ (j : Int) := by omega
        clear hg
        by_cases hlj : j < n
        · have hlj' : (j : Int) < (n : Int) := by omega
          obtain ⟨xs, m, hx, hm, ho, ex, hmap, hb, hl⟩ := HGJ.out
          rcases HF.out.2.2.2.2 with h' | ⟨ab, off, rfl, hab, hcell⟩
          · omega
          have hc := (hl.cell (p := ⟨ab, off + j, none⟩) hab).trans (hcell j hlj)
          have hxl : z.getD j 0 < 4294967296 := HF.out.2.2.2.1 _ (by simp [List.getD, show j < z.length by rw [HN.out]; exact hlj])
          have HSTEP := Lib.hid (fun x (hx' : z.getD j 0 = x) w' (hr : GathRet gs gs M m n j x (gR z k j) xs wr w') => gatP_step hx' hlj hx hm ex hb HN1.out.2.1 HN1.out.2.2.1 hl HGS.out hr)
          obtain ⟨x, hx'⟩ : ∃ x, z.getD j 0 = x := ⟨_, rfl⟩
          rw [hx'] at hc hxl
          have HST4 := Lib.hid (HSTEP.out x hx')
          have HCALL := Lib.hid (c_gather gs gs M m n j x (gR z k j) xs wr (by have := hl.size; rw [← HGS.out]; exact this) HN1.out.2.2.2 HN1.out.1 hlj h1 (by have := bnd_le (show k ≤ 20 by omega); omega) hx hxl ho hmap)
          have p0 : wr.cell? ⟨gb, 0, none⟩ = some (.slice (some ⟨gs, 0, none⟩) n n) := hb.cell 0
          have p1 : wr.cell? ⟨gb, 1, none⟩ = some (.map (some M)) := hb.cell 1
          clear hcell hx' hxl HSTEP hx hm ho ex hmap hb hl
          go_wp2_with fail
          refine HCALL.out.mono ?_
          rintro e w3 ⟨rfl, hr⟩
          have HN3 := Lib.hid (HST4.out w3 hr)
          clear hr p0 p1
          go_wp2_with fail
          go_roundw
          case rel => exact ⟨j + 1, hlj, by go_num, HN3.out⟩
          case measure => simp [intOf]; omega
        · obtain rfl : j = n := by omega
          have HE := Lib.hid (gatP_end h1 HGJ.out)
          go_wp2_with fail
          go_roundw
          case rel => exact ⟨k + 1, hlt, by go_num, HE.out⟩
          case measure => simp [intOf]; omega
    · obtain rfl : k = R := by omega
      obtain ⟨xs, m, hx, hm, ho, ex, hmap, hb, hl⟩ := HG.out
      have HO := Lib.hid ho
      have HX := Lib.hid ex
      have HXL := Lib.hid hx
      have HL := Lib.hid hl
      have HMP := Lib.hid (show MapAt wr.drew M m n (gR z k 0) from hmap)
      have HCR := Lib.hid (c_allRests gs M m n (gR z k 0) wr.drew h1 HMP.out)
      have HBK := Lib.hid hb
      have p0 : wr.cell? ⟨gb, 0, none⟩ = some (.slice (some ⟨gs, 0, none⟩) n n) := hb.cell 0
      have p1 : wr.cell? ⟨gb, 1, none⟩ = some (.map (some M)) := hb.cell 1
      clear ho ex hmap hb hl hx hm
      go_wp2_with fail
      go_region_with (go_at_call 76; refine HCR.out.mono ?_; rintro e w3 ⟨a, c, ys, rfl, hyo, hye, hbl⟩; have hbl2 := ((Below.refl wr.heap.size wr).drew).trans hbl; have HBL := Lib.hid hbl2; have HYO := Lib.hid hyo; have HYE := Lib.hid hye; have q0 : w3.cell? ⟨gb, 0, none⟩ = some (.slice (some ⟨gs, 0, none⟩) n n) := (HBK.out.below hbl2).cell 0; have q1 : w3.cell? ⟨gb, 1, none⟩ = some (.map (some M)) := (HBK.out.below hbl2).cell 1; clear hbl hbl2 hyo hye)
      all_goals
        go_wp2_with fail
        go_ret3
        exact ⟨some ⟨gs, 0, none⟩, n, xs, a, c, ys, by rw [HXL.out]; rfl, (HO.out.kept HBL.out).base (Nat.le_of_eq HGS.out), HYO.out.base HL.out.size, (fun g h h' => by have h1 := (HO.out.lt g h).2; have h2 := (HYO.out.lt g h').1; simp at h2; omega), HX.out, HYE.out, HL.out.trans (HBL.out.mono HL.out.size)⟩
end Go.Proofs.Ytgffcmmdmenefaa
