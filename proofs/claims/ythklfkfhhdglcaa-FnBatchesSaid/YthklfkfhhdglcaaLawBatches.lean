/-
  Shuffled rows are each row once, and the batches of an epoch have each row once, and no more rows than a batch. Conditions: none.
-/
import Derived.Test.YthklfkfhhdglcaaCnt
import Derived.ChangeOld
import Derived.Below
namespace Go.Proofs.Ythklfkfhhdglcaa.fnBatches
open Go.ChangeShapes Go.WideShapes Go.ChangeAt Go.RowKit
open Go.ChangeMaps (open_string shut_string)
set_option linter.unusedVariables false

/-- the row of counts -/
def SeenAt (n g : Nat) (L : List Int) (B : Nat) (W wr : World) : Prop := OwnI wr B (some ⟨g, 0, none⟩) n (cntI L n) ∧ L.length ≤ 100 ∧ Below B W wr
theorem SeenAt.next {n g q B : Nat} {L : List Int} {W wr : World} (h : SeenAt n g L B W wr) (hq : q < n) (hl : L.length ≤ 99) : SeenAt n g (L ++ [(q : Int)]) B W (wr.setCell ⟨g, q, none⟩ (.int .i64 (((L.count (q : Int) : Nat) : Int) + 1))) :=
  ⟨cnt_step h.1 hq h.2.1, by simp; omega, h.2.2.setCell (p := ⟨g, q, none⟩) (h.1.lt g rfl).1 _⟩
theorem SeenAt.kept {n g B : Nat} {L : List Int} {W wr w' : World} (h : SeenAt n g L B W wr) (hb : Below wr.heap.size wr w') (hB : B ≤ wr.heap.size) : SeenAt n g L B W w' := ⟨h.1.kept hb, h.2.1, h.2.2.trans (hb.mono hB)⟩
theorem SeenAt.cell {n g q B : Nat} {L : List Int} {W wr : World} (h : SeenAt n g L B W wr) (hq : q < n) : wr.cell? ⟨g, q, none⟩ = some (.int .i64 ((L.count (q : Int) : Nat) : Int)) ∧ wr.frozen? ⟨g, q, none⟩ = false := by
  have := ownI_cell h.1 (show q < (cntI L n).length by rw [cntI_length]; exact hq)
  rw [cntI_at hq] at this
  exact this
def RowsRel (n g : Nat) (Z : List Int) (B : Nat) (W : World) (iv : Value) (wr : World) : Prop := ∃ i : Nat, i ≤ n ∧ iv = .int .i64 i ∧ SeenAt n g (Z.take i) B W wr
def PartsRel (n b k g : Nat) (Z O : List Int) (B : Nat) (W : World) (rv : Value) (wr : World) : Prop := ∃ r : Nat, r ≤ k ∧ rv = .int .i64 r ∧ SeenAt n g (Z ++ O.take (r * b)) B W wr
theorem own_off {w : World} {B g c G q : Nat} {ys : List Int} {v : Value} (h : OwnI w B (some ⟨g, 0, none⟩) c ys) (hne : g ≠ G) : OwnI (w.setCell ⟨G, q, none⟩ v) B (some ⟨g, 0, none⟩) c ys :=
  h.apart (b := some ⟨G, 0, none⟩) ⟨rfl, rfl, rfl, by simp, fun k _ hk => Below.heap_setCell w ⟨G, q, none⟩ v k (fun e => hk (by simp [blk, e]))⟩ (fun k h1 h2 => hne (by simp [blk] at h1 h2; omega))
def PartRel (n g gp c5 : Nat) (L0 P : List Int) (B : Nat) (W : World) (iv : Value) (wr : World) : Prop := ∃ i : Nat, i ≤ P.length ∧ iv = .int .i64 i ∧ SeenAt n g (L0 ++ P.take i) B W wr ∧ OwnI wr 0 (some ⟨gp, 0, none⟩) c5 P
def LookRel (n : Nat) (W : World) (iv : Value) (wr : World) : Prop := ∃ i : Nat, i ≤ n ∧ iv = .int .i64 i ∧ wr = W
theorem take_one {Z : List Int} {i : Nat} (h : i < Z.length) : Z.take (i + 1) = Z.take i ++ [Z.getD i 0] := by
  rw [List.take_succ_eq_append_getElem h]
  simp [List.getD, h]

set_option maxRecDepth 20000 in
set_option maxHeartbeats 4000000 in
theorem walk (a0 : Option Addr) (len0 cap0 : Nat) (z0 : List Int) (a1 : Option Addr) (len1 cap1 : Nat) (z1 : List Int) (w : World) (w0 : IsRow .u8 w a0 len0 cap0 z0) (w1 : IsRow .u8 w a1 len1 cap1 z1) :
    Calls Try.prog 3 #[.slice a0 len0 cap0, .slice a1 len1 cap1] w fun e w' => e = .returned (.bool true) ∧ Below w.heap.size w w' := by
  obtain ⟨hm0, hm1, rfl⟩ : len0 ≤ cap0 ∧ cap0 ≤ maxLen ∧ z0.length = len0 := ⟨w0.1, w0.2.1, w0.2.2.1⟩
  obtain ⟨hn0, hn1, rfl⟩ : len1 ≤ cap1 ∧ cap1 ≤ maxLen ∧ z1.length = len1 := ⟨w1.1, w1.2.1, w1.2.2.1⟩
  have HI0 := Lib.hid w0
  have HI1 := Lib.hid w1
  clear hm0 hm1 hn0 hn1 w0 w1
  by_cases hL : 1048576 < z0.length ∨ 1048576 < z1.length
  · have HL := Lib.hid hL
    clear hL
    go_enter Try.func3, Try.ntmps3
    go_wp2_with fail
    refine (c_b10Long_yes _ _ _ _ _ _ HL.out _).mono ?_
    rintro e w' ⟨rfl, rfl⟩
    go_wp2_with fail
    go_ret
    exact ⟨rfl, Below.refl _ _⟩
  · have HL0 := Lib.hid (show z0.length ≤ 1048576 by omega)
    have HL1 := Lib.hid (show z1.length ≤ 1048576 by omega)
    obtain ⟨i0, hi, hz0, hz1, hz2⟩ := info_parts info_j64
    have JI := Lib.hid hi
    have HZ0 := Lib.hid hz0
    have HZ1 := Lib.hid hz1
    have HZ2 := Lib.hid hz2
    clear hL hi hz0 hz1 hz2
    go_enter Try.func3, Try.ntmps3
    go_wp2_with fail
    refine (c_b10Long_no _ _ _ _ _ _ HL0.out HL1.out _).mono ?_
    rintro e w' ⟨rfl, rfl⟩
    go_wp2_with fail
    refine (c_b10At _ _ _ z0 0 16 _ HI0.out (by decide) (by decide) (by decide)).mono ?_
    rintro e w3 ⟨v0, p0, p1, rfl, rfl⟩
    obtain ⟨n', rfl⟩ := Int.eq_ofNat_of_zero_le p0
    have hn' : n' ≤ 15 := by omega
    clear p0 p1
    go_wp2_with fail
    refine (c_b10At _ _ _ z0 1 8 _ HI0.out (by decide) (by decide) (by decide)).mono ?_
    rintro e w3 ⟨v1, p0, p1, rfl, rfl⟩
    obtain ⟨b', rfl⟩ := Int.eq_ofNat_of_zero_le p0
    have hb' : b' ≤ 7 := by omega
    clear p0 p1
    go_wp2_with fail
    refine (c_b10At _ _ _ z1 0 256 _ HI1.out (by decide) (by decide) (by decide)).mono ?_
    rintro e w3 ⟨v2, p0, p1, rfl, rfl⟩
    go_wp2_with fail
    refine (c_b10At _ _ _ z1 1 256 _ HI1.out (by decide) (by decide) (by decide)).mono ?_
    rintro e w3 ⟨v3, p2, p3, rfl, rfl⟩
    obtain ⟨s, hs⟩ : ∃ s, 65536 * v2 + v3 = s := ⟨_, rfl⟩
    have hs1 : 0 ≤ s := by omega
    have hs2 : s ≤ 2147483647 := by omega
    go_wp2_with fail
    refine (c_b10At _ _ _ z1 2 20 _ HI1.out (by decide) (by decide) (by decide)).mono ?_
    rintro e w3 ⟨v4, q0, q1, rfl, rfl⟩
    obtain ⟨ep, rfl⟩ := Int.eq_ofNat_of_zero_le q0
    have hep : ep ≤ 19 := by omega
    obtain ⟨n, hn⟩ : ∃ n, 1 + n' = n := ⟨_, rfl⟩
    obtain ⟨b, hb⟩ : ∃ n, 1 + b' = n := ⟨_, rfl⟩
    have hn2 : (1 : Int) + (n' : Int) = (n : Int) := by omega
    have hb2 : (1 : Int) + (b' : Int) = (b : Int) := by omega
    have n1 : 1 ≤ n := by omega
    have n16 : n ≤ 16 := by omega
    have b1 : 1 ≤ b := by omega
    have b8 : b ≤ 8 := by omega
    have hn1I : (1 : Int) ≤ (n : Int) := by omega
    have hb1I : (1 : Int) ≤ (b : Int) := by omega
    have HCS := Lib.hid (fun w => t_iShuffleRows n s w)
    rw [vShuffleRows_yes (by simp [isSideV]; omega) (by simp [isSeedV, hs1, hs2])] at HCS
    have HCN := Lib.hid (fun w => t_iNextSeed s w)
    rw [vNextSeed_yes (by simp [isSeedV, hs1, hs2])] at HCN
    have HCB := Lib.hid (fun (t : Nat) (ht : t ≤ 1000) w => show Calls _ _ _ w (RetI true (batRows n b s t) w) from by
      have := t_iBatchOf n b s t w
      rw [vBatchOf_yes (by simp [okBat, isSideV, isSeedV, isStepV, hs1, hs2]; omega)] at this
      exact this)
    have HPZ := Lib.hid (shufR_perm n1 s)
    have HLZ := Lib.hid (shufR_length n1 s)
    have HMZ := Lib.hid (fun y hy => shufR_mem n1 s (y := y) hy)
    have hrz := shufR_rng n (s := s) ⟨hs1, hs2⟩
    have hrn := nextS_rng s
    have H2 := Lib.hid (fun (h : n = 2) => show (shufR n s).2 = nextS s by subst h; rfl)
    obtain ⟨⟨Z, last⟩, hZ⟩ : ∃ Z, shufR n s = Z := ⟨_, rfl⟩
    rw [hZ] at HCS HPZ HLZ HMZ hrz H2
    obtain ⟨nx, hnx⟩ : ∃ x, nextS s = x := ⟨_, rfl⟩
    rw [hnx] at HCN hrn H2
    obtain ⟨hr1, hr2⟩ := hrz
    obtain ⟨hr3, hr4⟩ := hrn
    simp only at hr1 hr2
    clear p0 p1 p2 p3 q0 q1 hn hb hZ hnx
    go_wp2_with fail
    refine (HCS.out _).mono ?_
    rintro e w2 ⟨a, cp, ys, rfl, ho, hy, hbl⟩
    simp only at hy
    subst hy
    have HO := Lib.hid ho
    have HB := Lib.hid hbl
    have hzl : ys.length = n := HLZ.out
    rw [hzl]
    clear ho hbl hzl
    go_wp2_with fail
    refine (HCN.out _).mono ?_
    rintro e w3 ⟨rfl, hbl⟩
    have HB3 := Lib.hid (Below.next' HB.out hbl)
    have HO3 := Lib.hid (HO.out.kept hbl)
    clear hbl HB HO
    go_upto_region 9 with fail
    go_cut [87] (fun v wx => v = .bool false ∧ w3 = wx)
    case first =>
      have hd1 : decide (last < 0) = false := by simp; omega
      have hd2 : decide ((2147483647 : Int) < last) = false := by simp; omega
      have hd3 : decide (nx < 0) = false := by simp; omega
      have hd4 : decide ((2147483647 : Int) < nx) = false := by simp; omega
      by_cases h2 : n = 2
      · have hqe : ((n : Int) == 2) = true := by simp; omega
        have h2e : last = nx := H2.out h2
        have hq1 : (last == nx) = true := by simp [h2e]
        have hq2 : (last != nx) = false := by simp [h2e]
        clear h2 h2e
        go_wp2_with fail
        go_meet
        exact ⟨rfl, rfl⟩
      · have hqe : ((n : Int) == 2) = false := by simp; omega
        clear h2
        go_wp2_with fail
        go_meet
        exact ⟨rfl, rfl⟩
    case rest =>
      obtain ⟨rfl, rfl⟩ := hcut
      obtain ⟨g, hga, hg1, hg2⟩ := ownI_some HO3.out (by rw [HLZ.out]; omega)
      subst hga
      have HG := Lib.hid hg1
      clear hg1 hg2
      skip
      go_wp2_with (at_make; refine wpList_make_full _ rfl _ _ 25 rfl w3.heap.size 2 i0 (.int .i64 0) 1 Try.underlying25 JI.out HZ0.out HZ1.out _ _ _ _ n rfl rfl rfl rfl ?c1 ?c2 ?c3 ?_)
      case c1 => rw [HZ2.out]; omega
      case c2 => unfold maxLen; omega
      case c3 => exact Nat.le_refl _
      intro w4 hown hgrow
      have hb1 : Below w3.heap.size w3 w4 := (Below.refl _ _).grown hgrow (Nat.le_refl _) (fun k h => by cases h)
      rw [toList_madeCells_one] at hown
      obtain ⟨G, hG⟩ : ∃ G, w3.heap.size = G := ⟨_, rfl⟩
      have HWG := Lib.hid hG
      rw [hG] at hown hb1
      have HSE := Lib.hid (show SeenAt n G [] G w3 w4 from ⟨⟨by rw [cntI_length, cntI_nil, List.map_replicate]; exact hown, fun y hy => by rw [cntI_nil] at hy; rw [List.eq_of_mem_replicate hy]; decide⟩, by simp, hb1⟩)
      have HOG := Lib.hid (show ∀ wx, Below G w3 wx → ∀ i, i < n → wx.cell? ⟨g, i, none⟩ = some (.int .i64 (ys.getD i 0)) from fun wx hx i hi => by
        have h1 := (ownI_cell HO3.out (show i < ys.length by rw [HLZ.out]; exact hi)).1
        exact (hx.cell (p := ⟨g, i, none⟩) (by rw [← hG]; exact (HO3.out.lt g rfl).2)).trans h1)
      rw [hG]
      clear hown hgrow hb1 hG
      go_wp2_with fail
      go_loopw [15] (fun iv wr => RowsRel n G ys G w3 iv wr) (fun iv _ => n - (intOf iv).toNat)
      case atStart => exact ⟨0, Nat.zero_le _, rfl, HSE.out⟩
      case round =>
        obtain ⟨i, hi, rfl, hse⟩ := hrel
        have HS := Lib.hid hse
        have hi0 : (0 : Int) ≤ (i : Int) := by omega
        clear hse HSE
        by_cases hlt : i < n
        · have hlt' : (i : Int) < (n : Int) := by omega
          have c1 := HOG.out wr HS.out.2.2 i hlt
          have hx := HMZ.out (ys.getD i 0) (by simp [List.getD, show i < ys.length by rw [HLZ.out]; exact hlt])
          have HTK := Lib.hid (take_one (show i < ys.length by rw [HLZ.out]; exact hlt))
          obtain ⟨x, hxx⟩ : ∃ x, ys.getD i 0 = x := ⟨_, rfl⟩
          rw [hxx] at c1 hx HTK
          obtain ⟨q, rfl⟩ := Int.eq_ofNat_of_zero_le hx.1
          have hq : q < n := by omega
          have hqI : (q : Int) < (n : Int) := by omega
          have hq0 : (0 : Int) ≤ (q : Int) := by omega
          obtain ⟨c2, f2⟩ := HS.out.cell hq
          have hcl : ys.take i |>.count (q : Int) |> (· ≤ 100) := Nat.le_trans List.count_le_length HS.out.2.1
          have HNX := Lib.hid (HS.out.next hq (by rw [List.length_take]; omega))
          obtain ⟨c, hc⟩ : ∃ c, (ys.take i).count (q : Int) = c := ⟨_, rfl⟩
          simp only [hc] at c2 hcl
          have HC := Lib.hid hc
          clear hxx hx hc
          go_wp2_with fail
          go_roundw
          case rel => exact ⟨i + 1, hlt, by go_num, by have h1 := HNX.out; rw [HC.out, ← HTK.out] at h1; exact h1⟩
          case measure => simp [intOf]; omega
        · obtain rfl : i = n := by omega
          have HS0 := Lib.hid (show SeenAt i G ys G w3 wr by have h1 := HS.out; rw [List.take_of_length_le (by rw [HLZ.out]; omega)] at h1; exact h1)
          have hK1 := batK_pos n1 b1
          have hK2 := batK_le n16 b1 (by omega)
          have hKd : (((i : Int) + (b : Int) - 1) / (b : Int)) = ((batK i b : Nat) : Int) := by unfold batK; rw [Int.natCast_ediv]; congr 1; omega
          obtain ⟨k, hk⟩ : ∃ k, batK i b = k := ⟨_, rfl⟩
          rw [hk] at hK1 hK2 hKd
          have HK := Lib.hid hk
          obtain ⟨s2, hs2'⟩ : ∃ s2, (s + 7919 * (ep : Int)) % 2147483648 = s2 := ⟨_, rfl⟩
          obtain ⟨O, hOO⟩ : ∃ O, (shufR i (nextS s2)).1 = O := ⟨_, rfl⟩
          have HLO := Lib.hid (show O.length = i by rw [← hOO]; exact shufR_length n1 _)
          have HPO := Lib.hid (show O.Perm (upTo i) by rw [← hOO]; exact shufR_perm n1 _)
          have HMO := Lib.hid (fun y (hy : y ∈ O) => show 0 ≤ y ∧ y < i from shufR_mem n1 _ (by rw [hOO]; exact hy))
          have HBR := Lib.hid (fun r (hr : r < k) => show batRows i b s (ep * k + r) = (O.drop (r * b)).take (min O.length (r * b + b) - r * b) from by
            obtain ⟨e1, e2, e3⟩ := part_count n1 b1 hk hr ep
            unfold batRows batS
            rw [e1, e2, e3, hs2', hOO, HLO.out])
          have HBL := Lib.hid (fun r (hr : r < k) => show r * b < i from part_lt n1 b1 hk hr)
          have HEK := Lib.hid (show ep * k ≤ 19 * 31 from Nat.mul_le_mul hep hK2)
          have k1 : IntKind.i64.wrap ((ep : Int) * (k : Int)) = ((ep * k : Nat) : Int) := by rw [← Int.natCast_mul]; exact IntWalk.i64_in _ (by have := HEK.out; omega)
          have HS1 := Lib.hid (show SeenAt i G (ys ++ O.take (0 * b)) G w3 wr by rw [Nat.zero_mul, List.take_zero, List.append_nil]; exact HS0.out)
          have HBW := Lib.hid (Below.next' HB3.out (show Below w3.heap.size w3 wr by rw [HWG.out]; exact HS0.out.2.2))
          clear hk hs2' hOO HS HS0
          obtain ⟨E, hE⟩ : ∃ E, ep * k = E := ⟨_, rfl⟩
          rw [hE] at k1 HEK
          have HEE := Lib.hid hE
          have hE2 : E ≤ 589 := HEK.out
          clear hE
          go_wp2_with fail
          try rw [hKd]
          go_loopw [17] (fun rv wr' => PartsRel i b k G ys O G w3 rv wr') (fun rv _ => k - (intOf rv).toNat)
          case atStart => exact ⟨0, Nat.zero_le _, rfl, HS1.out⟩
          case round =>
            obtain ⟨r, hr, rfl, hse⟩ := hrel
            have HS := Lib.hid hse
            have hr0 : (0 : Int) ≤ (r : Int) := by omega
            clear hse HS1
            by_cases hlt2 : r < k
            · have hlt2' : (r : Int) < (k : Int) := by omega
              have hbl := HBL.out r hlt2
              have hbr := HBR.out r hlt2
              have hte : E + r ≤ 1000 := by omega
              have HCT := Lib.hid (show ∀ w, Calls Try.prog 19 #[.int .i64 i, .int .i64 b, .int .i64 s, .int .i64 ((E : Int) + (r : Int))] w (RetI true ((O.drop (r * b)).take (min O.length (r * b + b) - r * b)) w) from fun w => by
                have h1 := HCB.out (E + r) hte w
                rw [← HEE.out, hbr, HEE.out, Int.natCast_add] at h1
                exact h1)
              have HTP := Lib.hid (take_part O r b)
              have hpl : ((O.drop (r * b)).take (min O.length (r * b + b) - r * b)).length = min O.length (r * b + b) - r * b := by simp; omega
              have HMP := Lib.hid (fun y (hy : y ∈ (O.drop (r * b)).take (min O.length (r * b + b) - r * b)) => HMO.out y (List.mem_of_mem_drop (List.mem_of_mem_take hy)))
              have hful : r + 1 < k → min O.length (r * b + b) - r * b = b := fun h => by
                have h1 := HBL.out (r + 1) h
                rw [Nat.succ_mul] at h1
                rw [HLO.out, Nat.min_eq_right (by omega)]
                omega
              obtain ⟨P, hP⟩ : ∃ P, (O.drop (r * b)).take (min O.length (r * b + b) - r * b) = P := ⟨_, rfl⟩
              rw [hP] at HCT HTP hpl HMP
              obtain ⟨q, hq⟩ : ∃ q, P.length = q := ⟨_, rfl⟩
              have hq1 : 1 ≤ q := by rw [← hq, hpl, HLO.out]; omega
              have hq2 : q ≤ b := by rw [← hq, hpl]; omega
              have hq3 : r + 1 < k → q = b := fun h => by rw [← hq, hpl]; exact hful h
              have HQ := Lib.hid hq
              have HQ3 := Lib.hid hq3
              clear hq3
              clear hbr hP hpl hful
              have hq1I : (1 : Int) ≤ (q : Int) := by omega
              have hq2I : (q : Int) ≤ (b : Int) := by omega
              have hqz : (((q : Nat) : Int) == 0) = false := by simp; omega
              go_wp2_with fail
              refine (HCT.out _).mono ?_
              rintro e w5 ⟨a5, c5, yp, rfl, ho5, hy5, hb5⟩
              subst hy5
              have hyl : yp.length = q := HQ.out
              obtain ⟨gp, hga, hg1, hg2⟩ := ownI_some ho5 (by rw [hyl]; omega)
              subst hga
              rw [hyl]
              have HGP := Lib.hid (show gp ≠ G by have := (HS.out.1.lt G rfl).2; omega)
              have HO5 := Lib.hid (ho5.base (B' := 0) (Nat.zero_le _))
              have HS5 := Lib.hid (show SeenAt i G (ys ++ O.take (r * b) ++ yp.take 0) G w3 w5 by rw [List.take_zero, List.append_nil]; exact HS.out.kept hb5 (Nat.le_of_lt (HS.out.1.lt G rfl).2))
              have HYL := Lib.hid hyl
              clear ho5 hb5 hg1 hg2 hyl HS
              obtain ⟨w6, hw6⟩ : ∃ x : World, w5 = x := ⟨_, rfl⟩
              rw [hw6] at HO5 HS5 ⊢
              clear hw6
              go_upto_region 23 with fail
              go_cut [164] from 123 to 192 (fun v wx => v = .bool false ∧ w6 = wx)
              case first =>
                have hd1 : decide ((b : Int) < (q : Int)) = false := by simp; omega
                have hd1' : decide (b < q) = false := by simp; omega
                by_cases hfu : r + 1 < k
                · have hbq := HQ3.out hfu
                  have hq1' : ((q : Int) == (b : Int)) = true := by simp [hbq]
                  have hq2' : ((q : Int) != (b : Int)) = false := by simp [hbq]
                  have hfu' : decide ((r : Int) + 1 < (k : Int)) = true := by simp; omega
                  clear hbq hfu
                  go_wp2_with fail
                  go_meet
                  exact ⟨rfl, rfl⟩
                · have hfu' : decide ((r : Int) + 1 < (k : Int)) = false := by simp; omega
                  clear hfu
                  go_wp2_with fail
                  go_meet
                  exact ⟨rfl, rfl⟩
              case rest =>
              obtain ⟨rfl, rfl⟩ := hcut
              go_wp2_with fail
              go_loopw [20] (fun iv wx => PartRel i G gp c5 (ys ++ O.take (r * b)) yp G w3 iv wx) (fun iv _ => q - (intOf iv).toNat)
              case atStart => exact ⟨0, Nat.zero_le _, rfl, HS5.out, HO5.out⟩
              case round =>
                obtain ⟨j, hj, rfl, hse, hop⟩ := hrel
                have HS := Lib.hid hse
                have HOP := Lib.hid hop
                have hj0 : (0 : Int) ≤ (j : Int) := by omega
                rw [HYL.out] at hj
                clear hse hop HS5 HO5
                by_cases hlt3 : j < q
                · have hlt3' : (j : Int) < (q : Int) := by omega
                  obtain ⟨c1, f1⟩ := ownI_cell HOP.out (show j < yp.length by rw [HYL.out]; exact hlt3)
                  have hx := HMP.out (yp.getD j 0) (by simp [List.getD, show j < yp.length by rw [HYL.out]; exact hlt3])
                  have HTK := Lib.hid (take_one (show j < yp.length by rw [HYL.out]; exact hlt3))
                  obtain ⟨x, hxx⟩ : ∃ x, yp.getD j 0 = x := ⟨_, rfl⟩
                  rw [hxx] at c1 hx HTK
                  obtain ⟨qq, rfl⟩ := Int.eq_ofNat_of_zero_le hx.1
                  have hq : qq < i := by omega
                  have hqI : (qq : Int) < (i : Int) := by omega
                  have hq0 : (0 : Int) ≤ (qq : Int) := by omega
                  obtain ⟨c2, f2⟩ := HS.out.cell hq
                  have hL99 : (ys ++ O.take (r * b) ++ yp.take j).length ≤ 99 := by
                    have h1 := HLZ.out
                    have h3 := HLO.out
                    simp only [List.length_append, List.length_take, HYL.out]
                    omega
                  have hcl : (ys ++ O.take (r * b) ++ yp.take j).count (qq : Int) ≤ 99 := Nat.le_trans List.count_le_length hL99
                  have HNX := Lib.hid (HS.out.next hq hL99)
                  obtain ⟨c, hc⟩ : ∃ c, (ys ++ O.take (r * b) ++ yp.take j).count (qq : Int) = c := ⟨_, rfl⟩
                  rw [hc] at c2 hcl
                  have HC := Lib.hid hc
                  clear hxx hx hc hL99 f1
                  go_wp2_with fail
                  go_roundw
                  case rel => exact ⟨j + 1, by rw [HYL.out]; exact hlt3, by go_num, by have h1 := HNX.out; rw [HC.out, List.append_assoc, ← HTK.out] at h1; exact h1, own_off HOP.out HGP.out⟩
                  case measure => simp [intOf]; omega
                · obtain rfl : j = q := by omega
                  have HS6 := Lib.hid (show SeenAt i G (ys ++ O.take ((r + 1) * b)) G w3 wr by
                    have h1 := HS.out
                    rw [show yp.take j = yp from List.take_of_length_le (by rw [HYL.out]; exact Nat.le_refl _), List.append_assoc, HTP.out] at h1
                    exact h1)
                  go_wp2_with fail
                  go_roundw
                  case rel => exact ⟨r + 1, by omega, by go_num, HS6.out⟩
                  case measure => simp [intOf]; omega
            · obtain rfl : r = k := by omega
              have HSF := Lib.hid (show SeenAt i G (ys ++ O) G w3 wr by
                have h1 := HS.out
                rw [List.take_of_length_le (by rw [HLO.out]; exact part_all b1 HK.out)] at h1
                exact h1)
              go_wp2_with fail
              go_loopw [21] (fun iv wx => LookRel i wr iv wx) (fun iv _ => i - (intOf iv).toNat)
              case atStart => exact ⟨0, Nat.zero_le _, rfl, rfl⟩
              case round =>
                obtain ⟨v, hv, rfl, rfl⟩ := hrel
                have hv0 : (0 : Int) ≤ (v : Int) := by omega
                by_cases hlt4 : v < i
                · have hlt4' : (v : Int) < (i : Int) := by omega
                  obtain ⟨c1, f1⟩ := HSF.out.cell hlt4
                  rw [two_perms HPZ.out HPO.out hlt4] at c1
                  go_wp2_with fail
                  go_roundw
                  case rel => exact ⟨v + 1, hlt4, by go_num, rfl⟩
                  case measure => simp [intOf]; omega
                · obtain rfl : v = i := by omega
                  go_wp2_with fail
                  go_ret
                  exact ⟨rfl, Below.next' HB3.out (show Below w3.heap.size w3 _ by rw [HWG.out]; exact HSF.out.2.2)⟩

/-! the row's step -/
set_option maxRecDepth 100000 in
theorem lifted (os : Os) (started : os.Started) (H : Type) (enc : TypeId × Value → H) :
    ReturnsInHanded {} Try.checked os 3 .any (Rows.fnBatchesSpec.pre6 enc Try.prog Try.f3 Rows.fnBatchesRow.domain false) (Rows.fnBatchesSpec.post enc Try.prog Try.f3 false true false false) := by
  refine returnsInHanded_of_change (C := Try.checked) own started (by kernel_rfl) Try.func3
    (ChangeSpec.witness6 (enc := enc) (C := Try.checked) false ⟨#[], #[.slice none 0 0, .slice none 0 0], []⟩ 8 (by kernel_rfl) (by kernel_rfl) (by kernel_rfl) (by kernel_rfl)) ?_
  intro W base args ds gs before hval0 hW hcnd _
  have hval : ∀ (j : Nat) t v, Try.f3.params[j]? = some t → args[j]? = some v → Value.okWide Try.prog W .any base t v := hval0
  have hW' := hW
  obtain ⟨p, q, hA0, hV, rfl, hfz, hnd⟩ := hW
  have hA : DataW.TrodAll enc Try.prog W 0 (fun _ => true) true Try.f3.params.toList args.toList ds p := hA0
  rw [Try.params3] at hA hval
  obtain ⟨v0, vs0, d0, ds0, p0, q0, hargs, rfl, rfl, h0, rest0⟩ := trodAll_cons hA
  obtain ⟨v1, vs1, d1, ds1, p1, q1, rfl, rfl, rfl, h1, rest1⟩ := trodAll_cons rest0
  obtain ⟨rfl, rfl, rfl⟩ := trodAll_nil rest1
  obtain rfl : args = #[v0, v1] := by cases args; simp_all
  obtain ⟨rfl, rfl⟩ := trodVars_none hV
  obtain ⟨a0, len0, cap0, rfl⟩ := okWide_slice Try.underlying22 (hval 0 22 v0 rfl rfl)
  have k0 := h0
  have lt0 : ∀ x ∈ p0, x.block < W.heap.size := by obtain ⟨m, hm⟩ := k0; exact DataW.trod_lt m _ _ _ hm
  obtain ⟨z0, w0⟩ := isRow_of (k := .u8) Try.underlying22 Try.underlying5 (by kernel_rfl) h0
  obtain ⟨a1, len1, cap1, rfl⟩ := okWide_slice Try.underlying22 (hval 1 22 v1 rfl rfl)
  have k1 := h1
  have lt1 : ∀ x ∈ p1, x.block < W.heap.size := by obtain ⟨m, hm⟩ := k1; exact DataW.trod_lt m _ _ _ hm
  obtain ⟨z1, w1⟩ := isRow_of (k := .u8) Try.underlying22 Try.underlying5 (by kernel_rfl) h1
  clear hA0 hval0
  refine (walk a0 len0 cap0 z0 a1 len1 cap1 z1 W w0 w1).mono fun e W' ⟨he, bel⟩ => ?_
  subst he
  exact ⟨_, rfl, _, _, _, [], _, [], hW', trodAll_mk1 (shut_bool Try.underlying4 _), (trodAll_cons_mk (Below.trod laidOut (by kernel_rfl) (of_decide_eq_true (by kernel_rfl)) k0 bel lt0) (trodAll_cons_mk (Below.trod laidOut (by kernel_rfl) (of_decide_eq_true (by kernel_rfl)) k1 bel lt1) trodAll_mk0)), rfl, bel.frame _, fun h => by cases h⟩

theorem over : Rows.fnBatchesRow.holds Try.pinned (OpenSpec.ofChange Rows.fnBatchesSpec) :=
  OpenClaim.holds_of_wide 3 Try.f3 rfl rfl rfl rfl rfl rfl rfl ⟨rfl, rfl, rfl, rfl, rfl⟩ rfl rfl rfl rfl rfl (by kernel_rfl) Try.func3 (by kernel_rfl)
    (of_decide_eq_true (by kernel_rfl)) (by unfold Func.isWrapper; first | (rw [if_pos (by decide +kernel)]; kernel_rfl) | (rw [if_neg (by decide +kernel)]; exact ⟨rfl, rfl⟩))
    (fun os started H enc _ => lifted os started H enc)

/-- the statement -/
theorem proved : Rows.FnBatchesSaid := over
end Go.Proofs.Ythklfkfhhdglcaa.fnBatches
