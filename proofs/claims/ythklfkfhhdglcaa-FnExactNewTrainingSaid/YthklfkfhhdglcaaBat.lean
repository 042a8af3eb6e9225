/-
  BatchOf in the model: the rows for a step. Conditions: none.
-/
import Derived.Test.YthklfkfhhdglcaaShr
import Derived.Test.YthklfkfhhdglcaaApp
import Derived.Test.YthklfkfhhdglcaaFun
import Derived.Deep.RegionLaw
namespace Go.Proofs.Ythklfkfhhdglcaa
open Go.RowKit Go.Deep Go.WideShapes Go.ChangeShapes
set_option linter.unusedVariables false
attribute [local go_sem] World.drewN_zero

def batK (n b : Nat) : Nat := (n + b - 1) / b
theorem batK_pos {n b : Nat} (h1 : 1 ≤ n) (h2 : 1 ≤ b) : 1 ≤ batK n b := by
  unfold batK
  rw [Nat.le_div_iff_mul_le (by omega)]
  omega
theorem batK_le {n b : Nat} (h1 : n ≤ 16) (h2 : 1 ≤ b) (h3 : b ≤ 16) : batK n b ≤ 31 := by
  unfold batK
  exact Nat.le_trans (Nat.div_le_self _ _) (by omega)
def batFrom (n b t : Nat) : Nat := t % batK n b * b
theorem batFrom_lt {n b t : Nat} (h1 : 1 ≤ n) (h2 : 1 ≤ b) : batFrom n b t < n := by
  have hk := batK_pos h1 h2
  have h3 : t % batK n b ≤ batK n b - 1 := by have := Nat.mod_lt t (show 0 < batK n b by omega); omega
  have h4 : batK n b * b ≤ n + b - 1 := Nat.div_mul_le_self _ _
  have h5 : (batK n b - 1) * b + b = batK n b * b := by rw [← Nat.succ_mul]; congr 1; omega
  have h6 := Nat.mul_le_mul_right b h3
  unfold batFrom
  omega
def batTo (n b t : Nat) : Nat := min n (batFrom n b t + b)
def batS (n b : Nat) (s : Int) (t : Nat) : Int := (s + 7919 * ((t / batK n b : Nat) : Int)) % 2147483648
theorem batS_rng (n b : Nat) (s : Int) (t : Nat) : 0 ≤ batS n b s t ∧ batS n b s t ≤ 2147483647 := by unfold batS; omega
def batRows (n b : Nat) (s : Int) (t : Nat) : List Int := ((shufR n (nextS (batS n b s t))).1.drop (batFrom n b t)).take (batTo n b t - batFrom n b t)
theorem batRows_length {n b : Nat} (h1 : 1 ≤ n) (h2 : 1 ≤ b) (s : Int) (t : Nat) : (batRows n b s t).length = batTo n b t - batFrom n b t := by
  have := batFrom_lt (t := t) h1 h2
  unfold batRows
  rw [List.length_take, List.length_drop, shufR_length h1]
  unfold batTo
  omega
def isStepV (t : Int) : Bool := decide (0 ≤ t) && decide (t ≤ 1000)
theorem isStepV_yes {n : Int} (h : isStepV n = true) : ∃ m : Nat, n = m ∧ m ≤ 1000 := by
  simp [isStepV] at h
  obtain ⟨m, rfl⟩ := Int.eq_ofNat_of_zero_le (show 0 ≤ n by omega)
  exact ⟨m, rfl, by omega⟩
def okBat (n b s t : Int) : Bool := isSideV n && isSideV b && isSeedV s && isStepV t
def vBatchOf (n b s t : Int) : Bool × List Int := if okBat n b s t = true then (true, batRows n.toNat b.toNat s t.toNat) else (false, [])
theorem vBatchOf_yes {n b t : Nat} {s : Int} (h : okBat n b s t = true) : vBatchOf n b s t = (true, batRows n b s t) := by unfold vBatchOf; rw [if_pos h]; simp
theorem vBatchOf_no {n b s t : Int} (h : okBat n b s t = false) : vBatchOf n b s t = (false, []) := by unfold vBatchOf; rw [h]; simp
theorem okBat_parts {n b s t : Int} (h : okBat n b s t = true) : isSideV n = true ∧ isSideV b = true ∧ isSeedV s = true ∧ isStepV t = true := by
  simp only [okBat, Bool.and_eq_true] at h
  exact ⟨h.1.1.1, h.1.1.2, h.1.2, h.2⟩
theorem vBatchOf_len (n b s t : Int) : (vBatchOf n b s t).2.length ≤ 16 := by
  cases h : okBat n b s t with
  | true =>
    obtain ⟨h1, h2, h3, h4⟩ := okBat_parts h
    obtain ⟨m, rfl, m1, m2⟩ := isSideV_yes h1
    obtain ⟨c, rfl, c1, c2⟩ := isSideV_yes h2
    obtain ⟨u, rfl, u2⟩ := isStepV_yes h4
    rw [vBatchOf_yes h]
    show (batRows m c s u).length ≤ 16
    rw [batRows_length m1 c1]
    unfold batTo
    omega
  | false => rw [vBatchOf_no h]; simp
/-! copies of integers -/
theorem rows_reads {w : World} {a : Option Addr} {n cap : Nat} {zs : List Int} (h : IsRow .i64 w a n cap zs) : Reads w w.heap.size 1 a n (zs.map toV) := by
  obtain ⟨h1, h2, h3, h4, h5⟩ := h
  refine ⟨by simp [h3], fun hn => ?_⟩
  rcases h5 with h0 | ⟨b, off, rfl, hb, hc⟩
  · omega
  · refine ⟨_, rfl, hb, fun j u hu => ?_⟩
    have hj : j < zs.length := by
      have := (List.getElem?_eq_some_iff.1 hu).1
      simpa using this
    rw [add_plain, hc j (by omega)]
    simp [hj] at hu
    simp [List.getD, hj, ← hu, toV]
theorem ones_i64 (zs : List Int) : ∀ u ∈ zs.map toV, u.oneCell' = true := by
  intro u hu
  obtain ⟨x, _, rfl⟩ := List.mem_map.1 hu
  rfl
theorem rowKept {w w' : World} {a : Option Addr} {len cap : Nat} {zs : List Int} (h : IsRow .i64 w a len cap zs) (hb : Below w.heap.size w w') : IsRow .i64 w' a len cap zs := by
  obtain ⟨h1, h2, h3, h4, h5⟩ := h
  refine ⟨h1, h2, h3, h4, ?_⟩
  rcases h5 with h0 | ⟨b, off, ha, hlt, hc⟩
  · exact .inl h0
  · refine .inr ⟨b, off, ha, Nat.lt_of_lt_of_le hlt hb.size, fun i hi => ?_⟩
    rw [hb.cell (p := ⟨b, off + i, none⟩) hlt]
    exact hc i hi
/-- a part of a row of the call's own -/
theorem part_row {w : World} {B g c : Nat} {ys : List Int} (h : OwnI w B (some ⟨g, 0, none⟩) c ys) {lo hi : Nat} (hl : lo ≤ hi) (hh : hi ≤ ys.length) : IsRow .i64 w (some ⟨g, lo, none⟩) (hi - lo) (c - lo) ((ys.drop lo).take (hi - lo)) := by
  have hc := h.cap_ok
  have hlt : g < w.heap.size := (h.lt g rfl).2
  refine ⟨by omega, by omega, by simp; omega, fun y hy => h.2 y (List.mem_of_mem_drop (List.mem_of_mem_take hy)), .inr ⟨g, lo, rfl, hlt, fun i hi' => ?_⟩⟩
  rw [(ownI_cell h (show lo + i < ys.length by omega)).1]
  congr 2
  simp [List.getD, hi']
set_option maxHeartbeats 400000 in
theorem c_ownInts (a : Option Addr) (n cap : Nat) (zs : List Int) (w : World) (h : IsRow .i64 w a n cap zs) (hl : n ≤ 1048576) : Calls Try.prog 130 #[.slice a n cap] w fun e w' => ∃ b c, e = .returned (.slice b zs.length c) ∧ OwnI w' w.heap.size b c zs ∧ Below w.heap.size w w' := by
  obtain ⟨i0, hi, hz0, hz1, hz2⟩ := info_parts info_j64
  have HI := Lib.hid hi
  have HZ0 := Lib.hid hz0
  have HZ1 := Lib.hid hz1
  have HZ2 := Lib.hid hz2
  have HF := Lib.hid h
  have H3 := Lib.hid h.2.2.1
  clear h hi hz0 hz1 hz2
  go_enter Try.func130, Try.ntmps130
  go_wp2_with (at_builtin; refine wpList_append_any _ rfl (.tmp 3) (.tmp 4) _ rfl w.heap.size 2 i0 _ 1 8 Try.underlying25 HI.out HZ0.out HZ1.out HZ2.out rfl (by omega) (.slice (some ⟨w.heap.size, 0, none⟩) 0 0) 0 [] rfl (World.ownsRow_made w #[] 0 (Nat.le_refl _) (by decide) rfl) _ _ n cap _ rfl (rows_reads (rowKept HF.out ((Below.refl _ _).alloc (Nat.le_refl _) _))) (ones_i64 _) (by simp only [maxLen]; omega) (by omega) (by simp) ?_; intro v1 w1 hown1 hg1 hat1; simp only [Nat.zero_add, List.nil_append] at hown1; have HO := Lib.hid hown1; have HG := Lib.hid hg1; clear hown1 hg1 hat1)
  go_ret
  obtain ⟨b, c, rfl⟩ := ownsRow_slice HO.out
  refine ⟨b, c, by rw [H3.out]; rfl, ⟨by rw [H3.out]; exact HO.out, HF.out.2.2.2.1⟩, ((Below.refl _ _).alloc (Nat.le_refl _) _).grown HG.out (by simp) (fun k hk => ?_)⟩
  simp [Value.ownBlock] at hk
  omega
set_option maxHeartbeats 400000 in
theorem c_cloneInts (b off : Nat) (n cap : Nat) (zs : List Int) (w : World) (h : IsRow .i64 w (some ⟨b, off, none⟩) n cap zs) (hl : n ≤ 1048576) : Calls Try.prog 121 #[.slice (some ⟨b, off, none⟩) n cap] w fun e w' => ∃ b c, e = .returned (.slice b zs.length c) ∧ OwnI w' w.heap.size b c zs ∧ Below w.heap.size w w' := by
  obtain ⟨i0, hi, hz0, hz1, hz2⟩ := info_parts info_j64
  have HI := Lib.hid hi
  have HZ0 := Lib.hid hz0
  have HZ1 := Lib.hid hz1
  have HZ2 := Lib.hid hz2
  have HF := Lib.hid h
  have H3 := Lib.hid h.2.2.1
  have hrun : (binOp BinOp.eql 25 (.slice (some ⟨b, off, none⟩) n cap) (.slice none 0 0)).run Try.prog w = .ok (.bool false) w := by
    have he : (Op.equalIn 10000 25 (.slice (some ⟨b, off, none⟩) n cap) (.slice none 0 0)).run Try.prog w = .ok false w := by
      rw [show (10000 : Nat) = 9999 + 1 from rfl, Op.equalIn]
      simp only [Sem.run_bind, run_underlying Try.underlying25, Result.andThen_ok]
      rfl
    simp only [binOp, Op.equal, Op.maxDepth, Sem.run_bind, he, Result.andThen_ok]
    rfl
  clear h hi hz0 hz1 hz2
  go_enter Try.func121, Try.ntmps121
  go_wp2_with (at_builtin; refine wpList_append_any _ rfl (.tmp 5) (.tmp 6) 25 rfl w.heap.size 2 i0 _ 1 8 Try.underlying25 HI.out HZ0.out HZ1.out HZ2.out rfl (by omega) (.slice (some ⟨w.heap.size, 0, none⟩) 0 0) 0 [] rfl (World.ownsRow_made w #[] 0 (Nat.le_refl _) (by decide) rfl) _ _ n cap _ rfl (rows_reads (rowKept HF.out ((Below.refl _ _).alloc (Nat.le_refl _) _))) (ones_i64 _) (by simp only [maxLen]; omega) (by omega) (by simp) ?_; intro v1 w1 hown1 hg1 hat1; simp only [Nat.zero_add, List.nil_append] at hown1; have HO := Lib.hid hown1; have HG := Lib.hid hg1; clear hown1 hg1 hat1)
  go_ret
  obtain ⟨b, c, rfl⟩ := ownsRow_slice HO.out
  refine ⟨b, c, by rw [H3.out]; rfl, ⟨by rw [H3.out]; exact HO.out, HF.out.2.2.2.1⟩, ((Below.refl _ _).alloc (Nat.le_refl _) _).grown HG.out (by simp) (fun k hk => ?_)⟩
  simp [Value.ownBlock] at hk
  omega
theorem c_l00Min (x y z : Int) (hz : min x y = z) (w : World) : Calls Try.prog 131 #[.int .i64 x, .int .i64 y] w fun e w' => e = .returned (.int .i64 z) ∧ w = w' := by
  by_cases h : x < y
  · obtain rfl : x = z := by omega
    clear hz
    go_enter Try.func131, Try.ntmps131
    go_wp2_with fail
    go_ret
    exact ⟨rfl, rfl⟩
  · obtain rfl : y = z := by omega
    have h' : y ≤ x := by omega
    clear h hz
    go_enter Try.func131, Try.ntmps131
    go_wp2_with fail
    go_ret
    exact ⟨rfl, rfl⟩
set_option maxRecDepth 20000 in
set_option maxHeartbeats 1000000 in
theorem c_sBatch (n b t : Nat) (h1 : 1 ≤ n) (h2 : n ≤ 16) (h3 : 1 ≤ b) (h4 : b ≤ 16) (h5 : t ≤ 1000) (s : Int) (hs : 0 ≤ s ∧ s ≤ 2147483647) (w : World) :
    Calls Try.prog 79 #[.int .i64 n, .int .i64 b, .int .i64 s, .int .i64 t] w fun e w' => ∃ a c, e = .returned (.slice a (batRows n b s t).length c) ∧ OwnI w' w.heap.size a c (batRows n b s t) ∧ Below w.heap.size w w' := by
  obtain ⟨hs1, hs2⟩ := hs
  have hK1 := batK_pos h1 h3
  have hK2 := batK_le h2 h3 h4
  have hKd : (((n : Int) + (b : Int) - 1) / (b : Int)) = ((batK n b : Nat) : Int) := by unfold batK; rw [Int.natCast_ediv]; congr 1; omega
  have hE : ((t : Int) / ((batK n b : Nat) : Int)) = ((t / batK n b : Nat) : Int) := (Int.natCast_ediv t (batK n b)).symm
  have hR : ((t : Int) % ((batK n b : Nat) : Int)) = ((t % batK n b : Nat) : Int) := (Int.natCast_emod t (batK n b)).symm
  have hF := batFrom_lt (t := t) h1 h3
  have hE2 : t / batK n b ≤ 1000 := Nat.le_trans (Nat.div_le_self _ _) h5
  have hR2 : t % batK n b ≤ 1000 := Nat.le_trans (Nat.mod_le _ _) h5
  have hS := batS_rng n b s t
  have HSD := Lib.hid (show (s + 7919 * ((t / batK n b : Nat) : Int)) % 2147483648 = batS n b s t from rfl)
  have HFD := Lib.hid (show ((t % batK n b : Nat) : Int) * (b : Int) = ((batFrom n b t : Nat) : Int) by unfold batFrom; rw [Int.natCast_mul])
  have HTD := Lib.hid (show min n (batFrom n b t + b) = batTo n b t from rfl)
  have HRD := Lib.hid (show ((shufR n (nextS (batS n b s t))).1.drop (batFrom n b t)).take (batTo n b t - batFrom n b t) = batRows n b s t from rfl)
  have HLN := Lib.hid (batRows_length h1 h3 s t)
  have HNR := Lib.hid (nextS_rng (batS n b s t))
  have hT1 : batFrom n b t ≤ batTo n b t := by unfold batTo; omega
  have hT2 : batTo n b t ≤ n := by unfold batTo; omega
  generalize batRows n b s t = rows at *
  generalize batTo n b t = T at *
  generalize batFrom n b t = F at *
  generalize batS n b s t = s2 at *
  generalize t / batK n b = E at *
  generalize t % batK n b = R at *
  generalize batK n b = K at *
  have hsd := HSD.out
  have k1 : IntKind.i64.wrap ((R : Int) * (b : Int)) = (F : Int) := by rw [HFD.out]; exact IntWalk.i64_in _ (by omega)
  have HS2 := Lib.hid hS
  obtain ⟨q, hq⟩ : ∃ q, nextS s2 = q := ⟨_, rfl⟩
  rw [hq] at HRD HNR
  have HQ := Lib.hid hq
  clear hS hq
  go_enter Try.func79, Try.ntmps79
  go_wp2_with (first | (go_at_call 76; refine (c_sNext s2 HS2.out _).mono ?_; rintro e w' ⟨rfl, rfl⟩; rw [HQ.out]) | (go_at_call 78; refine (c_sShuf n h1 h2 q HNR.out _).mono ?_; rintro e w1 ⟨a, cap, ys, rfl, ho, hy, hb⟩; have HO := Lib.hid ho; have HY := Lib.hid hy; have HB := Lib.hid hb; have hyl : ys.length = n := (by rw [hy]; exact shufR_length h1 q); rw [hyl]; obtain ⟨g, hga, hg1, hg2⟩ := ownI_some ho (by rw [hyl]; omega); subst hga; have HYL := Lib.hid hyl; have hcp := ho.cap_ok.1; rw [hyl] at hcp; have hc1 : (T : Int) ≤ (cap : Int) := (by omega); have hc2 : ¬ cap = F := (by omega); have HP := Lib.hid (part_row ho hT1 (by rw [hyl]; exact hT2)); clear ho hy hb hyl) | (go_at_call 131; refine (c_l00Min _ _ T (by have := HTD.out; omega) _).mono ?_; rintro e w' ⟨rfl, rfl⟩) | (go_at_call 130; refine (c_ownInts _ _ _ _ _ HP.out (by omega)).mono ?_; rintro e w2 ⟨a2, c2, rfl, ho, hb⟩; have HO2 := Lib.hid (ho.base HB.out.size); have HB2 := Lib.hid (Below.next HB.out hb); clear ho hb))
  go_ret
  have hrw : (ys.drop F).take (T - F) = rows := by rw [HY.out]; exact HRD.out
  exact ⟨a2, c2, by rw [HLN.out, HYL.out, Nat.min_eq_left (by omega)]; rfl, by rw [← hrw]; exact HO2.out, HB2.out⟩
set_option maxRecDepth 20000 in
set_option maxHeartbeats 1000000 in
theorem t_sBatchOf (n b s t : Int) (w : World) : Calls Try.prog 29 #[.int .i64 n, .int .i64 b, .int .i64 s, .int .i64 t] w (RetI (vBatchOf n b s t).1 (vBatchOf n b s t).2 w) := by
  cases h1 : isSideV n with
  | false => 
    have f1 : (decide (1 ≤ n) && decide (n ≤ 16)) = false := h1
    rw [vBatchOf_no (show okBat n b s t = false by simp [okBat, h1])]
    clear h1
    go_enter Try.func29, Try.ntmps29
    go_wp2_with (first | (go_at_call 77; refine (c_l00In _ _ _ true (by assumption) _).mono ?_; rintro e w' ⟨rfl, rfl⟩) | (go_at_call 77; refine (c_l00In _ _ _ false (by assumption) _).mono ?_; rintro e w' ⟨rfl, rfl⟩) | (go_at_call 75; refine (c_l07Seed _ _).mono ?_; rintro e w' ⟨rfl, rfl⟩; rw [V3.out]))
    go_ret2
    exact ⟨none, 0, [], rfl, nil_ownI _ _, rfl, Below.refl _ _⟩
  | true =>
    have f1 : (decide (1 ≤ n) && decide (n ≤ 16)) = true := h1
    cases h2 : isSideV b with
    | false => 
      have f2 : (decide (1 ≤ b) && decide (b ≤ 16)) = false := h2
      rw [vBatchOf_no (show okBat n b s t = false by simp [okBat, h2])]
      clear h1 h2
      go_enter Try.func29, Try.ntmps29
      go_wp2_with (first | (go_at_call 77; refine (c_l00In _ _ _ true (by assumption) _).mono ?_; rintro e w' ⟨rfl, rfl⟩) | (go_at_call 77; refine (c_l00In _ _ _ false (by assumption) _).mono ?_; rintro e w' ⟨rfl, rfl⟩) | (go_at_call 75; refine (c_l07Seed _ _).mono ?_; rintro e w' ⟨rfl, rfl⟩; rw [V3.out]))
      go_ret2
      exact ⟨none, 0, [], rfl, nil_ownI _ _, rfl, Below.refl _ _⟩
    | true =>
      have f2 : (decide (1 ≤ b) && decide (b ≤ 16)) = true := h2
      cases h3 : isSeedV s with
      | false => 
        have V3 := Lib.hid h3
        rw [vBatchOf_no (show okBat n b s t = false by simp [okBat, h3])]
        clear h1 h2 h3
        go_enter Try.func29, Try.ntmps29
        go_wp2_with (first | (go_at_call 77; refine (c_l00In _ _ _ true (by assumption) _).mono ?_; rintro e w' ⟨rfl, rfl⟩) | (go_at_call 77; refine (c_l00In _ _ _ false (by assumption) _).mono ?_; rintro e w' ⟨rfl, rfl⟩) | (go_at_call 75; refine (c_l07Seed _ _).mono ?_; rintro e w' ⟨rfl, rfl⟩; rw [V3.out]))
        go_ret2
        exact ⟨none, 0, [], rfl, nil_ownI _ _, rfl, Below.refl _ _⟩
      | true =>
        have V3 := Lib.hid h3
        cases h4 : isStepV t with
        | false => 
          have f4 : (decide ((0 : Int) ≤ t) && decide (t ≤ 1000)) = false := h4
          rw [vBatchOf_no (show okBat n b s t = false by simp [okBat, h4])]
          clear h1 h2 h3 h4
          go_enter Try.func29, Try.ntmps29
          go_wp2_with (first | (go_at_call 77; refine (c_l00In _ _ _ true (by assumption) _).mono ?_; rintro e w' ⟨rfl, rfl⟩) | (go_at_call 77; refine (c_l00In _ _ _ false (by assumption) _).mono ?_; rintro e w' ⟨rfl, rfl⟩) | (go_at_call 75; refine (c_l07Seed _ _).mono ?_; rintro e w' ⟨rfl, rfl⟩; rw [V3.out]))
          go_ret2
          exact ⟨none, 0, [], rfl, nil_ownI _ _, rfl, Below.refl _ _⟩
        | true =>
          have f4 : (decide ((0 : Int) ≤ t) && decide (t ≤ 1000)) = true := h4
          have HX := Lib.hid (fun (n b t : Nat) (s : Int) (h : okBat n b s t = true) => vBatchOf_yes h)
          obtain ⟨n, rfl, n1, n2⟩ := isSideV_yes h1
          obtain ⟨b, rfl, b1, b2⟩ := isSideV_yes h2
          obtain ⟨t, rfl, t2⟩ := isStepV_yes h4
          have hs := Lib.hid (isSeedV_yes h3)
          rw [vBatchOf_yes (by simp [okBat, h1, h2, h3, h4])]
          clear h1 h2 h3 h4
          go_enter Try.func29, Try.ntmps29
          go_wp2_with (first | (go_at_call 77; refine (c_l00In _ _ _ true (by assumption) _).mono ?_; rintro e w' ⟨rfl, rfl⟩) | (go_at_call 77; refine (c_l00In _ _ _ false (by assumption) _).mono ?_; rintro e w' ⟨rfl, rfl⟩) | (go_at_call 75; refine (c_l07Seed _ _).mono ?_; rintro e w' ⟨rfl, rfl⟩; rw [V3.out]) | (go_at_call 79; refine (c_sBatch n b t n1 n2 b1 b2 t2 s hs.out _).mono ?_; rintro e w2 ⟨a2, c2, rfl, ho, hb⟩; have HO := Lib.hid ho; have HB := Lib.hid hb; clear ho hb))
          go_ret2
          exact ⟨a2, c2, _, rfl, HO.out, rfl, HB.out⟩
end Go.Proofs.Ythklfkfhhdglcaa
