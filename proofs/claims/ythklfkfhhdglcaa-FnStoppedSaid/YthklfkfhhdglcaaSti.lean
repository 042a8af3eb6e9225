/-
  StopAt in the program: the least of the first losses, and whether one is less. Conditions: none.
-/
import Derived.Test.YthklfkfhhdglcaaSto
namespace Go.Proofs.Ythklfkfhhdglcaa
open Go.RowKit Go.Deep Go.WideShapes Go.ChangeShapes
set_option linter.unusedVariables false
attribute [local go_sem] World.drewN_zero

theorem ltF_num {x y : Nat} (hx : x < 4294967296) (hy : y < 4294967296) (nx : isNan .f32 x = false) (ny : isNan .f32 y = false) : ltF x y = decide (k32 x < k32 y) := by
  unfold ltF
  rw [ord32 hx hy nx ny, Int.compare_eq_ite_lt]
  by_cases h : k32 x < k32 y
  · rw [if_pos h]; simp [h]
  · rw [if_neg h]
    split <;> simp [h]
theorem ltF_nan_l {x : Nat} (y : Nat) (h : isNan .f32 x = true) : ltF x y = false := by unfold ltF; rw [order_isNan_l _ h]; rfl
theorem ltF_nan_r (x : Nat) {y : Nat} (h : isNan .f32 y = true) : ltF x y = false := by unfold ltF; rw [order_isNan_r _ h]; rfl
/-- less than the lesser one: less than both -/
theorem ltF_min {x a b : Nat} (w : World) (hx : x < 4294967296) (ha : a < 4294967296) (hb : b < 4294967296) : ltF x (mmv false .f32 a b w) = (ltF x a && ltF x b) := by
  cases na : isNan .f32 a with
  | true => rw [ltF_nan_r _ (mmv_nan_l b w na), ltF_nan_r _ na]; rfl
  | false =>
    cases nb : isNan .f32 b with
    | true => rw [ltF_nan_r _ (mmv_nan_r a w nb), ltF_nan_r _ nb, Bool.and_false]
    | false =>
      cases nx : isNan .f32 x with
      | true => rw [ltF_nan_l _ nx, ltF_nan_l _ nx]; rfl
      | false =>
        rw [ltF_num hx ha nx na, ltF_num hx hb nx nb]
        rcases Int.lt_trichotomy (k32 a) (k32 b) with h | h | h
        · rw [mm_lt w (ord_lt ha hb na nb h), if_neg (by decide), ltF_num hx ha nx na]
          by_cases h1 : k32 x < k32 a
          · simp [h1]; omega
          · simp [h1]
        · have ho := ord_eq ha hb na nb h
          have hm : mmv false .f32 a b w = a ∨ mmv false .f32 a b w = b := by
            unfold mmv
            rw [ho]
            dsimp only
            split <;> simp
          rcases hm with e | e
          · rw [e, ltF_num hx ha nx na, h]; simp
          · rw [e, ltF_num hx hb nx nb, h]; simp
        · rw [mm_gt w (ord_gt ha hb na nb h), if_neg (by decide), ltF_num hx hb nx nb]
          by_cases h1 : k32 x < k32 b
          · have h2 : k32 x < k32 a := by omega
            simp [h1, h2]
          · simp [h1]
def MinRel (z : List Nat) (n : Nat) (w : World) (s i : Value) (wr : World) : Prop :=
  ∃ k r m : Nat, 1 ≤ k ∧ k ≤ n ∧ i = .int .i64 k ∧ s = .float .f32 r ∧ r < 4294967296 ∧ (∀ x, x < 4294967296 → ltF x r = lessAll (fun j => z.getD j 0) x k) ∧ wr = w.drewN m
set_option maxHeartbeats 1000000 in
theorem c_sliceMin (a : Option Addr) (n cap : Nat) (z : List Nat) (w : World) (h : IsFloats .f32 w a n cap z) (h1 : 1 ≤ n) (h2 : n ≤ 256) :
    Calls Try.prog 72 #[.slice a n cap] w fun e w' => ∃ r m, e = .returned (.float .f32 r) ∧ r < 4294967296 ∧ (∀ x, x < 4294967296 → ltF x r = lessAll (fun j => z.getD j 0) x n) ∧ w' = w.drewN m := by
  have hlen := h.2.2.1
  have HL := Lib.hid h.2.2.2.1
  rcases h.2.2.2.2 with h0 | ⟨b0, off, rfl, hb0, hcc⟩
  · omega
  have HC := Lib.hid hcc
  have c0 := hcc 0 (by omega)
  have HLT := Lib.hid (fun k (hk : k < n) => show z.getD k 0 < 4294967296 from by
    have : z.getD k 0 ∈ z := by simp [List.getD, show k < z.length by omega]
    exact HL.out _ this)
  have h1' : (1 : Int) ≤ (n : Int) := by omega
  obtain ⟨x0, hx0⟩ : ∃ x, z.getD 0 0 = x := ⟨_, rfl⟩
  have HX0 := Lib.hid hx0
  rw [hx0, Nat.add_zero] at c0
  clear h hcc hlen hx0
  go_enter Try.func72, Try.ntmps72
  go_wp2_with fail
  go_loopw [3, 4] (fun s i wr => MinRel z n w s i wr) (fun _ i _ => n - (intOf i).toNat)
  case atStart => exact ⟨1, x0, 0, Nat.le_refl _, h1, rfl, rfl, by have := HLT.out 0 (by omega); rw [HX0.out] at this; exact this, (fun x _ => by rw [lessAll_succ, HX0.out]; rfl), rfl⟩
  case round =>
    obtain ⟨k, r, m, hk1, hk, rfl, rfl, hr, hp, rfl⟩ := hrel
    have HP := Lib.hid hp
    have HR := Lib.hid hr
    have hk0 : (0 : Int) ≤ (k : Int) := by omega
    clear hp hr
    by_cases hlt : k < n
    · have hlt' : (k : Int) < (n : Int) := by omega
      have c1 := HC.out k hlt
      have hy := HLT.out k hlt
      obtain ⟨y, hyy⟩ : ∃ x, z.getD k 0 = x := ⟨_, rfl⟩
      have HY := Lib.hid hyy
      rw [hyy] at c1 hy
      have HYL := Lib.hid hy
      clear hyy hy
      go_wp2_with fail
      go_roundw
      case rel => exact ⟨k + 1, _, _, by omega, hlt, by go_num, rfl, mmv_lt32 _ HR.out HYL.out, (fun x hx => by rw [ltF_min _ hx HR.out HYL.out, lessAll_succ, HP.out x hx, HY.out]), rfl⟩
      case measure => simp [intOf]; omega
    · obtain rfl : k = n := by omega
      go_wp2_with fail
      go_ret
      exact ⟨r, m, rfl, HR.out, HP.out, rfl⟩
theorem c_isLess (g x r : Nat) (w : World) (hc : w.cell? ⟨g, 0, none⟩ = some (.float .f32 r)) : Calls Try.prog 73 (#[.float .f32 x] ++ #[.pointer (some ⟨g, 0, none⟩)]) w fun e w' => e = .returned (.bool (ltF x r)) ∧ w = w' := by
  show Calls Try.prog 73 #[.float .f32 x, .pointer (some ⟨g, 0, none⟩)] _ _
  go_enter Try.func73, Try.ntmps73
  go_wp2_with fail
  go_ret
  exact ⟨rfl, rfl⟩
theorem any_ext {α : Type} {f g : α → Bool} {l : List α} (h : ∀ x ∈ l, f x = g x) : l.any f = l.any g := by
  induction l with
  | nil => rfl
  | cons x l ih => rw [List.any_cons, List.any_cons, h x (by simp), ih (fun y hy => h y (List.mem_cons_of_mem _ hy))]
theorem any_part (z : List Nat) (r m p : Nat) (h : m + p ≤ z.length) (hr : ∀ x, x < 4294967296 → ltF x r = lessAll (fun j => z.getD j 0) x m) (hz : ∀ y ∈ z, y < 4294967296) : (((z.drop m).take p).any fun x => ltF x r) = freshUp (fun j => z.getD j 0) m p := by
  unfold freshUp
  have e : (z.drop m).take p = (List.range p).map fun d => z.getD (m + d) 0 := by
    apply List.ext_getElem
    · simp; omega
    · intro i h1 h2
      simp at h2
      simp [List.getD, show m + i < z.length by omega]
  rw [e, List.any_map]
  refine any_ext fun d hd => ?_
  have hd' := List.mem_range.1 hd
  refine hr _ (hz _ ?_)
  simp [List.getD, show m + d < z.length by omega]
theorem isFloats_pre {w : World} {a : Option Addr} {n cap : Nat} {z : List Nat} (h : IsFloats .f32 w a n cap z) (m : Nat) (hm : m ≤ n) : IsFloats .f32 w a m cap (z.take m) := by
  obtain ⟨h1, h2, h3, h4, h5⟩ := h
  refine ⟨by omega, h2, by simp; omega, fun y hy => h4 y (List.mem_of_mem_take hy), ?_⟩
  rcases h5 with h0 | ⟨b, off, ha, hb, hc⟩
  · exact .inl (by omega)
  · refine .inr ⟨b, off, ha, hb, fun i hi => ?_⟩
    rw [hc i (by omega)]
    congr 2
    simp [List.getD, hi]
theorem isFloats_from {w : World} {b0 off n : Nat} {z : List Nat} (h : IsFloats .f32 w (some ⟨b0, off, none⟩) n n z) (lo p : Nat) (hp : 1 ≤ p) (hl : lo + p ≤ n) : IsFloats .f32 w (some ⟨b0, off + lo, none⟩) p (n - lo) ((z.drop lo).take p) := by
  have := h.part lo (lo + p) (by omega) hl (n - lo) (by omega) (by have := h.2.1; omega)
  rw [Nat.add_sub_cancel_left] at this
  simp only [Option.map_some, add_plain] at this
  exact this
theorem lessAll_take (z : List Nat) (x m : Nat) : lessAll (fun j => (z.take m).getD j 0) x m = lessAll (fun j => z.getD j 0) x m := by
  unfold lessAll
  refine List.all_eq.trans ?_ |>.trans List.all_eq.symm
  congr 1
  simp only [eq_iff_iff]
  refine forall_congr' fun j => ?_
  constructor
  · intro h hj
    have := h hj
    rw [List.mem_range] at hj
    simpa [List.getD, List.getElem?_take, hj] using this
  · intro h hj
    have := h hj
    rw [List.mem_range] at hj
    simpa [List.getD, List.getElem?_take, hj] using this
def StopRelI (z : List Nat) (p N : Nat) (Z : Option Nat) (w : World) (iv : Value) (wr : World) : Prop :=
  ∃ c : Nat, c ≤ N ∧ iv = .int .i64 ((c : Int) + 1) ∧ stopF (fun j => z.getD j 0) p (N - c) (c + 1) = Z ∧ Below w.heap.size w wr
set_option maxRecDepth 20000 in
set_option maxHeartbeats 2000000 in
theorem t_iStopAt (z : List Nat) (p : Int) (a : Option Addr) (w : World) (h : IsFloats .f32 w a z.length z.length z) : Calls Try.prog 23 #[.slice a z.length z.length, .int .i64 p] w (RetN (vStopAt z p).1 (vStopAt z p).2 w) := by
  have HF := Lib.hid h
  have hmax : z.length ≤ 9223372036854775807 := by have := h.2.1; unfold maxLen at this; exact this
  clear h
  cases hok : okStop z p with
  | false =>
    have HX := Lib.hid (vStopAt_no hok)
    rw [HX.out]
    by_cases hz : (z.length : Int) ≤ 256
    · by_cases hp : 1 ≤ p
      · by_cases hp2 : p ≤ 256
        · exfalso
          simp [okStop] at hok
          omega
        · clear hok
          go_enter Try.func23, Try.ntmps23
          go_wp2_with fail
          go_ret2
          exact ⟨rfl, Below.refl _ _⟩
      · clear hok
        go_enter Try.func23, Try.ntmps23
        go_wp2_with fail
        go_ret2
        exact ⟨rfl, Below.refl _ _⟩
    · clear hok
      go_enter Try.func23, Try.ntmps23
      go_wp2_with fail
      go_ret2
      exact ⟨rfl, Below.refl _ _⟩
  | true =>
    obtain ⟨hz, p, rfl, p1, p2⟩ := okStop_parts hok
    have HX := Lib.hid (vStopAt_yes hok)
    rw [HX.out]
    obtain ⟨Z, hZ⟩ : ∃ Z, stopF (fun j => z.getD j 0) p (z.length - p) 1 = Z := ⟨_, rfl⟩
    have HZ := Lib.hid hZ
    rw [hZ]
    obtain ⟨N, hN⟩ : ∃ N, z.length - p = N := ⟨_, rfl⟩
    rw [hN] at HZ
    have HN := Lib.hid hN
    have hz' : (z.length : Int) ≤ 256 := by omega
    have hp1 : (1 : Int) ≤ (p : Int) := by omega
    have hp2 : (p : Int) ≤ 256 := by omega
    have hb1 : decide ((256 : Int) < (z.length : Int)) = false := by simp; omega
    have hb2 : decide ((p : Int) < 1) = false := by simp; omega
    have hb3 : decide ((256 : Int) < (p : Int)) = false := by simp; omega
    have hEnt : ∀ (xs : Array Value) (wr : World), (callFunc 73 xs).run Try.prog wr = .ok (.enter 73 xs) wr := enters_of Try.func73 (by kernel_rfl) (by kernel_rfl)
    clear hok hZ hN HX
    go_enter Try.func23, Try.ntmps23
    go_wp2_with fail
    go_loopw [7] (fun iv wr => StopRelI z p N Z w iv wr) (fun iv _ => z.length + 1 - (intOf iv).toNat)
    case atStart => exact ⟨0, Nat.zero_le _, by simp, HZ.out, Below.refl _ _⟩
    case round =>
      obtain ⟨c, hc, rfl, hst, hbw⟩ := hrel
      have HST := Lib.hid hst
      have HBW := Lib.hid hbw
      have hcN : (c : Int) ≤ 256 := by have := HN.out; omega
      clear hst hbw HZ
      by_cases hlt : c + 1 + p ≤ z.length
      · have hlt' : (c : Int) + 1 + (p : Int) ≤ (z.length : Int) := by omega
        have hc1 : (0 : Int) ≤ (c : Int) + 1 := by omega
        have hc2 : (c : Int) + 1 ≤ (z.length : Int) := by omega
        have hne : ¬ z.length = c + 1 := by omega
        obtain ⟨b0, off, rfl⟩ : ∃ b0 off, a = some ⟨b0, off, none⟩ := by
          rcases HF.out.2.2.2.2 with h0 | ⟨b0, off, h0, _⟩
          · omega
          · exact ⟨b0, off, h0⟩
        have HM := Lib.hid (isFloats_pre HF.out (c + 1) (by omega))
        have HPT := Lib.hid (isFloats_from HF.out (c + 1) p (by omega) (by omega))
        go_wp2_with fail
        refine (c_sliceMin _ _ _ _ _ (HM.out.kept HBW.out) (by omega) (by omega)).mono ?_
        rintro e w1 ⟨r, m, rfl, hr, hp, rfl⟩
        have HR := Lib.hid hr
        have HP := Lib.hid (fun x hx => (hp x hx).trans (lessAll_take z x (c + 1)))
        have HBW1 := Lib.hid (below_drewN HBW.out m)
        clear hr hp
        generalize wr.drewN m = w1 at HBW1 ⊢
        go_wp2_with fail
        have HB2 := Lib.hid (HBW1.out.alloc HBW1.out.size (.cells #[.float .f32 r] 37))
        have K2 := Lib.hid (Blk.new w1 37 #[.float .f32 r])
        have HLT := Lib.hid HF.out.2.2.2.1
        refine (c_containsF 73 #[.pointer (some ⟨w1.heap.size, 0, none⟩)] (fun x => ltF x r) _ _ _ _ _ (HPT.out.kept HB2.out) hEnt (fun x _ _ => c_isLess _ x r _ (K2.out.cell 0))).mono ?_
        rintro e w' ⟨rfl, rfl⟩
        rw [any_part z r (c + 1) p hlt HP.out HLT.out]
        obtain ⟨t, ht⟩ : ∃ t, N - c = t + 1 := ⟨N - c - 1, by have := HN.out; omega⟩
        cases hfu : freshUp (fun j => z.getD j 0) (c + 1) p with
        | true =>
          have HST2 := Lib.hid (show stopF (fun j => z.getD j 0) p (N - (c + 1)) (c + 1 + 1) = Z by
            have h1 := HST.out
            rw [ht, stopF_yes hfu] at h1
            rw [show N - (c + 1) = t by omega]
            exact h1)
          clear hfu
          go_wp2_with fail
          go_roundw
          case rel => exact ⟨c + 1, by omega, by go_num, HST2.out, HB2.out⟩
          case measure => simp [intOf]; omega
        | false =>
          have HST2 := Lib.hid (show some (c + 1 + p - 1) = Z by
            have h1 := HST.out
            rw [ht, stopF_no hfu] at h1
            exact h1)
          clear hfu
          go_wp2_with fail
          go_ret2
          exact ⟨by rw [← HST2.out]; simp [endB]; omega, HB2.out⟩
      · have hlt' : (z.length : Int) < (c : Int) + 1 + (p : Int) := by omega
        have HST2 := Lib.hid (show none = Z by
          have h1 := HST.out
          rw [show N - c = 0 by have := HN.out; omega] at h1
          exact h1)
        go_wp2_with fail
        go_ret2
        exact ⟨by rw [← HST2.out]; rfl, HBW.out⟩
end Go.Proofs.Ythklfkfhhdglcaa
