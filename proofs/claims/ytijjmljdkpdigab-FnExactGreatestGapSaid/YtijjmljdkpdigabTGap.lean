/-
  What GreatestGap returns, as the model and as the program make it. Conditions: the numbers can be read.
-/
import Derived.Test.YtijjmljdkpdigabTSumAll
import Derived.Test.YtijjmljdkpdigabLike
import Derived.BigRegion
namespace Go.Proofs.Ytijjmljdkpdigab
open Go.RowKit Go.Deep Go.WideShapes Go.ChangeShapes
set_option linter.unusedVariables false

def cabs (c : Nat) : Nat := canon .f64 (c % 9223372036854775808)
theorem canon_abs (x : Nat) : canon .f64 (x % 9223372036854775808) = cabs (canon .f64 x) := by
  have e : isNan .f64 (x % 9223372036854775808) = isNan .f64 x := by rw [isNan64, isNan64, Nat.mod_mod]
  by_cases h : isNan .f64 x = true
  · rw [canon_nan (e.trans h), canon_nan h]
    decide +kernel
  · have h' : isNan .f64 x = false := by simpa using h
    unfold cabs
    rw [canon_num h']
def cgap (x y : Nat) : Nat := cabs (cop .sub .f64 (cwide (canon .f32 x)) (cwide (canon .f32 y)))
theorem gap_canon (x y : Nat) (w1 w2 w3 : World) : canon .f64 (fval .sub .f64 (wide x w1) (wide y w2) w3 % 9223372036854775808) = cgap x y := by
  rw [canon_abs, canon_fval, canon_wide, canon_wide]; rfl
def gapGo : Nat → List Nat → Nat
  | m, [] => m
  | m, d :: ds => if isNan .f64 d = true then qnan .f64 else if (FloatKind.f64.format.order d m == some .gt) = true then gapGo d ds else gapGo m ds
def gaps (xs ys : List Nat) (n : Nat) : List Nat := (List.range n).map fun i => cgap (xs.getD i 0) (ys.getD i 0)
theorem gaps_drop (xs ys : List Nat) (n k : Nat) (h : k < n) : (gaps xs ys n).drop k = cgap (xs.getD k 0) (ys.getD k 0) :: (gaps xs ys n).drop (k + 1) := by
  rw [List.drop_eq_getElem_cons (by simp [gaps]; exact h)]
  simp [gaps]
theorem gaps_end (xs ys : List Nat) (n : Nat) : (gaps xs ys n).drop n = [] := by simp [gaps]
def GapRel (xs ys : List Nat) (n G : Nat) (w : World) (s i : Value) (wr : World) : Prop := ∃ k m q : Nat, k ≤ n ∧ i = .int .i64 k ∧ s = .float .f64 m ∧ gapGo (canon .f64 m) ((gaps xs ys n).drop k) = G ∧ wr = w.drewN q
theorem canon_zero64 : canon .f64 0 = 0 := by decide +kernel
theorem b_clear64 (x : Nat) (h : x < 18446744073709551616) : bits .andNot .u64 (x : Int) 9223372036854775808 = ((x % 9223372036854775808 : Nat) : Int) := by
  have := u64_andNot_nat x 9223372036854775808 h (by decide)
  rw [show (18446744073709551615 - 9223372036854775808 : Nat) = 9223372036854775807 from rfl] at this
  rw [show x % 9223372036854775808 = x &&& 9223372036854775807 from (Nat.and_two_pow_sub_one_eq_mod x 63).symm]
  exact this
theorem c_absF (a b : Nat) (w0 w : World) : Calls Try.prog 88 #[.float .f64 (fval .sub .f64 a b w0)] w fun e w' => e = .returned (.float .f64 (fval .sub .f64 a b w0 % 9223372036854775808)) ∧ w = w' := by
  have hx : fval .sub .f64 a b w0 < 18446744073709551616 := fval_lt .sub .f64 a b w0
  obtain ⟨v, hv⟩ : ∃ v, fval .sub .f64 a b w0 = v := ⟨_, rfl⟩
  rw [hv] at hx ⊢
  have hb := b_clear64 v hx
  clear hv
  go_enter Try.func88, Try.ntmps88
  go_wp2
  go_ret
  exact ⟨rfl, rfl⟩
def vGreatestGap (r0 c0 : Int) (z0 : List Nat) (r1 c1 : Int) (z1 : List Nat) : Nat × Bool := if likeB r0 c0 r1 c1 z0.length z1.length = true then (gapGo 0 (gaps z0 z1 z0.length), true) else (0, false)
theorem like_lenG {r c r' c' : Int} {n n' : Nat} (h : likeB r c r' c' n n' = true) : n = n' ∧ n ≤ 256 := by
  obtain ⟨h1, h2, rfl, rfl⟩ := (likeB_iff _ _ _ _ _ _).1 h
  obtain ⟨_, _, e5⟩ := (vokB_iff _ _ _).1 h1
  obtain ⟨_, _, e6⟩ := (vokB_iff _ _ _).1 h2
  have := (vok256 h1).1
  omega
set_option maxHeartbeats 4000000 in
theorem t_sGreatestGap (r0 c0 : Int) (z0 : List Nat) (r1 c1 : Int) (z1 : List Nat) (a0 a1 : Option Addr) (w : World) (h0 : IsFloats .f32 w a0 z0.length z0.length z0) (h1 : IsFloats .f32 w a1 z1.length z1.length z1) :
    Calls Try.prog 41 #[.agg #[.int .i64 r0, .int .i64 c0, .slice a0 z0.length z0.length], .agg #[.int .i64 r1, .int .i64 c1, .slice a1 z1.length z1.length]] w (RetDb (vGreatestGap r0 c0 z0 r1 c1 z1).1 (vGreatestGap r0 c0 z0 r1 c1 z1).2 w) := by
  have hn : z0.length ≤ 9223372036854775807 := by have := h0.2.1; unfold maxLen at this; exact this
  have hn' : z1.length ≤ 9223372036854775807 := by have := h1.2.1; unfold maxLen at this; exact this
  have HI := Lib.hid h0
  have HJ := Lib.hid h1
  clear h0 h1
  cases hv : likeB r0 c0 r1 c1 z0.length z1.length with
  | false =>
    have HV := Lib.hid hv
    have HX := Lib.hid (show vGreatestGap r0 c0 z0 r1 c1 z1 = (0, false) by unfold vGreatestGap; rw [if_neg (by rw [hv]; decide)])
    clear hv
    rw [HX.out]
    go_enter Try.func41, Try.ntmps41
    go_wp2_with fail
    have B_0 := Lib.hid (Below.refl w.heap.size w)
    have bl := (Below.refl (w).heap.size (w)).alloc (Nat.le_refl _) (.cells #[.int .i64 r0, .int .i64 c0, .slice a0 z0.length z0.length] 26)
    have hn := Blk.new (w) 26 #[.int .i64 r0, .int .i64 c0, .slice a0 z0.length z0.length]
    have B_1 := Lib.hid (Below.next B_0.out bl)
    clear bl B_0
    have K_1 := Lib.hid hn
    clear hn
    have bl := (Below.refl ((w).alloc (.cells #[.int .i64 r0, .int .i64 c0, .slice a0 z0.length z0.length] 26)).heap.size ((w).alloc (.cells #[.int .i64 r0, .int .i64 c0, .slice a0 z0.length z0.length] 26))).alloc (Nat.le_refl _) (.cells #[.int .i64 r1, .int .i64 c1, .slice a1 z1.length z1.length] 26)
    have hn := Blk.new ((w).alloc (.cells #[.int .i64 r0, .int .i64 c0, .slice a0 z0.length z0.length] 26)) 26 #[.int .i64 r1, .int .i64 c1, .slice a1 z1.length z1.length]
    simp only [World.size_alloc] at hn
    have B_2 := Lib.hid (Below.next B_1.out bl)
    have K_2 := Lib.hid (K_1.out.below bl)
    clear bl B_1 K_1
    have L_2 := Lib.hid hn
    clear hn
    generalize ((w).alloc (.cells #[.int .i64 r0, .int .i64 c0, .slice a0 z0.length z0.length] 26)).alloc (.cells #[.int .i64 r1, .int .i64 c1, .slice a1 z1.length z1.length] 26) = w2 at B_2 K_2 L_2 ⊢
    obtain ⟨pK0, pK1, pK2, pK3⟩ := tb K_2.out
    obtain ⟨pL0, pL1, pL2, pL3⟩ := tb L_2.out
    have CL := c_l02Like w.heap.size (w.heap.size + 1) r0 c0 r1 c1 a0 a1 z0.length z1.length z0.length z1.length hn hn' w2 pK0 pK1 pK2 pL0 pL1 pL2
    rw [HV.out] at CL
    refine (CL).mono ?_
    rintro e w3 ⟨rfl, dn⟩
    have bl := dn.below
    clear dn
    have B_3 := Lib.hid (Below.next B_2.out bl)
    have K_3 := Lib.hid (K_2.out.below bl)
    have L_3 := Lib.hid (L_2.out.below bl)
    clear bl B_2 K_2 L_2
    clear CL
    clear pK0 pK1 pK2 pK3 pL0 pL1 pL2 pL3
    obtain ⟨pK0, pK1, pK2, pK3⟩ := tb K_3.out
    obtain ⟨pL0, pL1, pL2, pL3⟩ := tb L_3.out
    go_wp2_with fail
    go_ret2
    exact ⟨0, canon_zero64, rfl, B_3.out⟩
  | true =>
    have HV := Lib.hid hv
    obtain ⟨G, hG⟩ : ∃ G, gapGo 0 (gaps z0 z1 z0.length) = G := ⟨_, rfl⟩
    have HX := Lib.hid (show vGreatestGap r0 c0 z0 r1 c1 z1 = (G, true) by unfold vGreatestGap; rw [if_pos hv, hG])
    obtain ⟨hl, h256⟩ := like_lenG hv
    have HL := Lib.hid hl
    have HG := Lib.hid hG
    clear hv hl hG
    rw [HX.out]
    go_enter Try.func41, Try.ntmps41
    go_wp2_with fail
    have B_0 := Lib.hid (Below.refl w.heap.size w)
    have bl := (Below.refl (w).heap.size (w)).alloc (Nat.le_refl _) (.cells #[.int .i64 r0, .int .i64 c0, .slice a0 z0.length z0.length] 26)
    have hn := Blk.new (w) 26 #[.int .i64 r0, .int .i64 c0, .slice a0 z0.length z0.length]
    have B_1 := Lib.hid (Below.next B_0.out bl)
    clear bl B_0
    have K_1 := Lib.hid hn
    clear hn
    have bl := (Below.refl ((w).alloc (.cells #[.int .i64 r0, .int .i64 c0, .slice a0 z0.length z0.length] 26)).heap.size ((w).alloc (.cells #[.int .i64 r0, .int .i64 c0, .slice a0 z0.length z0.length] 26))).alloc (Nat.le_refl _) (.cells #[.int .i64 r1, .int .i64 c1, .slice a1 z1.length z1.length] 26)
    have hn := Blk.new ((w).alloc (.cells #[.int .i64 r0, .int .i64 c0, .slice a0 z0.length z0.length] 26)) 26 #[.int .i64 r1, .int .i64 c1, .slice a1 z1.length z1.length]
    simp only [World.size_alloc] at hn
    have B_2 := Lib.hid (Below.next B_1.out bl)
    have K_2 := Lib.hid (K_1.out.below bl)
    clear bl B_1 K_1
    have L_2 := Lib.hid hn
    clear hn
    generalize ((w).alloc (.cells #[.int .i64 r0, .int .i64 c0, .slice a0 z0.length z0.length] 26)).alloc (.cells #[.int .i64 r1, .int .i64 c1, .slice a1 z1.length z1.length] 26) = w2 at B_2 K_2 L_2 ⊢
    obtain ⟨pK0, pK1, pK2, pK3⟩ := tb K_2.out
    obtain ⟨pL0, pL1, pL2, pL3⟩ := tb L_2.out
    have CL := c_l02Like w.heap.size (w.heap.size + 1) r0 c0 r1 c1 a0 a1 z0.length z1.length z0.length z1.length hn hn' w2 pK0 pK1 pK2 pL0 pL1 pL2
    rw [HV.out] at CL
    refine (CL).mono ?_
    rintro e w3 ⟨rfl, dn⟩
    have bl := dn.below
    clear dn
    have B_3 := Lib.hid (Below.next B_2.out bl)
    have K_3 := Lib.hid (K_2.out.below bl)
    have L_3 := Lib.hid (L_2.out.below bl)
    clear bl B_2 K_2 L_2
    clear CL
    clear pK0 pK1 pK2 pK3 pL0 pL1 pL2 pL3
    obtain ⟨pK0, pK1, pK2, pK3⟩ := tb K_3.out
    obtain ⟨pL0, pL1, pL2, pL3⟩ := tb L_3.out
    go_wp2_with fail
    go_loopw [6, 7] (fun s i wr => GapRel z0 z1 z0.length G w3 s i wr) (fun _ i _ => z0.length - (intOf i).toNat)
    case atStart => exact ⟨0, 0, _, Nat.zero_le _, rfl, rfl, by rw [canon_zero64]; exact HG.out, (World.drewN_zero _).symm⟩
    case round =>
      obtain ⟨k, m, q, hk, rfl, rfl, hg, rfl⟩ := hrel
      have HGO := Lib.hid hg
      have hk0 : (0 : Int) ≤ (k : Int) := by omega
      clear hg
      by_cases hlt : k < z0.length
      · have hlt' : (k : Int) < (z0.length : Int) := by omega
        have hlt2 : (k : Int) < (z1.length : Int) := by have := HL.out; omega
        rcases HI.out.2.2.2.2 with h' | ⟨ab, off, rfl, hab, hcell⟩
        · omega
        rcases HJ.out.2.2.2.2 with h' | ⟨ab2, off2, rfl, hab2, hcell2⟩
        · omega
        have hx : w3.cell? ⟨ab, off + k, none⟩ = some (.float .f32 (z0.getD k 0)) := (B_3.out.cell (p := ⟨ab, off + k, none⟩) hab).trans (hcell k hlt)
        have hx2 : w3.cell? ⟨ab2, off2 + k, none⟩ = some (.float .f32 (z1.getD k 0)) := (B_3.out.cell (p := ⟨ab2, off2 + k, none⟩) hab2).trans (hcell2 k (by have := HL.out; omega))
        have hd := gaps_drop z0 z1 z0.length k hlt
        obtain ⟨x, hxx⟩ : ∃ x, z0.getD k 0 = x := ⟨_, rfl⟩
        obtain ⟨y, hyy⟩ : ∃ y, z1.getD k 0 = y := ⟨_, rfl⟩
        rw [hxx] at hx hd
        rw [hyy] at hx2 hd
        have hgo := HGO.out
        rw [hd] at hgo
        unfold gapGo at hgo
        clear hcell hcell2 hxx hyy hd HGO
        by_cases hnan : isNan .f64 (cgap x y) = true
        · rw [if_pos hnan] at hgo
          have HQ := Lib.hid hgo
          have HC := Lib.hid (show cgap x y = qnan .f64 from (canon_canon .f64 _).symm.trans (canon_nan hnan))
          have hN : ∀ w1 w2 w3, (FloatKind.f64.format.order (fval .sub .f64 (wide x w1) (wide y w2) w3 % 9223372036854775808) (fval .sub .f64 (wide x w1) (wide y w2) w3 % 9223372036854775808) != some .eq) = true := fun w1 w2 w3 => by rw [order_self_ne, ← isNan_canon, gap_canon]; exact hnan
          have HN := Lib.hid hnan
          clear hgo hnan
          go_wp2_with fail
          go_region_with (go_at_call 88; refine (c_absF _ _ _ _).mono ?_; rintro e wz ⟨rfl, rfl⟩)
          all_goals (go_wp2_with fail)
          all_goals
            go_ret2
            exact ⟨_, by rw [gap_canon, HC.out]; exact HQ.out, rfl, below_drewN B_3.out _⟩
        · rw [if_neg hnan] at hgo
          have hnf : isNan .f64 (cgap x y) = false := by simpa using hnan
          have hN : ∀ w1 w2 w3, (FloatKind.f64.format.order (fval .sub .f64 (wide x w1) (wide y w2) w3 % 9223372036854775808) (fval .sub .f64 (wide x w1) (wide y w2) w3 % 9223372036854775808) != some .eq) = false := fun w1 w2 w3 => by rw [order_self_ne, ← isNan_canon, gap_canon]; exact hnf
          by_cases hgt : (FloatKind.f64.format.order (cgap x y) (canon .f64 m) == some .gt) = true
          · rw [if_pos hgt] at hgo
            have hG : ∀ w1 w2 w3, (FloatKind.f64.format.order (fval .sub .f64 (wide x w1) (wide y w2) w3 % 9223372036854775808) m == some .gt) = true := fun w1 w2 w3 => by rw [← order_canon, gap_canon]; exact hgt
            have HQ := Lib.hid hgo
            clear hgo hnan hnf hgt
            go_wp2_with fail
            go_region_with (go_at_call 88; refine (c_absF _ _ _ _).mono ?_; rintro e wz ⟨rfl, rfl⟩)
            all_goals (go_wp2_with fail)
            all_goals
              go_roundw
              case rel => exact ⟨k + 1, _, _, by omega, by go_num, rfl, by rw [gap_canon]; exact HQ.out, rfl⟩
              case measure => simp [intOf]; omega
          · rw [if_neg hgt] at hgo
            have hgf : (FloatKind.f64.format.order (cgap x y) (canon .f64 m) == some .gt) = false := by simpa using hgt
            have hG : ∀ w1 w2 w3, (FloatKind.f64.format.order (fval .sub .f64 (wide x w1) (wide y w2) w3 % 9223372036854775808) m == some .gt) = false := fun w1 w2 w3 => by rw [← order_canon, gap_canon]; exact hgf
            have HQ := Lib.hid hgo
            clear hgo hnan hnf hgt hgf
            go_wp2_with fail
            go_region_with (go_at_call 88; refine (c_absF _ _ _ _).mono ?_; rintro e wz ⟨rfl, rfl⟩)
            all_goals (go_wp2_with fail)
            all_goals
              go_roundw
              case rel => exact ⟨k + 1, _, _, by omega, by go_num, rfl, HQ.out, rfl⟩
              case measure => simp [intOf]; omega
      · have hkn : k = z0.length := by omega
        have hgo := HGO.out
        rw [hkn, gaps_end] at hgo
        have HQ := Lib.hid hgo
        clear hkn hgo
        go_wp2_with fail
        go_ret2
        exact ⟨m, HQ.out, rfl, below_drewN B_3.out _⟩
set_option maxHeartbeats 4000000 in
theorem t_iGreatestGap (r0 c0 : Int) (z0 : List Nat) (r1 c1 : Int) (z1 : List Nat) (a0 a1 : Option Addr) (w : World) (h0 : IsFloats .f32 w a0 z0.length z0.length z0) (h1 : IsFloats .f32 w a1 z1.length z1.length z1) :
    Calls Try.prog 42 #[.agg #[.int .i64 r0, .int .i64 c0, .slice a0 z0.length z0.length], .agg #[.int .i64 r1, .int .i64 c1, .slice a1 z1.length z1.length]] w (RetDb (vGreatestGap r0 c0 z0 r1 c1 z1).1 (vGreatestGap r0 c0 z0 r1 c1 z1).2 w) := by
  have hn : z0.length ≤ 9223372036854775807 := by have := h0.2.1; unfold maxLen at this; exact this
  have hn' : z1.length ≤ 9223372036854775807 := by have := h1.2.1; unfold maxLen at this; exact this
  have HI := Lib.hid h0
  have HJ := Lib.hid h1
  clear h0 h1
  cases hv : likeB r0 c0 r1 c1 z0.length z1.length with
  | false =>
    have HV := Lib.hid hv
    have HX := Lib.hid (show vGreatestGap r0 c0 z0 r1 c1 z1 = (0, false) by unfold vGreatestGap; rw [if_neg (by rw [hv]; decide)])
    clear hv
    rw [HX.out]
    go_enter Try.func42, Try.ntmps42
    go_wp2_with fail
    have B_0 := Lib.hid (Below.refl w.heap.size w)
    have bl := (Below.refl (w).heap.size (w)).alloc (Nat.le_refl _) (.cells #[.int .i64 r0, .int .i64 c0, .slice a0 z0.length z0.length] 26)
    have hn := Blk.new (w) 26 #[.int .i64 r0, .int .i64 c0, .slice a0 z0.length z0.length]
    have B_1 := Lib.hid (Below.next B_0.out bl)
    clear bl B_0
    have K_1 := Lib.hid hn
    clear hn
    have bl := (Below.refl ((w).alloc (.cells #[.int .i64 r0, .int .i64 c0, .slice a0 z0.length z0.length] 26)).heap.size ((w).alloc (.cells #[.int .i64 r0, .int .i64 c0, .slice a0 z0.length z0.length] 26))).alloc (Nat.le_refl _) (.cells #[.int .i64 r1, .int .i64 c1, .slice a1 z1.length z1.length] 26)
    have hn := Blk.new ((w).alloc (.cells #[.int .i64 r0, .int .i64 c0, .slice a0 z0.length z0.length] 26)) 26 #[.int .i64 r1, .int .i64 c1, .slice a1 z1.length z1.length]
    simp only [World.size_alloc] at hn
    have B_2 := Lib.hid (Below.next B_1.out bl)
    have K_2 := Lib.hid (K_1.out.below bl)
    clear bl B_1 K_1
    have L_2 := Lib.hid hn
    clear hn
    generalize ((w).alloc (.cells #[.int .i64 r0, .int .i64 c0, .slice a0 z0.length z0.length] 26)).alloc (.cells #[.int .i64 r1, .int .i64 c1, .slice a1 z1.length z1.length] 26) = w2 at B_2 K_2 L_2 ⊢
    have CL := c_haveSameShape r0 c0 r1 c1 a0 a1 z0.length z1.length z0.length z1.length w2
    rw [HV.out] at CL
    refine (CL).mono ?_
    rintro e w3 ⟨rfl, bl⟩
    have B_3 := Lib.hid (Below.next B_2.out bl)
    have K_3 := Lib.hid (K_2.out.below bl)
    have L_3 := Lib.hid (L_2.out.below bl)
    clear bl B_2 K_2 L_2
    clear CL
    obtain ⟨pK0, pK1, pK2, pK3⟩ := tb K_3.out
    obtain ⟨pL0, pL1, pL2, pL3⟩ := tb L_3.out
    go_wp2_with fail
    go_ret2
    exact ⟨0, canon_zero64, rfl, B_3.out⟩
  | true =>
    have HV := Lib.hid hv
    obtain ⟨G, hG⟩ : ∃ G, gapGo 0 (gaps z0 z1 z0.length) = G := ⟨_, rfl⟩
    have HX := Lib.hid (show vGreatestGap r0 c0 z0 r1 c1 z1 = (G, true) by unfold vGreatestGap; rw [if_pos hv, hG])
    obtain ⟨hl, h256⟩ := like_lenG hv
    have HL := Lib.hid hl
    have HG := Lib.hid hG
    clear hv hl hG
    rw [HX.out]
    go_enter Try.func42, Try.ntmps42
    go_wp2_with fail
    have B_0 := Lib.hid (Below.refl w.heap.size w)
    have bl := (Below.refl (w).heap.size (w)).alloc (Nat.le_refl _) (.cells #[.int .i64 r0, .int .i64 c0, .slice a0 z0.length z0.length] 26)
    have hn := Blk.new (w) 26 #[.int .i64 r0, .int .i64 c0, .slice a0 z0.length z0.length]
    have B_1 := Lib.hid (Below.next B_0.out bl)
    clear bl B_0
    have K_1 := Lib.hid hn
    clear hn
    have bl := (Below.refl ((w).alloc (.cells #[.int .i64 r0, .int .i64 c0, .slice a0 z0.length z0.length] 26)).heap.size ((w).alloc (.cells #[.int .i64 r0, .int .i64 c0, .slice a0 z0.length z0.length] 26))).alloc (Nat.le_refl _) (.cells #[.int .i64 r1, .int .i64 c1, .slice a1 z1.length z1.length] 26)
    have hn := Blk.new ((w).alloc (.cells #[.int .i64 r0, .int .i64 c0, .slice a0 z0.length z0.length] 26)) 26 #[.int .i64 r1, .int .i64 c1, .slice a1 z1.length z1.length]
    simp only [World.size_alloc] at hn
    have B_2 := Lib.hid (Below.next B_1.out bl)
    have K_2 := Lib.hid (K_1.out.below bl)
    clear bl B_1 K_1
    have L_2 := Lib.hid hn
    clear hn
    generalize ((w).alloc (.cells #[.int .i64 r0, .int .i64 c0, .slice a0 z0.length z0.length] 26)).alloc (.cells #[.int .i64 r1, .int .i64 c1, .slice a1 z1.length z1.length] 26) = w2 at B_2 K_2 L_2 ⊢
    have CL := c_haveSameShape r0 c0 r1 c1 a0 a1 z0.length z1.length z0.length z1.length w2
    rw [HV.out] at CL
    refine (CL).mono ?_
    rintro e w3 ⟨rfl, bl⟩
    have B_3 := Lib.hid (Below.next B_2.out bl)
    have K_3 := Lib.hid (K_2.out.below bl)
    have L_3 := Lib.hid (L_2.out.below bl)
    clear bl B_2 K_2 L_2
    clear CL
    obtain ⟨pK0, pK1, pK2, pK3⟩ := tb K_3.out
    obtain ⟨pL0, pL1, pL2, pL3⟩ := tb L_3.out
    go_wp2_with fail
    go_loopw [6, 17] (fun s i wr => GapRel z0 z1 z0.length G w3 s i wr) (fun _ i _ => z0.length - (intOf i).toNat)
    case atStart => exact ⟨0, 0, _, Nat.zero_le _, rfl, rfl, by rw [canon_zero64]; exact HG.out, (World.drewN_zero _).symm⟩
    case round =>
      obtain ⟨k, m, q, hk, rfl, rfl, hg, rfl⟩ := hrel
      have HGO := Lib.hid hg
      have hk0 : (0 : Int) ≤ (k : Int) := by omega
      clear hg
      by_cases hlt : k < z0.length
      · have hlt' : (k : Int) < (z0.length : Int) := by omega
        have hlt2 : (k : Int) < (z1.length : Int) := by have := HL.out; omega
        rcases HI.out.2.2.2.2 with h' | ⟨ab, off, rfl, hab, hcell⟩
        · omega
        rcases HJ.out.2.2.2.2 with h' | ⟨ab2, off2, rfl, hab2, hcell2⟩
        · omega
        have hx : w3.cell? ⟨ab, off + k, none⟩ = some (.float .f32 (z0.getD k 0)) := (B_3.out.cell (p := ⟨ab, off + k, none⟩) hab).trans (hcell k hlt)
        have hx2 : w3.cell? ⟨ab2, off2 + k, none⟩ = some (.float .f32 (z1.getD k 0)) := (B_3.out.cell (p := ⟨ab2, off2 + k, none⟩) hab2).trans (hcell2 k (by have := HL.out; omega))
        have hd := gaps_drop z0 z1 z0.length k hlt
        obtain ⟨x, hxx⟩ : ∃ x, z0.getD k 0 = x := ⟨_, rfl⟩
        obtain ⟨y, hyy⟩ : ∃ y, z1.getD k 0 = y := ⟨_, rfl⟩
        rw [hxx] at hx hd
        rw [hyy] at hx2 hd
        have hgo := HGO.out
        rw [hd] at hgo
        unfold gapGo at hgo
        clear hcell hcell2 hxx hyy hd HGO
        by_cases hnan : isNan .f64 (cgap x y) = true
        · rw [if_pos hnan] at hgo
          have HQ := Lib.hid hgo
          have HC := Lib.hid (show cgap x y = qnan .f64 from (canon_canon .f64 _).symm.trans (canon_nan hnan))
          have hN : ∀ w1 w2 w3, (FloatKind.f64.format.order (fval .sub .f64 (wide x w1) (wide y w2) w3 % 9223372036854775808) (fval .sub .f64 (wide x w1) (wide y w2) w3 % 9223372036854775808) != some .eq) = true := fun w1 w2 w3 => by rw [order_self_ne, ← isNan_canon, gap_canon]; exact hnan
          have HN := Lib.hid hnan
          clear hgo hnan
          go_wp2_with fail
          refine (c_absF _ _ _ _).mono ?_
          rintro e wz ⟨rfl, rfl⟩
          go_wp2_with go_in
          all_goals
            go_ret2
            exact ⟨_, (show canon .f64 9221120237041090561 = G by rw [← HQ.out]; decide +kernel), rfl, below_drewN B_3.out _⟩
        · rw [if_neg hnan] at hgo
          have hnf : isNan .f64 (cgap x y) = false := by simpa using hnan
          have hN : ∀ w1 w2 w3, (FloatKind.f64.format.order (fval .sub .f64 (wide x w1) (wide y w2) w3 % 9223372036854775808) (fval .sub .f64 (wide x w1) (wide y w2) w3 % 9223372036854775808) != some .eq) = false := fun w1 w2 w3 => by rw [order_self_ne, ← isNan_canon, gap_canon]; exact hnf
          by_cases hgt : (FloatKind.f64.format.order (cgap x y) (canon .f64 m) == some .gt) = true
          · rw [if_pos hgt] at hgo
            have hG : ∀ w1 w2 w3, (FloatKind.f64.format.order (fval .sub .f64 (wide x w1) (wide y w2) w3 % 9223372036854775808) m == some .gt) = true := fun w1 w2 w3 => by rw [← order_canon, gap_canon]; exact hgt
            have HQ := Lib.hid hgo
            clear hgo hnan hnf hgt
            go_wp2_with fail
            refine (c_absF _ _ _ _).mono ?_
            rintro e wz ⟨rfl, rfl⟩
            go_wp2_with go_in
            all_goals
              go_roundw
              case rel => exact ⟨k + 1, _, _, by omega, by go_num, rfl, by rw [gap_canon]; exact HQ.out, rfl⟩
              case measure => simp [intOf]; omega
          · rw [if_neg hgt] at hgo
            have hgf : (FloatKind.f64.format.order (cgap x y) (canon .f64 m) == some .gt) = false := by simpa using hgt
            have hG : ∀ w1 w2 w3, (FloatKind.f64.format.order (fval .sub .f64 (wide x w1) (wide y w2) w3 % 9223372036854775808) m == some .gt) = false := fun w1 w2 w3 => by rw [← order_canon, gap_canon]; exact hgf
            have HQ := Lib.hid hgo
            clear hgo hnan hnf hgt hgf
            go_wp2_with fail
            refine (c_absF _ _ _ _).mono ?_
            rintro e wz ⟨rfl, rfl⟩
            go_wp2_with go_in
            all_goals
              go_roundw
              case rel => exact ⟨k + 1, _, _, by omega, by go_num, rfl, HQ.out, rfl⟩
              case measure => simp [intOf]; omega
      · have hkn : k = z0.length := by omega
        have hgo := HGO.out
        rw [hkn, gaps_end] at hgo
        have HQ := Lib.hid hgo
        clear hkn hgo
        go_wp2_with fail
        go_ret2
        exact ⟨m, HQ.out, rfl, below_drewN B_3.out _⟩
end Go.Proofs.Ytijjmljdkpdigab
