/-
  Loss scales: whether they are valid, and what they become behind a step. Conditions: the numbers fit their kinds.
-/
import Derived.Test.YtgffcmmdmenefaaMm
import Derived.Test.YtgffcmmdmenefaaEx32
import Derived.Test.YtgffcmmdmenefaaTens
namespace Go.Proofs.Ytgffcmmdmenefaa
open Go.RowKit
set_option linter.unusedVariables false

def scV (s : Nat) (g q : Int) : Value := .agg #[.float .f32 s, .int .i64 g, .int .i64 q]
def okSc (s : Nat) : Bool := decide (947912704 ≤ s) && decide (s ≤ 1266679808)
def okLS (s : Nat) (g q : Int) : Bool := okSc s && ((decide (0 ≤ g) && decide (g ≤ 1000)) && (decide (1 ≤ q) && decide (q ≤ 1000)))
def clampS (x : Nat) : Nat := if x < 947912704 ∨ 2147483648 ≤ x then 947912704 else if x ≤ 1266679808 then x else 1266679808
theorem num_least : isNan .f32 947912704 = false := num32_of (by decide)
theorem num_most : isNan .f32 1266679808 = false := num32_of (by decide)
/-- how a number stands to both limits -/
theorem sc_ways {x : Nat} (hx : x < 4294967296) : (isNan .f32 x = true ∧ okSc x = false ∧ ∀ c, FloatKind.f32.format.order x c = none) ∨
    (FloatKind.f32.format.order x 947912704 = some .lt ∧ okSc x = false ∧ clampS x = 947912704) ∨
    (FloatKind.f32.format.order x 947912704 = some .gt ∧ FloatKind.f32.format.order x 1266679808 = some .gt ∧ okSc x = false ∧ clampS x = 1266679808) ∨
    ((FloatKind.f32.format.order x 947912704 = some .gt ∨ x = 947912704) ∧ (FloatKind.f32.format.order x 1266679808 = some .lt ∨ x = 1266679808) ∧ okSc x = true ∧ clampS x = x) := by
  cases hn : isNan .f32 x with
  | true =>
    refine .inl ⟨rfl, ?_, fun c => order_isNan_l c hn⟩
    rw [isNan32] at hn
    simp only [decide_eq_true_eq] at hn
    simp only [okSc, Bool.and_eq_false_iff, decide_eq_false_iff_not]
    omega
  | false =>
    refine .inr ?_
    have kl : k32 947912704 = 947912704 := rfl
    have km : k32 1266679808 = 1266679808 := rfl
    by_cases h1 : x < 947912704 ∨ 2147483648 ≤ x
    · refine .inl ⟨ord_lt hx (by decide) hn num_least ?_, ?_, if_pos h1⟩
      · rw [kl]; unfold k32; split <;> omega
      · simp only [okSc, Bool.and_eq_false_iff, decide_eq_false_iff_not]; omega
    · refine .inr ?_
      have hk : k32 x = x := k32_nn (by omega)
      by_cases h2 : x ≤ 1266679808
      · refine .inr ⟨?_, ?_, ?_, ?_⟩
        · by_cases e : x = 947912704
          · exact .inr e
          · exact .inl (ord_gt hx (by decide) hn num_least (by rw [kl, hk]; omega))
        · by_cases e : x = 1266679808
          · exact .inr e
          · exact .inl (ord_lt hx (by decide) hn num_most (by rw [km, hk]; omega))
        · simp only [okSc, Bool.and_eq_true, decide_eq_true_eq]; omega
        · unfold clampS; rw [if_neg h1, if_pos h2]
      · refine .inl ⟨ord_gt hx (by decide) hn num_least (by rw [kl, hk]; omega), ord_gt hx (by decide) hn num_most (by rw [km, hk]; omega), ?_, ?_⟩
        · simp only [okSc, Bool.and_eq_false_iff, decide_eq_false_iff_not]; omega
        · unfold clampS; rw [if_neg h1, if_neg h2]
theorem ord_same {x : Nat} (h : isNan .f32 x = false) : FloatKind.f32.format.order x x = some .eq := order_refl h
theorem c_l06Scale (x : Nat) (hx : x < 4294967296) (w : World) : Calls Try.prog 88 #[.float .f32 x] w fun e w' => e = .returned (.bool (okSc x)) ∧ w = w' := by
  rcases sc_ways hx with ⟨_, hk, h⟩ | ⟨h1, hk, _⟩ | ⟨h1, h2, hk, _⟩ | ⟨h1, h2, hk, _⟩
  · have h1 := h 947912704
    rw [hk]
    clear h hk hx
    go_enter Try.func88, Try.ntmps88
    go_wp2
    go_ret
    exact ⟨rfl, rfl⟩
  · rw [hk]
    clear hk hx
    go_enter Try.func88, Try.ntmps88
    go_wp2
    go_ret
    exact ⟨rfl, rfl⟩
  · rw [hk]
    clear hk hx
    go_enter Try.func88, Try.ntmps88
    go_wp2
    go_ret
    exact ⟨rfl, rfl⟩
  · rw [hk]
    clear hk hx
    have e1 : (FloatKind.f32.format.order x 947912704 == some .gt || FloatKind.f32.format.order x 947912704 == some .eq) = true := by
      rcases h1 with h | h
      · rw [h]; rfl
      · rw [h, ord_same num_least]; rfl
    have e2 := Lib.hid (show (FloatKind.f32.format.order x 1266679808 == some .lt || FloatKind.f32.format.order x 1266679808 == some .eq) = true by
      rcases h2 with h | h
      · rw [h]; rfl
      · rw [h, ord_same num_most]; rfl)
    clear h1 h2
    go_enter Try.func88, Try.ntmps88
    go_wp2
    go_ret
    exact ⟨ret_b (by rw [e2.out]), rfl⟩
theorem c_nearestScale (x : Nat) (hx : x < 4294967296) (hn : isNan .f32 x = false) (w : World) : Calls Try.prog 89 #[.float .f32 x] w fun e w' => e = .returned (.float .f32 (clampS x)) ∧ w = w' := by
  have hm : FloatKind.f32.format.order 947912704 1266679808 = some .lt := ord_lt (by decide) (by decide) num_least num_most (by decide)
  rcases sc_ways hx with ⟨h, _, _⟩ | ⟨h1, _, hc⟩ | ⟨h1, h2, _, hc⟩ | ⟨h1, h2, _, hc⟩
  · rw [hn] at h; cases h
  · rw [hc]
    have M1 := fun w => mm_lt (b := true) w h1
    have D1 := mmDr_some h1
    have M2 := fun w => mm_lt (b := false) w hm
    have D2 := mmDr_some hm
    clear hc hx hn h1 hm
    go_enter Try.func89, Try.ntmps89
    go_wp2
    go_ret
    exact ⟨rfl, rfl⟩
  · rw [hc]
    have M1 := fun w => mm_gt (b := true) w h1
    have D1 := mmDr_some h1
    have M2 := fun w => mm_gt (b := false) w h2
    have D2 := mmDr_some h2
    clear hc hx hn h1 h2 hm
    go_enter Try.func89, Try.ntmps89
    go_wp2
    go_ret
    exact ⟨rfl, rfl⟩
  · rw [hc]
    have M1 : ∀ w, mmv true .f32 x 947912704 w = x := fun w => by
      rcases h1 with h | h
      · exact mm_gt w h
      · rw [h]; exact mm_same w num_least
    have D1 : mmDr .f32 x 947912704 = 0 := by
      rcases h1 with h | h
      · exact mmDr_some h
      · rw [h]; exact mmDr_some (ord_same num_least)
    have M2 : ∀ w, mmv false .f32 x 1266679808 w = x := fun w => by
      rcases h2 with h | h
      · exact mm_lt w h
      · rw [h]; exact mm_same w num_most
    have D2 : mmDr .f32 x 1266679808 = 0 := by
      rcases h2 with h | h
      · exact mmDr_some h
      · rw [h]; exact mmDr_some (ord_same num_most)
    clear hc hx hn h1 h2 hm
    go_enter Try.func89, Try.ntmps89
    go_wp2
    go_ret
    exact ⟨rfl, rfl⟩
theorem c_nearestScale_nan (x : Nat) (hn : isNan .f32 x = true) (w : World) : Calls Try.prog 89 #[.float .f32 x] w fun e w' => (∃ r, e = .returned (.float .f32 r) ∧ isNan .f32 r = true) ∧ Drawn w w' := by
  have H := Lib.hid hn
  clear hn
  go_enter Try.func89, Try.ntmps89
  go_wp2
  go_ret
  exact ⟨⟨_, rfl, mmv_nan_l _ _ (mmv_nan_l _ _ H.out)⟩, Drawn.mk _ _⟩
theorem clamp_lt {x : Nat} (hx : x < 4294967296) : clampS x < 4294967296 := by unfold clampS; (repeat' split) <;> omega
theorem clamp_num (x : Nat) : isNan .f32 (clampS x) = false := by
  unfold clampS
  split
  · exact num_least
  · split
    · exact num32_of (by omega)
    · exact num_most
theorem c_isScale (x : Nat) (hx : x < 4294967296) (w : World) : Calls Try.prog 50 #[.float .f32 x] w fun e w' => e = .returned (.bool (okSc x)) ∧ Drawn w w' := by
  cases hn : isNan .f32 x with
  | true =>
    have HN := Lib.hid hn
    have HO := Lib.hid (show okSc x = false by
      rcases sc_ways hx with ⟨_, h, _⟩ | ⟨_, h, _⟩ | ⟨_, _, h, _⟩ | ⟨_, _, h, h'⟩
      · exact h
      · exact h
      · exact h
      · have := clamp_num x; rw [h', hn] at this; cases this)
    clear hn
    go_enter Try.func50, Try.ntmps50
    go_wp2_with (go_at_call 89; refine (c_nearestScale_nan _ HN.out _).mono ?_; rintro e w' ⟨⟨r, rfl, hr⟩, m, rfl⟩; have HR := Lib.hid hr; clear hr)
    go_ret
    exact ⟨ret_b (by rw [HO.out, order_isNan_l _ HN.out]; rfl), Drawn.mk _ _⟩
  | false =>
    have HN := Lib.hid hn
    have HO := Lib.hid (show (FloatKind.f32.format.order x (clampS x) == some .eq) = okSc x by
      rcases sc_ways hx with ⟨h, _, _⟩ | ⟨h1, h, h'⟩ | ⟨_, h1, h, h'⟩ | ⟨_, _, h, h'⟩
      · rw [hn] at h; cases h
      · rw [h, h', h1]; rfl
      · rw [h, h', h1]; rfl
      · rw [h, h', ord_same hn]; rfl)
    clear hn
    go_enter Try.func50, Try.ntmps50
    go_wp2_with (go_at_call 89; refine (c_nearestScale _ hx HN.out _).mono ?_; rintro e w' ⟨rfl, rfl⟩)
    go_ret
    exact ⟨ret_b (by rw [← HO.out]), Drawn.refl _⟩
theorem okLS_sc {s : Nat} {g q : Int} (h : okLS s g q = true) : 947912704 ≤ s ∧ s ≤ 1266679808 ∧ 0 ≤ g ∧ g ≤ 1000 ∧ 1 ≤ q ∧ q ≤ 1000 := by
  simp only [okLS, okSc, Bool.and_eq_true, decide_eq_true_eq] at h
  omega
def nS (s : Nat) (g q : Int) (f : Bool) : Nat := if f then (if q ≤ g + 1 then clampS (s + 8388608) else s) else clampS (s - 8388608)
def nG (g q : Int) (f : Bool) : Int := if f then (if q ≤ g + 1 then 0 else g + 1) else 0
def vNext (s : Nat) (g q : Int) (f : Bool) : Nat × Int × Int × Bool := if okLS s g q then (nS s g q f, nG g q f, q, true) else (0, 0, 0, false)
/-- a loss scale and ok -/
def RetSc (v : Nat × Int × Int × Bool) (w : World) (e : Ending) (w' : World) : Prop := e = .returned (.tuple #[scV v.1 v.2.1 v.2.2.1, .bool v.2.2.2]) ∧ Below w.heap.size w w'
theorem c_in1000 (n lo : Int) (w : World) : Calls Try.prog 62 #[.int .i64 n, .int .i64 lo, .int .i64 1000] w fun e w' => e = .returned (.bool (decide (lo ≤ n) && decide (n ≤ 1000))) ∧ w = w' := c_l00In n lo 1000 _ rfl w
theorem c_l06Is (s : Nat) (g q : Int) (hs : s < 4294967296) (w : World) : Calls Try.prog 49 #[scV s g q] w (RetB (okLS s g q) w) := by
  unfold scV
  obtain ⟨a, ha⟩ : ∃ a, okSc s = a := ⟨_, rfl⟩
  obtain ⟨b, hb⟩ : ∃ b, (decide (0 ≤ g) && decide (g ≤ 1000)) = b := ⟨_, rfl⟩
  obtain ⟨c, hc⟩ : ∃ c, (decide (1 ≤ q) && decide (q ≤ 1000)) = c := ⟨_, rfl⟩
  have HX := Lib.hid (show okLS s g q = (a && (b && c)) by unfold okLS; rw [ha, hb, hc])
  have HA := Lib.hid ha
  have HB := Lib.hid hb
  have HC := Lib.hid hc
  clear ha hb hc
  rw [HX.out]
  cases a <;> cases b <;>
  (go_enter Try.func49, Try.ntmps49
   go_wp2_with (first | (go_at_call 88; refine (c_l06Scale _ hs _).mono ?_; rintro e w' ⟨rfl, rfl⟩; rw [HA.out]) | (go_at_call 62; refine (c_in1000 _ _ _).mono ?_; rintro e w' ⟨rfl, rfl⟩; first | rw [HB.out] | rw [HC.out]))
   go_ret
   exact ⟨rfl, (Below.refl _ _).alloc (Nat.le_refl _) _⟩)
theorem t_sValidScale (s : Nat) (g q : Int) (hs : s < 4294967296) (w : World) : Calls Try.prog 15 #[scV s g q] w (RetB (okLS s g q) w) := by
  have HI := Lib.hid (fun w => c_l06Is s g q hs w)
  unfold scV at HI ⊢
  have B1 := Lib.hid ((Below.refl w.heap.size w).alloc (Nat.le_refl _) (.cells #[.float .f32 s, .int .i64 g, .int .i64 q] 26))
  go_enter Try.func15, Try.ntmps15
  go_wp2_with fail
  refine (HI.out _).mono ?_
  rintro e w' ⟨rfl, hb⟩
  have HB := Lib.hid (Below.next B1.out hb)
  clear hb
  go_wp2_with fail
  go_ret
  exact ⟨rfl, HB.out⟩
set_option maxHeartbeats 1000000 in
theorem t_iValidScale (s : Nat) (g q : Int) (hs : s < 4294967296) (w : World) : Calls Try.prog 17 #[scV s g q] w (RetB (okLS s g q) w) := by
  unfold scV
  obtain ⟨a, ha⟩ : ∃ a, okSc s = a := ⟨_, rfl⟩
  have HX := Lib.hid (show okLS s g q = (a && ((decide (0 ≤ g) && decide (g ≤ 1000)) && (decide (1 ≤ q) && decide (q ≤ 1000)))) by unfold okLS; rw [ha])
  have HA := Lib.hid ha
  clear ha
  rw [HX.out]
  cases a with
  | false =>
    go_enter Try.func17, Try.ntmps17
    go_wp2_with (go_at_call 50; refine (c_isScale _ hs _).mono ?_; rintro e w' ⟨rfl, m, rfl⟩; rw [HA.out])
    go_ret
    exact ⟨rfl, below_drewN ((Below.refl _ _).alloc (Nat.le_refl _) _) _⟩
  | true =>
    by_cases h1 : 0 ≤ g
    case neg =>
      have e := Lib.hid (decide_eq_false h1)
      go_enter Try.func17, Try.ntmps17
      go_wp2_with (go_at_call 50; refine (c_isScale _ hs _).mono ?_; rintro e w' ⟨rfl, m, rfl⟩; rw [HA.out])
      go_ret
      exact ⟨ret_b (by rw [e.out]; simp), below_drewN ((Below.refl _ _).alloc (Nat.le_refl _) _) _⟩
    by_cases h2 : g ≤ 1000
    case neg =>
      have e := Lib.hid (decide_eq_false h2)
      have h2' : 1000 < g := by omega
      go_enter Try.func17, Try.ntmps17
      go_wp2_with (go_at_call 50; refine (c_isScale _ hs _).mono ?_; rintro e w' ⟨rfl, m, rfl⟩; rw [HA.out])
      go_ret
      exact ⟨ret_b (by rw [e.out]; simp), below_drewN ((Below.refl _ _).alloc (Nat.le_refl _) _) _⟩
    by_cases h3 : 1 ≤ q
    case neg =>
      have e := Lib.hid (decide_eq_false h3)
      go_enter Try.func17, Try.ntmps17
      go_wp2_with (go_at_call 50; refine (c_isScale _ hs _).mono ?_; rintro e w' ⟨rfl, m, rfl⟩; rw [HA.out])
      go_ret
      exact ⟨ret_b (by rw [e.out]; simp), below_drewN ((Below.refl _ _).alloc (Nat.le_refl _) _) _⟩
    have e1 := Lib.hid (decide_eq_true h1)
    have e2 := Lib.hid (decide_eq_true h2)
    have e3 := Lib.hid (decide_eq_true h3)
    go_enter Try.func17, Try.ntmps17
    go_wp2_with (go_at_call 50; refine (c_isScale _ hs _).mono ?_; rintro e w' ⟨rfl, m, rfl⟩; rw [HA.out])
    go_ret
    exact ⟨ret_b (by rw [e1.out, e2.out, e3.out]; simp), below_drewN ((Below.refl _ _).alloc (Nat.le_refl _) _) _⟩
end Go.Proofs.Ytgffcmmdmenefaa
