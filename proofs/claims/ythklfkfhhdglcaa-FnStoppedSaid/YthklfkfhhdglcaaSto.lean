/-
  StopAt: where losses have not become less; the values, the least one of the first, and the model. Conditions: none.
-/
import Derived.Test.YthklfkfhhdglcaaBes
import Derived.Test.YthklfkfhhdglcaaMm
import Derived.Test.YthklfkfhhdglcaaAll
namespace Go.Proofs.Ythklfkfhhdglcaa
open Go.RowKit Go.Deep Go.WideShapes Go.ChangeShapes
set_option linter.unusedVariables false
attribute [local go_sem] World.drewN_zero

def lessAll (f : Nat → Nat) (x m : Nat) : Bool := (List.range m).all fun j => ltF x (f j)
def freshAt (f : Nat → Nat) (p m : Nat) : Bool := (List.range p).any fun d => lessAll f (f (m + d)) m
def stopF (f : Nat → Nat) (p : Nat) : Nat → Nat → Option Nat
  | 0, _ => none
  | t + 1, m => if freshAt f p m = true then stopF f p t (m + 1) else some (m + p - 1)
theorem lessAll_succ (f : Nat → Nat) (x m : Nat) : lessAll f x (m + 1) = (lessAll f x m && ltF x (f m)) := by simp [lessAll, List.range_succ]
def freshUp (f : Nat → Nat) (m d : Nat) : Bool := (List.range d).any fun d => lessAll f (f (m + d)) m
theorem freshUp_succ (f : Nat → Nat) (m d : Nat) : freshUp f m (d + 1) = (freshUp f m d || lessAll f (f (m + d)) m) := by simp [freshUp, List.range_succ]
theorem stopF_yes {f : Nat → Nat} {p t m : Nat} (h : freshUp f m p = true) : stopF f p (t + 1) m = stopF f p t (m + 1) := if_pos h
theorem stopF_no {f : Nat → Nat} {p t m : Nat} (h : freshUp f m p = false) : stopF f p (t + 1) m = some (m + p - 1) := if_neg (by rw [show freshAt f p m = false from h]; decide)
def okStop (z : List Nat) (p : Int) : Bool := decide (z.length ≤ 256) && (decide (1 ≤ p) && decide (p ≤ 256))
def vStopAt (z : List Nat) (p : Int) : Int × Bool := if okStop z p = true then endB (stopF (fun j => z.getD j 0) p.toNat (z.length - p.toNat) 1) else (0, false)
theorem vStopAt_yes {z : List Nat} {p : Nat} (h : okStop z p = true) : vStopAt z p = endB (stopF (fun j => z.getD j 0) p (z.length - p) 1) := by unfold vStopAt; rw [if_pos h]; simp
theorem vStopAt_no {z : List Nat} {p : Int} (h : okStop z p = false) : vStopAt z p = (0, false) := by unfold vStopAt; rw [if_neg (by rw [h]; decide)]
theorem okStop_parts {z : List Nat} {p : Int} (h : okStop z p = true) : z.length ≤ 256 ∧ ∃ q : Nat, p = q ∧ 1 ≤ q ∧ q ≤ 256 := by
  simp [okStop] at h
  obtain ⟨q, rfl⟩ := Int.eq_ofNat_of_zero_le (show 0 ≤ p by omega)
  exact ⟨h.1, q, rfl, by omega, by omega⟩
def StopRel (z : List Nat) (p N : Nat) (Z : Option Nat) (w : World) (iv : Value) (wr : World) : Prop :=
  ∃ a : Nat, a ≤ N ∧ iv = .int .i64 ((p : Int) + (a : Int)) ∧ stopF (fun j => z.getD j 0) p (N - a) (a + 1) = Z ∧ Below w.heap.size w wr
def FreshRel (z : List Nat) (p a : Nat) (w : World) (fv kv : Value) (wr : World) : Prop :=
  ∃ d : Nat, d ≤ p ∧ kv = .int .i64 ((a : Int) + 1 + (d : Int)) ∧ fv = .bool (freshUp (fun j => z.getD j 0) (a + 1) d) ∧ Below w.heap.size w wr
def LessRel (z : List Nat) (a x : Nat) (w : World) (lv jv : Value) (wr : World) : Prop :=
  ∃ j : Nat, j ≤ a + 1 ∧ jv = .int .i64 j ∧ lv = .bool (lessAll (fun j => z.getD j 0) x j) ∧ Below w.heap.size w wr
set_option maxRecDepth 20000 in
set_option maxHeartbeats 2000000 in
theorem t_sStopAt (z : List Nat) (p : Int) (a : Option Addr) (w : World) (h : IsFloats .f32 w a z.length z.length z) : Calls Try.prog 59 #[.slice a z.length z.length, .int .i64 p] w (RetN (vStopAt z p).1 (vStopAt z p).2 w) := by
  have HF := Lib.hid h
  have hmax : z.length ≤ 9223372036854775807 := by have := h.2.1; unfold maxLen at this; exact this
  clear h
  cases hok : okStop z p with
  | false =>
    have HX := Lib.hid (vStopAt_no hok)
    rw [HX.out]
    by_cases hz : z.length ≤ 256
    · have hp : (decide (1 ≤ p) && decide (p ≤ 256)) = false := by simpa [okStop, hz] using hok
      have H2 := Lib.hid (show decide (z.length ≤ 256) = true by simp [hz])
      clear hok
      go_enter Try.func59, Try.ntmps59
      go_wp2_with (first | (go_at_call 119; refine (c_l01Few _ _ _ _).mono ?_; rintro e w' ⟨rfl, rfl⟩; rw [H2.out]) | (go_at_call 77; refine (c_l00In _ _ _ false hp _).mono ?_; rintro e w' ⟨rfl, rfl⟩))
      go_ret2
      exact ⟨rfl, Below.refl _ _⟩
    · have H2 := Lib.hid (show decide (z.length ≤ 256) = false by simp [hz])
      clear hok hz
      go_enter Try.func59, Try.ntmps59
      go_wp2_with (go_at_call 119; refine (c_l01Few _ _ _ _).mono ?_; rintro e w' ⟨rfl, rfl⟩; rw [H2.out])
      go_ret2
      exact ⟨rfl, Below.refl _ _⟩
  | true =>
    obtain ⟨hz, p, rfl, p1, p2⟩ := okStop_parts hok
    have HX := Lib.hid (vStopAt_yes hok)
    rw [HX.out]
    obtain ⟨Z, hZ⟩ : ∃ Z, stopF (fun j => z.getD j 0) p (z.length - p) 1 = Z := ⟨_, rfl⟩
    have HZ := Lib.hid hZ
    rw [hZ]
    obtain ⟨N, hN⟩ : ∃ N, z.length - p = N := ⟨_, rfl⟩
    rw [hN] at HZ
    have HN := Lib.hid hN
    have H2 := Lib.hid (show decide (z.length ≤ 256) = true by simp [hz])
    have hp : (decide ((1 : Int) ≤ (p : Int)) && decide ((p : Int) ≤ 256)) = true := by simp; omega
    have hz' : (z.length : Int) ≤ 256 := by omega
    clear hok hZ hN HX
    go_enter Try.func59, Try.ntmps59
    go_wp2_with (first | (go_at_call 119; refine (c_l01Few _ _ _ _).mono ?_; rintro e w' ⟨rfl, rfl⟩; rw [H2.out]) | (go_at_call 77; refine (c_l00In _ _ _ true hp _).mono ?_; rintro e w' ⟨rfl, rfl⟩))
    clear hp
    go_loopw [6] (fun iv wr => StopRel z p N Z w iv wr) (fun iv _ => z.length - (intOf iv).toNat)
    case atStart => exact ⟨0, Nat.zero_le _, by simp, HZ.out, Below.refl _ _⟩
    case round =>
      obtain ⟨c, hc, rfl, hst, hbw⟩ := hrel
      have HST := Lib.hid hst
      have HBW := Lib.hid hbw
      clear hst hbw HZ
      by_cases hlt : p + c < z.length
      · have hlt' : (p : Int) + (c : Int) < (z.length : Int) := by omega
        have e1 : (p : Int) + (c : Int) - (p : Int) + 1 = (c : Int) + 1 := by omega
        have e2 : (p : Int) + (c : Int) - (p : Int) = (c : Int) := by omega
        go_wp2_with fail
        go_loopw [7, 8] (fun fv kv wr' => FreshRel z p c w fv kv wr') (fun _ kv _ => z.length - (intOf kv).toNat)
        case atStart => exact ⟨0, Nat.zero_le _, by simp, rfl, HBW.out⟩
        case round =>
          obtain ⟨d, hd, rfl, rfl, hbw2⟩ := hrel
          have HBW2 := Lib.hid hbw2
          obtain ⟨F, hF⟩ : ∃ F, freshUp (fun j => z.getD j 0) (c + 1) d = F := ⟨_, rfl⟩
          have HFU := Lib.hid hF
          rw [hF]
          clear hbw2 hF
          by_cases hld : d < p
          · have hld' : (c : Int) + 1 + (d : Int) ≤ (p : Int) + (c : Int) := by omega
            obtain ⟨X, hX⟩ : ∃ X, z.getD (c + 1 + d) 0 = X := ⟨_, rfl⟩
            have HXX := Lib.hid hX
            rcases HF.out.2.2.2.2 with h0 | ⟨b0, off, rfl, hb0, hcc⟩
            · omega
            have HCC := Lib.hid hcc
            have HB0 := Lib.hid hb0
            clear hX hcc hb0
            have hXw : ∀ wx : World, Below w.heap.size w wx → wx.cell? ⟨b0, off + (c + 1 + d), none⟩ = some (.float .f32 X) := fun wx hl => by
              have h1 := HCC.out (c + 1 + d) (by omega)
              rw [HXX.out] at h1
              exact (hl.cell (p := ⟨b0, off + (c + 1 + d), none⟩) HB0.out).trans h1
            have HXW := Lib.hid hXw
            clear hXw
            go_wp2_with fail
            go_loopw [9, 10] (fun lv jv wr' => LessRel z c X w lv jv wr') (fun _ jv _ => c + 1 - (intOf jv).toNat)
            case atStart => exact ⟨0, Nat.zero_le _, rfl, rfl, HBW2.out⟩
            case round =>
              obtain ⟨j, hj, rfl, rfl, hbw3⟩ := hrel
              have HBW3 := Lib.hid hbw3
              have hj0 : (0 : Int) ≤ (j : Int) := by omega
              have hd0 : (0 : Int) ≤ (c : Int) + 1 + (d : Int) := by omega
              clear hbw3
              by_cases hjl : j ≤ c
              · have hjl' : (j : Int) ≤ (c : Int) := by omega
                have hjn : (j : Int) < (z.length : Int) := by omega
                have hkn : (c : Int) + 1 + (d : Int) < (z.length : Int) := by omega
                have HS := Lib.hid (lessAll_succ (fun j => z.getD j 0) X j)
                cases hl : lessAll (fun j => z.getD j 0) X j with
                | false =>
                  have HS2 := Lib.hid (show lessAll (fun j => z.getD j 0) X (j + 1) = false by rw [HS.out, hl]; rfl)
                  clear hl
                  go_wp2_with fail
                  go_quiet (fail)
                  go_wp2_with fail
                  go_roundw
                  case rel => exact ⟨j + 1, by omega, by go_num, by rw [HS2.out], below_drewN HBW3.out _⟩
                  case measure => simp [intOf]; omega
                | true =>
                  have c1 := HXW.out _ HBW3.out
                  have c2 := (HBW3.out.cell (p := ⟨b0, off + j, none⟩) HB0.out).trans (HCC.out j (by omega))
                  obtain ⟨y, hy⟩ : ∃ x, z.getD j 0 = x := ⟨_, rfl⟩
                  rw [hy] at c2
                  have hS3 : lessAll (fun j => z.getD j 0) X (j + 1) = (FloatKind.f32.format.order X y == some .lt) := by rw [HS.out, hl, hy]; rfl
                  obtain ⟨L, hL⟩ : ∃ L, (FloatKind.f32.format.order X y == some .lt) = L := ⟨_, rfl⟩
                  rw [hL] at hS3
                  have HS3 := Lib.hid hS3
                  clear hS3 hy hl
                  go_wp2_with fail
                  go_quiet (fail)
                  go_wp2_with fail
                  go_roundw
                  case rel => exact ⟨j + 1, by omega, by go_num, by rw [HS3.out], below_drewN HBW3.out _⟩
                  case measure => simp [intOf]; omega
              · obtain rfl : j = c + 1 := by omega
                have hjl' : (c : Int) < ((c + 1 : Nat) : Int) := by omega
                obtain ⟨L, hL⟩ : ∃ L, lessAll (fun j => z.getD j 0) X (c + 1) = L := ⟨_, rfl⟩
                have HFS := Lib.hid (show freshUp (fun j => z.getD j 0) (c + 1) (d + 1) = (F || L) by rw [freshUp_succ, HFU.out, ← hL, ← HXX.out])
                rw [hL]
                clear hL
                cases F with
                | true =>
                  go_wp2_with fail
                  go_roundw
                  case rel => exact ⟨d + 1, by omega, by go_num, by rw [HFS.out]; rfl, HBW3.out⟩
                  case measure => simp [intOf]; omega
                | false =>
                  go_wp2_with fail
                  go_roundw
                  case rel => exact ⟨d + 1, by omega, by go_num, by rw [HFS.out]; rfl, HBW3.out⟩
                  case measure => simp [intOf]; omega
          · obtain rfl : d = p := by omega
            have hld' : (d : Int) + (c : Int) < (c : Int) + 1 + (d : Int) := by omega
            obtain ⟨t, ht⟩ : ∃ t, N - c = t + 1 := ⟨N - c - 1, by have := HN.out; omega⟩
            cases F with
            | true =>
              have HST2 := Lib.hid (show stopF (fun j => z.getD j 0) d (N - (c + 1)) (c + 1 + 1) = Z by
                have h1 := HST.out
                rw [ht, stopF_yes HFU.out] at h1
                rw [show N - (c + 1) = t by omega]
                exact h1)
              go_wp2_with fail
              go_roundw
              case rel => exact ⟨c + 1, by omega, by go_num, HST2.out, HBW2.out⟩
              case measure => simp [intOf]; omega
            | false =>
              have HST2 := Lib.hid (show some (c + 1 + d - 1) = Z by
                have h1 := HST.out
                rw [ht, stopF_no HFU.out] at h1
                exact h1)
              go_wp2_with fail
              go_ret2
              exact ⟨by rw [← HST2.out]; simp [endB]; omega, HBW2.out⟩
      · have hlt' : (z.length : Int) ≤ (p : Int) + (c : Int) := by omega
        have HST2 := Lib.hid (show none = Z by
          have h1 := HST.out
          rw [show N - c = 0 by have := HN.out; omega] at h1
          exact h1)
        go_wp2_with fail
        go_ret2
        exact ⟨by rw [← HST2.out]; rfl, HBW.out⟩
end Go.Proofs.Ythklfkfhhdglcaa
