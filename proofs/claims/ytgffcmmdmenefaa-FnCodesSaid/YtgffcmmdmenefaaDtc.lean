/-
  Dots of codes: the same for the program and for its model. Conditions: the lists can be read.
-/
import Derived.Test.YtgffcmmdmenefaaNum
namespace Go.Proofs.Ytgffcmmdmenefaa
open Go.RowKit Go.Deep Go.WideShapes Go.ChangeShapes
set_option linter.unusedVariables false
attribute [local go_sem] World.drewN_zero
set_option maxRecDepth 20000 in
set_option maxHeartbeats 4000000 in
theorem t_iDotOfCodes (a b : List Int) (f s : Nat) (a0 a1 : Option Addr) (w : World) (h : IsRow .i64 w a0 a.length a.length a) (h1 : IsRow .i64 w a1 b.length b.length b) (hf0 : f < 4294967296) (hs0 : s < 4294967296) : Calls Try.prog 39 #[.slice a0 a.length a.length, .slice a1 b.length b.length, .float .f32 f, .float .f32 s] w (RetFb (vDotOfCodes a b f s).1 (vDotOfCodes a b f s).2 w) := by
  have HA0 := Lib.hid h
  have HB0 := Lib.hid h1
  have hmax : a.length ≤ 9223372036854775807 := by have := h.2.1; unfold maxLen at this; exact this
  have hmax1 : b.length ≤ 9223372036854775807 := by have := h1.2.1; unfold maxLen at this; exact this
  clear h h1
  by_cases hl : a.length = b.length
  case neg =>
    have HX := Lib.hid (vDot_no (a := a) (b := b) (f := f) (s := s) (.inr (.inr (.inl hl))))
    have hne : ¬ (a.length : Int) = (b.length : Int) := by omega
    rw [HX.out]
    clear HX hl
    go_enter Try.func39, Try.ntmps39
    have B_0 := Lib.hid (Below.refl w.heap.size w)
    go_wp2_with fail
    go_ret2
    exact ⟨0, by decide +kernel, rfl, B_0.out⟩
  obtain ⟨n, hn⟩ : ∃ n, b.length = n := ⟨_, rfl⟩
  rw [hn] at hl
  have HN := Lib.hid hn
  have HLA := Lib.hid hl
  rw [hl] at hmax HA0
  rw [hn] at hmax1 HB0
  rw [hl, hn]
  clear hl hn
  cases ha : okCod a with
  | false =>
    have HX := Lib.hid (vDot_no (a := a) (b := b) (f := f) (s := s) (.inl ha))
    have HA := Lib.hid ha
    rw [HX.out]
    clear HX ha
    go_enter Try.func39, Try.ntmps39
    have B_0 := Lib.hid (Below.refl w.heap.size w)
    go_wp2_with fail
    refine (c_areCodes _ _ _ _ _ (isRow_kept HA0.out B_0.out)).mono ?_
    rintro e w1 ⟨rfl, hb⟩
    rw [HA.out]
    have B_1 := Lib.hid (Below.next B_0.out hb)
    clear hb
    go_wp2_with (fail)
    go_ret2
    exact ⟨0, by decide +kernel, rfl, B_1.out⟩
  | true =>
    have HA := Lib.hid ha
    cases hb : okCod b with
    | false =>
      have HX := Lib.hid (vDot_no (a := a) (b := b) (f := f) (s := s) (.inr (.inl hb)))
      have HB := Lib.hid hb
      rw [HX.out]
      clear HX hb
      go_enter Try.func39, Try.ntmps39
      have B_0 := Lib.hid (Below.refl w.heap.size w)
      go_wp2_with fail
      refine (c_areCodes _ _ _ _ _ (isRow_kept HA0.out B_0.out)).mono ?_
      rintro e w1 ⟨rfl, hb⟩
      rw [HA.out]
      have B_1 := Lib.hid (Below.next B_0.out hb)
      clear hb
      go_wp2_with fail
      refine (c_areCodes _ _ _ _ _ (isRow_kept HB0.out B_1.out)).mono ?_
      rintro e w2 ⟨rfl, hb⟩
      rw [HB.out]
      have B_2 := Lib.hid (Below.next B_1.out hb)
      clear hb
      go_wp2_with (fail)
      go_ret2
      exact ⟨0, by decide +kernel, rfl, B_2.out⟩
    | true =>
      have HB := Lib.hid hb
      cases hf : okSpr f with
      | false =>
        have HX := Lib.hid (vDot_no (a := a) (b := b) (f := f) (s := s) (.inr (.inr (.inr (.inl hf)))))
        have HFF := Lib.hid hf
        rw [HX.out]
        clear HX hf
        go_enter Try.func39, Try.ntmps39
        have B_0 := Lib.hid (Below.refl w.heap.size w)
        go_wp2_with fail
        refine (c_areCodes _ _ _ _ _ (isRow_kept HA0.out B_0.out)).mono ?_
        rintro e w1 ⟨rfl, hb⟩
        rw [HA.out]
        have B_1 := Lib.hid (Below.next B_0.out hb)
        clear hb
        go_wp2_with fail
        refine (c_areCodes _ _ _ _ _ (isRow_kept HB0.out B_1.out)).mono ?_
        rintro e w2 ⟨rfl, hb⟩
        rw [HB.out]
        have B_2 := Lib.hid (Below.next B_1.out hb)
        clear hb
        go_wp2_with (go_at_call 69; refine (c_isSpread _ (by assumption) _).mono ?_; rintro e w' ⟨rfl, rfl⟩; first | rw [HFF.out])
        go_ret2
        exact ⟨0, by decide +kernel, rfl, B_2.out⟩
      | true =>
        have HFF := Lib.hid hf
        cases hs : okSpr s with
        | false =>
          have HX := Lib.hid (vDot_no (a := a) (b := b) (f := f) (s := s) (.inr (.inr (.inr (.inr hs)))))
          have HS := Lib.hid hs
          rw [HX.out]
          clear HX hs
          go_enter Try.func39, Try.ntmps39
          have B_0 := Lib.hid (Below.refl w.heap.size w)
          go_wp2_with fail
          refine (c_areCodes _ _ _ _ _ (isRow_kept HA0.out B_0.out)).mono ?_
          rintro e w1 ⟨rfl, hb⟩
          rw [HA.out]
          have B_1 := Lib.hid (Below.next B_0.out hb)
          clear hb
          go_wp2_with fail
          refine (c_areCodes _ _ _ _ _ (isRow_kept HB0.out B_1.out)).mono ?_
          rintro e w2 ⟨rfl, hb⟩
          rw [HB.out]
          have B_2 := Lib.hid (Below.next B_1.out hb)
          clear hb
          go_wp2_with (go_at_call 69; refine (c_isSpread _ (by assumption) _).mono ?_; rintro e w' ⟨rfl, rfl⟩; first | rw [HFF.out] | rw [HS.out])
          go_ret2
          exact ⟨0, by decide +kernel, rfl, B_2.out⟩
        | true =>
          have HS := Lib.hid hs
          have HX := Lib.hid (vDot_yes ha hb (HLA.out.trans HN.out.symm) hf hs)
          have HSM := Lib.hid (dot_small ha hb (HLA.out.trans HN.out.symm))
          have hfew := okCod_few ha
          rw [HX.out]
          rw [HLA.out] at HSM hfew ⊢
          clear ha hb hf hs HX
          go_enter Try.func39, Try.ntmps39
          have B_0 := Lib.hid (Below.refl w.heap.size w)
          go_wp2_with fail
          refine (c_areCodes _ _ _ _ _ (isRow_kept HA0.out B_0.out)).mono ?_
          rintro e w1 ⟨rfl, hb⟩
          rw [HA.out]
          have B_1 := Lib.hid (Below.next B_0.out hb)
          clear hb
          go_wp2_with fail
          refine (c_areCodes _ _ _ _ _ (isRow_kept HB0.out B_1.out)).mono ?_
          rintro e w2 ⟨rfl, hb⟩
          rw [HB.out]
          have B_2 := Lib.hid (Below.next B_1.out hb)
          clear hb
          go_wp2_with (go_at_call 69; refine (c_isSpread _ (by assumption) _).mono ?_; rintro e w' ⟨rfl, rfl⟩; first | rw [HFF.out] | rw [HS.out])
          have HW := Lib.hid B_2.out
          generalize w2 = w1 at *
          go_loopw [10, 40] (fun s' i wr => DotRel a b n w1 s' i wr) (fun _ i _ => n - (intOf i).toNat)
          case atStart => exact ⟨0, 0, Nat.zero_le _, rfl, rfl, rfl⟩
          case round =>
            obtain ⟨k, m, hk, rfl, rfl, rfl⟩ := hrel
            have hk0 : (0 : Int) ≤ (k : Int) := by omega
            by_cases hlt : k < n
            · have hlt' : (k : Int) < (n : Int) := by omega
              rcases HA0.out.2.2.2.2 with h' | ⟨ab, off, rfl, hab, hcell⟩
              · omega
              rcases HB0.out.2.2.2.2 with h' | ⟨ac, offc, rfl, hac, hcellc⟩
              · omega
              have hx : (w1.drewN m).cell? ⟨ab, off + k, none⟩ = some (.int .i64 (a.getD k 0)) := ((below_drewN HW.out m).cell (p := ⟨ab, off + k, none⟩) hab).trans (hcell k hlt)
              have hxc : (w1.drewN m).cell? ⟨ac, offc + k, none⟩ = some (.int .i64 (b.getD k 0)) := ((below_drewN HW.out m).cell (p := ⟨ac, offc + k, none⟩) hac).trans (hcellc k hlt)
              have hp := prod_small (okCod_at HA.out (show k < a.length by rw [HLA.out]; exact hlt)) (okCod_at HB.out (show k < b.length by rw [HN.out]; exact hlt))
              have hs1 := HSM.out k hk
              have hs2 := HSM.out (k + 1) hlt
              have HD := Lib.hid (show dotI a b (k + 1) = dotI a b k + a.getD k 0 * b.getD k 0 from rfl)
              rw [HD.out] at hs2
              obtain ⟨x, hx'⟩ : ∃ x, a.getD k 0 = x := ⟨_, rfl⟩
              obtain ⟨y, hy'⟩ : ∃ x, b.getD k 0 = x := ⟨_, rfl⟩
              obtain ⟨d, hd'⟩ : ∃ x, dotI a b k = x := ⟨_, rfl⟩
              rw [hx', hy'] at hp
              rw [hx', hy', hd'] at HD hs2
              rw [hd'] at hs1
              rw [hx'] at hx
              rw [hy'] at hxc
              rw [hd']
              have k1 : IntKind.i64.wrap (x * y) = x * y := IntWalk.i64_in _ (by generalize x * y = p at *; omega)
              have k2 : IntKind.i64.wrap (d + x * y) = d + x * y := IntWalk.i64_in _ (by generalize x * y = p at *; omega)
              clear hcell hcellc hx' hy' hd' hp hs1 hs2
              obtain ⟨p, hp'⟩ : ∃ p, x * y = p := ⟨_, rfl⟩
              rw [hp'] at k1 k2 HD
              go_wp2_with fail
              skip
              go_roundw
              case rel => exact ⟨k + 1, _, hlt, by go_num, by rw [HD.out], rfl⟩
              case measure => simp [intOf]; omega
            · obtain rfl : k = n := by omega
              go_wp2_with (go_at_call 72; refine (c_productOfTwo _ _ _).mono ?_; rintro e w' ⟨rfl, rfl⟩)
              go_ret2
              exact ⟨_, by rw [canon_fval, canon_fval, foi_num], rfl, below_drewN HW.out _⟩
set_option maxRecDepth 20000 in
set_option maxHeartbeats 4000000 in
theorem t_sDotOfCodes (a b : List Int) (f s : Nat) (a0 a1 : Option Addr) (w : World) (h : IsRow .i64 w a0 a.length a.length a) (h1 : IsRow .i64 w a1 b.length b.length b) (hf0 : f < 4294967296) (hs0 : s < 4294967296) : Calls Try.prog 38 #[.slice a0 a.length a.length, .slice a1 b.length b.length, .float .f32 f, .float .f32 s] w (RetFb (vDotOfCodes a b f s).1 (vDotOfCodes a b f s).2 w) := by
  have HA0 := Lib.hid h
  have HB0 := Lib.hid h1
  have hmax : a.length ≤ 9223372036854775807 := by have := h.2.1; unfold maxLen at this; exact this
  have hmax1 : b.length ≤ 9223372036854775807 := by have := h1.2.1; unfold maxLen at this; exact this
  clear h h1
  cases ha : okCod a with
  | false =>
    have HX := Lib.hid (vDot_no (a := a) (b := b) (f := f) (s := s) (.inl ha))
    have HA := Lib.hid ha
    rw [HX.out]
    clear HX ha
    go_enter Try.func38, Try.ntmps38
    go_wp2_with (first | (go_at_call 67; refine (c_l06Codes _ _ _ _ _ (by first | exact HA0.out | exact HB0.out)).mono ?_; rintro e w' ⟨rfl, rfl⟩; first | rw [HA.out]))
    go_ret2
    exact ⟨0, by decide +kernel, rfl, Below.refl _ _⟩
  | true =>
    have HA := Lib.hid ha
    cases hb : okCod b with
    | false =>
      have HX := Lib.hid (vDot_no (a := a) (b := b) (f := f) (s := s) (.inr (.inl hb)))
      have HB := Lib.hid hb
      rw [HX.out]
      clear HX hb
      go_enter Try.func38, Try.ntmps38
      go_wp2_with (first | (go_at_call 67; refine (c_l06Codes _ _ _ _ _ (by first | exact HA0.out | exact HB0.out)).mono ?_; rintro e w' ⟨rfl, rfl⟩; first | rw [HA.out] | rw [HB.out]))
      go_ret2
      exact ⟨0, by decide +kernel, rfl, Below.refl _ _⟩
    | true =>
      have HB := Lib.hid hb
      by_cases hl : a.length = b.length
      case neg =>
        have HX := Lib.hid (vDot_no (a := a) (b := b) (f := f) (s := s) (.inr (.inr (.inl hl))))
        have hne : ¬ (a.length : Int) = (b.length : Int) := by omega
        rw [HX.out]
        clear HX hl
        go_enter Try.func38, Try.ntmps38
        go_wp2_with (first | (go_at_call 67; refine (c_l06Codes _ _ _ _ _ (by first | exact HA0.out | exact HB0.out)).mono ?_; rintro e w' ⟨rfl, rfl⟩; first | rw [HA.out] | rw [HB.out]))
        go_ret2
        exact ⟨0, by decide +kernel, rfl, Below.refl _ _⟩
      obtain ⟨n, hn⟩ : ∃ n, b.length = n := ⟨_, rfl⟩
      rw [hn] at hl
      have HN := Lib.hid hn
      have HLA := Lib.hid hl
      rw [hl] at hmax HA0
      rw [hn] at hmax1 HB0
      rw [hl, hn]
      clear hl hn
      cases hf : okSpr f with
      | false =>
        have HX := Lib.hid (vDot_no (a := a) (b := b) (f := f) (s := s) (.inr (.inr (.inr (.inl hf)))))
        have HFF := Lib.hid hf
        rw [HX.out]
        clear HX hf
        go_enter Try.func38, Try.ntmps38
        go_wp2_with (first | (go_at_call 67; refine (c_l06Codes _ _ _ _ _ (by first | exact HA0.out | exact HB0.out)).mono ?_; rintro e w' ⟨rfl, rfl⟩; first | rw [HA.out] | rw [HB.out]) | (go_at_call 57; refine (c_l06Spread _ (by assumption) _).mono ?_; rintro e w' ⟨rfl, m2, rfl⟩; first | rw [HFF.out]))
        go_ret2
        exact ⟨0, by decide +kernel, rfl, below_drewN (Below.refl _ _) _⟩
      | true =>
        have HFF := Lib.hid hf
        cases hs : okSpr s with
        | false =>
          have HX := Lib.hid (vDot_no (a := a) (b := b) (f := f) (s := s) (.inr (.inr (.inr (.inr hs)))))
          have HS := Lib.hid hs
          rw [HX.out]
          clear HX hs
          go_enter Try.func38, Try.ntmps38
          go_wp2_with (first | (go_at_call 67; refine (c_l06Codes _ _ _ _ _ (by first | exact HA0.out | exact HB0.out)).mono ?_; rintro e w' ⟨rfl, rfl⟩; first | rw [HA.out] | rw [HB.out]) | (go_at_call 57; refine (c_l06Spread _ (by assumption) _).mono ?_; rintro e w' ⟨rfl, m2, rfl⟩; first | rw [HFF.out] | rw [HS.out]))
          go_ret2
          exact ⟨0, by decide +kernel, rfl, below_drewN (Below.refl _ _) _⟩
        | true =>
          have HS := Lib.hid hs
          have HX := Lib.hid (vDot_yes ha hb (HLA.out.trans HN.out.symm) hf hs)
          have HSM := Lib.hid (dot_small ha hb (HLA.out.trans HN.out.symm))
          have hfew := okCod_few ha
          rw [HX.out]
          rw [HLA.out] at HSM hfew ⊢
          clear ha hb hf hs HX
          go_enter Try.func38, Try.ntmps38
          go_wp2_with (first | (go_at_call 67; refine (c_l06Codes _ _ _ _ _ (by first | exact HA0.out | exact HB0.out)).mono ?_; rintro e w' ⟨rfl, rfl⟩; first | rw [HA.out] | rw [HB.out]) | (go_at_call 57; refine (c_l06Spread _ (by assumption) _).mono ?_; rintro e w' ⟨rfl, m2, rfl⟩; first | rw [HFF.out] | rw [HS.out]))
          have HW := Lib.hid (Below.refl w.heap.size w)
          go_loopw [10, 11] (fun s' i wr => DotRel a b n w s' i wr) (fun _ i _ => n - (intOf i).toNat)
          case atStart => exact ⟨0, _, Nat.zero_le _, rfl, rfl, rfl⟩
          case round =>
            obtain ⟨k, m, hk, rfl, rfl, rfl⟩ := hrel
            have hk0 : (0 : Int) ≤ (k : Int) := by omega
            by_cases hlt : k < n
            · have hlt' : (k : Int) < (n : Int) := by omega
              rcases HA0.out.2.2.2.2 with h' | ⟨ab, off, rfl, hab, hcell⟩
              · omega
              rcases HB0.out.2.2.2.2 with h' | ⟨ac, offc, rfl, hac, hcellc⟩
              · omega
              have hx : w.cell? ⟨ab, off + k, none⟩ = some (.int .i64 (a.getD k 0)) := hcell k hlt
              have hxc : w.cell? ⟨ac, offc + k, none⟩ = some (.int .i64 (b.getD k 0)) := hcellc k hlt
              have hp := prod_small (okCod_at HA.out (show k < a.length by rw [HLA.out]; exact hlt)) (okCod_at HB.out (show k < b.length by rw [HN.out]; exact hlt))
              have hs1 := HSM.out k hk
              have hs2 := HSM.out (k + 1) hlt
              have HD := Lib.hid (show dotI a b (k + 1) = dotI a b k + a.getD k 0 * b.getD k 0 from rfl)
              rw [HD.out] at hs2
              obtain ⟨x, hx'⟩ : ∃ x, a.getD k 0 = x := ⟨_, rfl⟩
              obtain ⟨y, hy'⟩ : ∃ x, b.getD k 0 = x := ⟨_, rfl⟩
              obtain ⟨d, hd'⟩ : ∃ x, dotI a b k = x := ⟨_, rfl⟩
              rw [hx', hy'] at hp
              rw [hx', hy', hd'] at HD hs2
              rw [hd'] at hs1
              rw [hx'] at hx
              rw [hy'] at hxc
              rw [hd']
              have k1 : IntKind.i64.wrap (x * y) = x * y := IntWalk.i64_in _ (by generalize x * y = p at *; omega)
              have k2 : IntKind.i64.wrap (d + x * y) = d + x * y := IntWalk.i64_in _ (by generalize x * y = p at *; omega)
              clear hcell hcellc hx' hy' hd' hp hs1 hs2
              obtain ⟨p, hp'⟩ : ∃ p, x * y = p := ⟨_, rfl⟩
              rw [hp'] at k1 k2 HD
              go_wp2_with fail
              go_quiet (fail)
              go_wp2_with fail
              go_roundw
              case rel => exact ⟨k + 1, _, hlt, by go_num, by rw [HD.out], rfl⟩
              case measure => simp [intOf]; omega
            · obtain rfl : k = n := by omega
              go_wp2_with fail
              go_ret2
              exact ⟨_, by rw [canon_fval, canon_fval, foi_num], rfl, below_drewN HW.out _⟩
end Go.Proofs.Ytgffcmmdmenefaa
