/-
  Numbers of codes, and dots of codes: the same for the program and for its model. Conditions: the lists can be read.
-/
import Derived.Test.YtgffcmmdmenefaaCod
import Derived.Deep.RegionLaw
import Derived.BigRegion
import Derived.BigQuiet
import Derived.Deep.QuietTactic
namespace Go.Proofs.Ytgffcmmdmenefaa
open Go.RowKit Go.Deep Go.WideShapes Go.ChangeShapes
set_option linter.unusedVariables false
attribute [local go_sem] World.drewN_zero

def isCod (n : Int) : Bool := decide (-127 ≤ n) && decide (n ≤ 127)
def okCod (c : List Int) : Bool := decide (c.length ≤ 256) && c.all isCod
theorem okCod_few {c : List Int} (h : okCod c = true) : c.length ≤ 256 := by simp only [okCod, Bool.and_eq_true, decide_eq_true_eq] at h; exact h.1
theorem okCod_at {c : List Int} (h : okCod c = true) {k : Nat} (hk : k < c.length) : -127 ≤ c.getD k 0 ∧ c.getD k 0 ≤ 127 := by
  simp only [okCod, Bool.and_eq_true, List.all_eq_true] at h
  have := h.2 (c.getD k 0) (by simp [List.getD, hk])
  simpa [isCod] using this
theorem okCod_no {c : List Int} {k : Nat} (hk : k < c.length) (h : isCod (c.getD k 0) = false) : okCod c = false := by
  cases he : okCod c with
  | false => rfl
  | true =>
    have := okCod_at he hk
    simp only [isCod, Bool.and_eq_false_iff, decide_eq_false_iff_not] at h
    omega
theorem okCod_yes {c : List Int} (h : c.length ≤ 256) (ha : ∀ j, j < c.length → isCod (c.getD j 0) = true) : okCod c = true := by
  simp only [okCod, Bool.and_eq_true, decide_eq_true_eq, List.all_eq_true]
  refine ⟨h, fun x hx => ?_⟩
  obtain ⟨i, hi, rfl⟩ := List.mem_iff_getElem.1 hx
  have := ha i hi
  simpa [List.getD, hi] using this
theorem x_isCode (n : Int) (w : World) : Calls Try.prog 98 (#[.int .i64 n] ++ #[]) w fun e w' => e = .returned (.bool (isCod n)) ∧ w = w' := by
  show Calls Try.prog 98 #[.int .i64 n] w _
  by_cases h0 : -127 ≤ n
  · have h1 := Lib.hid (decide_eq_true h0)
    go_enter Try.func98, Try.ntmps98
    go_wp2
    go_ret
    exact ⟨ret_b (by unfold isCod; rw [h1.out]; simp), rfl⟩
  · have h1 := Lib.hid (decide_eq_false h0)
    go_enter Try.func98, Try.ntmps98
    go_wp2
    go_ret
    exact ⟨ret_b (by unfold isCod; rw [h1.out]; simp), rfl⟩
theorem c_areCodes (a : Option Addr) (n cap : Nat) (zs : List Int) (w : World) (h : IsRow .i64 w a n cap zs) : Calls Try.prog 68 #[.slice a n cap] w fun e w' => e = .returned (.bool (okCod zs)) ∧ Below w.heap.size w w' := by
  have HC := Lib.hid (c_isAllI 98 isCod a n cap zs w h (enters_of Try.func98 (by kernel_rfl) (by kernel_rfl)) (fun x wr _ _ => x_isCode x wr))
  have hmax : n ≤ 9223372036854775807 := by have h1 := h.1; have h2 := h.2.1; unfold maxLen at h2; omega
  have hlen := h.2.2.1
  subst hlen
  clear h
  by_cases h2 : zs.length ≤ 256
  · have H2 := Lib.hid (show decide (zs.length ≤ 256) = true by simp [h2])
    have h2' : (zs.length : Int) ≤ 256 := by omega
    go_enter Try.func68, Try.ntmps68
    go_wp2_with fail
    refine HC.out.mono ?_
    rintro e w2 ⟨rfl, hb⟩
    have HB := Lib.hid hb
    clear hb
    go_wp2_with fail
    go_ret
    exact ⟨ret_b (by unfold okCod; rw [H2.out]; rfl), HB.out⟩
  · have H2 := Lib.hid (show okCod zs = false by simp [okCod, h2])
    have h2' : (256 : Int) < (zs.length : Int) := by omega
    clear h2
    go_enter Try.func68, Try.ntmps68
    go_wp2_with fail
    go_ret
    exact ⟨ret_b (by rw [H2.out]), Below.refl _ _⟩
def CodRel (zs : List Int) (w : World) (i : Value) (wr : World) : Prop := ∃ k : Nat, k ≤ zs.length ∧ i = .int .i64 k ∧ (∀ j, j < k → isCod (zs.getD j 0) = true) ∧ wr = w
theorem c_l06Codes (a : Option Addr) (n cap : Nat) (zs : List Int) (w : World) (h : IsRow .i64 w a n cap zs) : Calls Try.prog 67 #[.slice a n cap] w fun e w' => e = .returned (.bool (okCod zs)) ∧ w = w' := by
  have HF := Lib.hid h
  have hmax : n ≤ 9223372036854775807 := by have h1 := h.1; have h2 := h.2.1; unfold maxLen at h2; omega
  have hlen := h.2.2.1
  subst hlen
  clear h
  by_cases h2 : zs.length ≤ 256
  · have h2' : (zs.length : Int) ≤ 256 := by omega
    go_enter Try.func67, Try.ntmps67
    go_wp2
    go_loopw [3] (fun i wr => CodRel zs w i wr) (fun i _ => zs.length - (intOf i).toNat)
    case atStart => exact ⟨0, Nat.zero_le _, rfl, (fun j hj => by omega), rfl⟩
    case round =>
      obtain ⟨k, hk, rfl, hz, rfl⟩ := hrel
      have HZ := Lib.hid hz
      have hk0 : (0 : Int) ≤ (k : Int) := by omega
      clear hz
      by_cases hlt : k < zs.length
      · have hlt' : (k : Int) < (zs.length : Int) := by omega
        rcases HF.out.2.2.2.2 with h0 | ⟨b, off, rfl, _, hc⟩
        · omega
        have c1 := hc k hlt
        clear hc
        cases hf : isCod (zs.getD k 0) with
        | true =>
          have HG := Lib.hid hf
          obtain ⟨x, hx⟩ : ∃ x, zs.getD k 0 = x := ⟨_, rfl⟩
          rw [hx] at c1 hf
          have HX := Lib.hid (show (decide (-127 ≤ x) && decide (x ≤ 127)) = true from hf)
          clear hx hf
          go_wp2_with (go_at_call 62; refine (c_l00In x (-127) 127 _ HX.out _).mono ?_; rintro e w' ⟨rfl, rfl⟩)
          go_roundw
          case rel => exact ⟨k + 1, hlt, by go_num, (fun j hj => if e : j = k then by rw [e]; exact HG.out else HZ.out j (by omega)), rfl⟩
          case measure => simp [intOf]; omega
        | false =>
          have HN := Lib.hid (okCod_no hlt hf)
          obtain ⟨x, hx⟩ : ∃ x, zs.getD k 0 = x := ⟨_, rfl⟩
          rw [hx] at c1 hf
          have HX := Lib.hid (show (decide (-127 ≤ x) && decide (x ≤ 127)) = false from hf)
          clear hx hf
          go_wp2_with (go_at_call 62; refine (c_l00In x (-127) 127 _ HX.out _).mono ?_; rintro e w' ⟨rfl, rfl⟩)
          go_ret
          exact ⟨ret_b (by rw [HN.out]), rfl⟩
      · obtain rfl : k = zs.length := by omega
        have HY := Lib.hid (okCod_yes h2 HZ.out)
        go_wp2_with fail
        go_ret
        exact ⟨ret_b (by rw [HY.out]), rfl⟩
  · have HN := Lib.hid (show okCod zs = false by simp [okCod, h2])
    have h2' : decide ((zs.length : Int) ≤ 256) = false := decide_eq_false (by omega)
    have h0 : (0 : Int) < (zs.length : Int) := by omega
    clear h2
    go_enter Try.func67, Try.ntmps67
    go_wp2
    refine wp_loop_rounds 1 ?_
    rw [rounds_succ]
    go_wp2_with fail
    go_ret
    exact ⟨ret_b (by rw [HN.out]), rfl⟩
/-! numbers of codes -/
def numF (c : List Int) (s k : Nat) : Nat := cop .mul .f32 (floatOfInt .f32 (c.getD k 0)) (canon .f32 s)
def vNumbersOf (c : List Int) (s : Nat) : Bool × List Nat := if (okCod c && okSpr s) = true then (true, (List.range c.length).map (numF c s)) else (false, [])
theorem vNumbersOf_len (c : List Int) (s : Nat) : (vNumbersOf c s).2.length ≤ 1048576 := by
  unfold vNumbersOf
  split
  · rename_i h
    simp only [Bool.and_eq_true] at h
    have := okCod_few h.1
    simp; omega
  · simp
theorem vNumbersOf_yes {c : List Int} {s : Nat} (h1 : okCod c = true) (h2 : okSpr s = true) : vNumbersOf c s = (true, (List.range c.length).map (numF c s)) := by unfold vNumbersOf; rw [if_pos (by rw [h1, h2]; rfl)]
theorem vNumbersOf_no {c : List Int} {s : Nat} (h : okCod c = false ∨ okSpr s = false) : vNumbersOf c s = (false, []) := by
  unfold vNumbersOf
  rw [if_neg]
  rcases h with h | h <;> simp [h]
theorem foi_num (k : Int) : canon .f32 (floatOfInt .f32 k) = floatOfInt .f32 k := canon_num (nearest_num _ _ _ _)
set_option maxRecDepth 20000 in
set_option maxHeartbeats 1000000 in
theorem c_eachOfJ (F : FuncId) (caps : Array Value) (f : Int → Nat) (a : Option Addr) (n cap : Nat) (zs : List Int) (w : World) (h : IsRow .i64 w a n cap zs) (hn : n ≤ 1048576) (hE : ∀ (xs : Array Value) (wr : World), (callFunc F xs).run Try.prog wr = .ok (.enter F xs) wr)
    (hF : ∀ (x : Int) (wr : World), Below w.heap.size w wr → Calls Try.prog F (#[.int .i64 x] ++ caps) wr (RetX (f x) wr)) :
    Calls Try.prog 70 #[.slice a n cap, .func (.func F) #[] caps] w (RetLs ((List.range n).map fun i => f (zs.getD i 0)) w) := by
  have HF := Lib.hid h
  have HC := Lib.hid hF
  obtain ⟨i0, hi, hz0, hz1, hz2⟩ := info_parts info_f32
  have HI := Lib.hid hi
  have HZ0 := Lib.hid hz0
  have HZ1 := Lib.hid hz1
  have HZ2 := Lib.hid hz2
  clear h hF hi hz0 hz1 hz2
  go_enter Try.func70, Try.ntmps70
  go_wp2_with (at_make; refine wpList_make_full _ rfl _ _ 33 rfl w.heap.size 22 i0 (.float .f32 0) 1 Try.underlying33 HI.out HZ0.out HZ1.out _ _ _ _ n rfl rfl rfl rfl ?c1 ?c2 ?c3 ?_)
  case c1 => rw [HZ2.out]; omega
  case c2 => unfold maxLen; omega
  case c3 => exact Nat.le_refl _
  intro w1 hown hgrow
  have hb1 : Below w.heap.size w w1 := (Below.refl _ _).grown hgrow (Nat.le_refl _) (fun k h => by cases h)
  rw [toList_madeCells_one] at hown
  have HO := Lib.hid hown
  have HB := Lib.hid hb1
  clear hown hb1 hgrow
  go_wp2_with fail
  go_loopw [13] (fun i wr => FunRel (fun i => f (zs.getD i 0)) n w.heap.size w i wr) (fun i _ => n - (intOf i).toNat)
  case atStart => exact ⟨0, [], Nat.zero_le _, rfl, rfl, by simpa [partF] using HO.out, (fun _ h => by cases h), rfl, HB.out⟩
  case round =>
    obtain ⟨k, ys, hk, rfl, hy, ho, ht, he, hbl⟩ := hrel
    have HY := Lib.hid hy
    have HO' := Lib.hid ho
    have HT := Lib.hid ht
    have HE := Lib.hid he
    have HL := Lib.hid hbl
    have hk0 : (0 : Int) ≤ (k : Int) := by omega
    clear hy ho ht he hbl
    by_cases hlt : k < n
    · have hlt' : (k : Int) < (n : Int) := by omega
      rcases HF.out.2.2.2.2 with h' | ⟨ab, off, rfl, hab, hcell⟩
      · omega
      have hx : wr.cell? ⟨ab, off + k, none⟩ = some (.int .i64 (zs.getD k 0)) := (HL.out.cell (p := ⟨ab, off + k, none⟩) hab).trans (hcell k hlt)
      obtain ⟨y, hz⟩ : ∃ y, zs.getD k 0 = y := ⟨_, rfl⟩
      rw [hz] at hx
      have HZ := Lib.hid hz
      clear hcell hz
      go_wp2_with fail
      refine (HC.out y _ HL.out).mono ?_
      rintro e w2 ⟨r, rfl, hr, hrl, hb⟩
      have HR := Lib.hid hr
      have HRL := Lib.hid hrl
      have HB2 := Lib.hid hb
      clear hr hrl hb
      obtain ⟨hfz, v0, hv0⟩ := fun_cell hlt HO'.out HB2.out
      go_wp2_with fail
      go_roundw
      case rel => exact fun_step (Nat.le_refl _) HY.out hlt HO'.out HT.out HE.out HL.out HB2.out HRL.out (by rw [HR.out, ← HZ.out])
      case measure => simp [intOf]; omega
    · obtain rfl : k = n := by omega
      go_wp2_with fail
      go_ret
      exact fun_end HY.out HO'.out HT.out HE.out HL.out
theorem x_numbers1 (n : Int) (g s : Nat) (w : World) (h : w.cell? ⟨g, 0, none⟩ = some (.float .f32 s)) : Calls Try.prog 71 (#[.int .i64 n] ++ #[.pointer (some ⟨g, 0, none⟩)]) w (RetX (cop .mul .f32 (floatOfInt .f32 n) (canon .f32 s)) w) := by
  show Calls Try.prog 71 #[.int .i64 n, .pointer (some ⟨g, 0, none⟩)] w _
  go_enter Try.func71, Try.ntmps71
  go_wp2_with (go_at_call 72; refine (c_productOfTwo _ _ _).mono ?_; rintro e w' ⟨rfl, rfl⟩)
  go_ret
  exact ⟨_, rfl, by rw [canon_fval, foi_num], fval_lt .mul .f32 _ _ _, below_drewN (Below.refl _ _) _⟩
set_option maxHeartbeats 1000000 in
theorem t_iNumbersOf (c : List Int) (s : Nat) (a0 : Option Addr) (w : World) (h : IsRow .i64 w a0 c.length c.length c) (hs : s < 4294967296) : Calls Try.prog 36 #[.slice a0 c.length c.length, .float .f32 s] w (RetL (vNumbersOf c s).1 (vNumbersOf c s).2 w) := by
  have hmax : c.length ≤ 9223372036854775807 := by have := h.2.1; unfold maxLen at this; exact this
  have B1 := Lib.hid ((Below.refl w.heap.size w).alloc (Nat.le_refl _) (.cells #[.float .f32 s] 22))
  have K1 := Lib.hid (Blk.new w 22 #[.float .f32 s])
  have HR := Lib.hid (isRow_kept h B1.out)
  cases hk : okCod c with
  | false =>
    have HX := Lib.hid (vNumbersOf_no (s := s) (.inl hk))
    have HK := Lib.hid hk
    rw [HX.out]
    clear h hk
    go_enter Try.func36, Try.ntmps36
    go_wp2_with fail
    refine (c_areCodes _ _ _ _ _ HR.out).mono ?_
    rintro e w1 ⟨rfl, hb⟩
    rw [HK.out]
    have HB := Lib.hid (Below.next B1.out hb)
    clear hb
    go_wp2_with fail
    go_ret2
    exact ⟨none, 0, [], rfl, nil_own _ _, rfl, HB.out⟩
  | true =>
    cases hk2 : okSpr s with
    | false =>
      have HX := Lib.hid (vNumbersOf_no (c := c) (.inr hk2))
      have HK := Lib.hid hk
      have HK2 := Lib.hid hk2
      rw [HX.out]
      clear h hk hk2
      go_enter Try.func36, Try.ntmps36
      go_wp2_with fail
      refine (c_areCodes _ _ _ _ _ HR.out).mono ?_
      rintro e w1 ⟨rfl, hb⟩
      rw [HK.out]
      have HB := Lib.hid (Below.next B1.out hb)
      have p0 := (K1.out.below hb).cell 0
      clear hb
      go_wp2_with (go_at_call 69; refine (c_isSpread _ hs _).mono ?_; rintro e w' ⟨rfl, rfl⟩; rw [HK2.out])
      go_ret2
      exact ⟨none, 0, [], rfl, nil_own _ _, rfl, HB.out⟩
    | true =>
      have HX := Lib.hid (vNumbersOf_yes hk hk2)
      have HK := Lib.hid hk
      have HK2 := Lib.hid hk2
      have hfew := okCod_few hk
      rw [HX.out]
      clear h hk hk2
      go_enter Try.func36, Try.ntmps36
      go_wp2_with fail
      refine (c_areCodes _ _ _ _ _ HR.out).mono ?_
      rintro e w1 ⟨rfl, hb⟩
      rw [HK.out]
      have HB := Lib.hid (Below.next B1.out hb)
      have K2 := Lib.hid (K1.out.below hb)
      have HR2 := Lib.hid (isRow_kept HR.out hb)
      have p0 := K2.out.cell 0
      clear hb
      go_wp2_with (go_at_call 69; refine (c_isSpread _ hs _).mono ?_; rintro e w' ⟨rfl, rfl⟩; rw [HK2.out])
      refine (c_eachOfJ 71 #[.pointer (some ⟨w.heap.size, 0, none⟩)] (fun n => cop .mul .f32 (floatOfInt .f32 n) (canon .f32 s)) _ _ _ c _ HR2.out (by omega) (enters_of Try.func71 (by kernel_rfl) (by kernel_rfl)) (fun x wr hb => x_numbers1 x _ s wr ((K2.out.below hb).cell 0))).mono ?_
      rintro e w' ⟨b, cc, ys, rfl, ho, he, hb⟩
      have HO := Lib.hid ho
      have HE := Lib.hid he
      have HB2 := Lib.hid (Below.next HB.out hb)
      clear ho he hb
      go_wp2_with fail
      go_ret2
      exact ⟨b, cc, ys, rfl, HO.out.base HB.out.size, HE.out, HB2.out⟩
set_option maxRecDepth 20000 in
set_option maxHeartbeats 2000000 in
theorem t_sNumbersOf (c : List Int) (s : Nat) (a0 : Option Addr) (w : World) (h : IsRow .i64 w a0 c.length c.length c) (hs : s < 4294967296) : Calls Try.prog 35 #[.slice a0 c.length c.length, .float .f32 s] w (RetL (vNumbersOf c s).1 (vNumbersOf c s).2 w) := by
  have HF := Lib.hid h
  have hmax : c.length ≤ 9223372036854775807 := by have := h.2.1; unfold maxLen at this; exact this
  cases hk : okCod c with
  | false =>
    have HX := Lib.hid (vNumbersOf_no (s := s) (.inl hk))
    have HK := Lib.hid hk
    rw [HX.out]
    clear h hk
    go_enter Try.func35, Try.ntmps35
    go_wp2_with (go_at_call 67; refine (c_l06Codes _ _ _ _ _ HF.out).mono ?_; rintro e w' ⟨rfl, rfl⟩; rw [HK.out])
    go_ret2
    exact ⟨none, 0, [], rfl, nil_own _ _, rfl, Below.refl _ _⟩
  | true =>
    cases hk2 : okSpr s with
    | false =>
      have HX := Lib.hid (vNumbersOf_no (c := c) (.inr hk2))
      have HK := Lib.hid hk
      have HK2 := Lib.hid hk2
      rw [HX.out]
      clear h hk hk2
      go_enter Try.func35, Try.ntmps35
      go_wp2_with (first | (go_at_call 67; refine (c_l06Codes _ _ _ _ _ HF.out).mono ?_; rintro e w' ⟨rfl, rfl⟩; rw [HK.out]) | (go_at_call 57; refine (c_l06Spread _ hs _).mono ?_; rintro e w' ⟨rfl, m2, rfl⟩; rw [HK2.out]))
      go_ret2
      exact ⟨none, 0, [], rfl, nil_own _ _, rfl, below_drewN (Below.refl _ _) _⟩
    | true =>
      have HX := Lib.hid (vNumbersOf_yes hk hk2)
      have HK := Lib.hid hk
      have HK2 := Lib.hid hk2
      have hfew := okCod_few hk
      rw [HX.out]
      obtain ⟨i0, hi, hz0, hz1, hz2⟩ := info_parts info_f32
      have HI := Lib.hid hi
      have HZ0 := Lib.hid hz0
      have HZ1 := Lib.hid hz1
      have HZ2 := Lib.hid hz2
      have HNF := Lib.hid (show ∀ k, numF c s k = cop .mul .f32 (floatOfInt .f32 (c.getD k 0)) (canon .f32 s) from fun k => rfl)
      obtain ⟨n, hn⟩ : ∃ n, c.length = n := ⟨_, rfl⟩
      rw [hn] at hmax hfew HF ⊢
      clear hi hz0 hz1 hz2 h hk hk2 hn HX
      go_enter Try.func35, Try.ntmps35
      go_wp2_with (first | (go_at_call 67; refine (c_l06Codes _ _ _ _ _ HF.out).mono ?_; rintro e w' ⟨rfl, rfl⟩; rw [HK.out]) | (go_at_call 57; refine (c_l06Spread _ hs _).mono ?_; rintro e w' ⟨rfl, m2, rfl⟩; rw [HK2.out]))
      have HW := Lib.hid (below_drewN (Below.refl w.heap.size w) m2)
      have HW1 := Lib.hid (show (w.drewN m2).heap.size = w.heap.size from rfl)
      generalize w.drewN m2 = w1 at *
      go_loopw [6, 7] (fun s' i wr => GrowRel (numF c s) n w.heap.size w s' i wr) (fun _ i _ => n - (intOf i).toNat)
      case atStart =>
        have hg := grow_first (f := numF c s) (n := n) (B := w.heap.size) (wr := w1) (T := 22) (by rw [HW1.out]; exact Nat.le_refl _) rfl HW.out (by rw [HW1.out]; exact Nat.le_refl _)
        rw [HW1.out] at hg
        exact hg
      case round =>
        obtain ⟨k, b, cp, ys, hk, rfl, rfl, hy, ho, he, hl⟩ := hrel
        have HY := Lib.hid hy
        have HO := Lib.hid ho
        have HE := Lib.hid he
        have HL := Lib.hid hl
        have hk0 : (0 : Int) ≤ (k : Int) := by omega
        clear hy ho he hl
        by_cases hlt : k < n
        · have hlt' : (k : Int) < (n : Int) := by omega
          rcases HF.out.2.2.2.2 with h' | ⟨ab, off, rfl, hab, hcell⟩
          · omega
          have hx : wr.cell? ⟨ab, off + k, none⟩ = some (.int .i64 (c.getD k 0)) := (HL.out.cell (p := ⟨ab, off + k, none⟩) hab).trans (hcell k hlt)
          have HC1 := Lib.hid (HNF.out k)
          obtain ⟨x, hz⟩ : ∃ x, c.getD k 0 = x := ⟨_, rfl⟩
          rw [hz] at hx HC1
          have HC := Lib.hid (show ∀ w1, canon .f32 (fval .mul .f32 (floatOfInt .f32 x) s w1) = numF c s k by intro w1; rw [canon_fval, foi_num, HC1.out])
          clear hcell hz HC1
          have A1 := Lib.hid (show ys.length + 1 ≤ maxLen by have := HY.out; unfold maxLen; omega)
          have A2 := Lib.hid (show (ys.length + 1) * 4 ≤ 140737488355328 by have := HY.out; omega)
          have A3 := Lib.hid HL.out.size
          go_wp2_with (at_builtin; refine wpList_append_any _ rfl (.tmp 23) (.tmp 31) 33 rfl w.heap.size 22 i0 (.float .f32 0) 1 4 Try.underlying33 HI.out HZ0.out HZ1.out HZ2.out rfl Nat.one_pos (.slice b ys.length cp) ys.length (ys.map (Value.float .f32)) rfl (grow_own HO.out) (wr.heap.size + 1) (some ⟨wr.heap.size, 0, none⟩) 1 1 [.float .f32 _] rfl grow_reads (one_f32 _) A1.out A2.out (grow_base A3.out) ?_; intro v' w' hown hgr hat; obtain ⟨a', c', rfl⟩ := ownsRow_slice hown; have hmade := grow_next (n := n) hlt HO.out (Nat.le_refl _) HL.out HE.out HY.out (fval_lt .mul .f32 _ _ _) (HC.out _) hown hgr; have HMD := Lib.hid hmade; clear hown hgr hat hmade)
          go_roundw
          case rel => exact HMD.out
          case measure => simp [intOf]; omega
        · obtain rfl : k = n := by omega
          go_wp2_with fail
          go_ret2
          exact ⟨b, cp, ys, rfl, HO.out, HE.out, HL.out⟩
/-! dots -/
def dotI (a b : List Int) : Nat → Int
  | 0 => 0
  | k + 1 => dotI a b k + a.getD k 0 * b.getD k 0
theorem prod_small {x y : Int} (h1 : -127 ≤ x ∧ x ≤ 127) (h2 : -127 ≤ y ∧ y ≤ 127) : -16129 ≤ x * y ∧ x * y ≤ 16129 := by
  have e := Int.natAbs_mul x y
  have a : x.natAbs * y.natAbs ≤ 127 * 127 := Nat.mul_le_mul (by omega) (by omega)
  generalize x * y = p at *
  generalize x.natAbs * y.natAbs = q at *
  omega
theorem dot_small {a b : List Int} (ha : okCod a = true) (hb : okCod b = true) (hl : a.length = b.length) : ∀ k, k ≤ a.length → -(16129 * (k : Int)) ≤ dotI a b k ∧ dotI a b k ≤ 16129 * (k : Int)
  | 0, _ => by simp [dotI]
  | k + 1, h => by
    have h1 := dot_small ha hb hl k (by omega)
    have h2 := prod_small (okCod_at ha (show k < a.length by omega)) (okCod_at hb (show k < b.length by omega))
    show -(16129 * ((k + 1 : Nat) : Int)) ≤ dotI a b k + _ ∧ dotI a b k + _ ≤ _
    generalize a.getD k 0 * b.getD k 0 = p at *
    omega
def vDotOfCodes (a b : List Int) (f s : Nat) : Nat × Bool :=
  if (okCod a && okCod b && decide (a.length = b.length) && okSpr f && okSpr s) = true then (cop .mul .f32 (cop .mul .f32 (floatOfInt .f32 (dotI a b a.length)) (canon .f32 f)) (canon .f32 s), true) else (0, false)
theorem vDot_no {a b : List Int} {f s : Nat} (h : okCod a = false ∨ okCod b = false ∨ a.length ≠ b.length ∨ okSpr f = false ∨ okSpr s = false) : vDotOfCodes a b f s = (0, false) := by
  unfold vDotOfCodes
  rw [if_neg]
  intro hh
  simp only [Bool.and_eq_true, decide_eq_true_eq] at hh
  obtain ⟨⟨⟨⟨h1, h2⟩, h3⟩, h4⟩, h5⟩ := hh
  rcases h with h | h | h | h | h
  · rw [h1] at h; cases h
  · rw [h2] at h; cases h
  · exact h h3
  · rw [h4] at h; cases h
  · rw [h5] at h; cases h
theorem vDot_yes {a b : List Int} {f s : Nat} (h1 : okCod a = true) (h2 : okCod b = true) (h3 : a.length = b.length) (h4 : okSpr f = true) (h5 : okSpr s = true) : vDotOfCodes a b f s = (cop .mul .f32 (cop .mul .f32 (floatOfInt .f32 (dotI a b a.length)) (canon .f32 f)) (canon .f32 s), true) := by
  unfold vDotOfCodes
  rw [if_pos (by simp [h1, h2, h3, h4, h5])]
def DotRel (a b : List Int) (n : Nat) (w : World) (s i : Value) (wr : World) : Prop := ∃ k m : Nat, k ≤ n ∧ i = .int .i64 k ∧ s = .int .i64 (dotI a b k) ∧ wr = w.drewN m
end Go.Proofs.Ytgffcmmdmenefaa
