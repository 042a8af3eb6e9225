/-
  IsWhole on both sides. Conditions: the numbers can be read.
-/
import Derived.Test.YtkpcjjnaocdelaaWhi
import Derived.Test.YtkpcjjnaocdelaaCl
namespace Go.Proofs.Ytkpcjjnaocdelaa
open Go.RowKit Ieee Go.Deep Go.WideShapes Go.ChangeShapes
set_option linter.unusedVariables false
set_option linter.unusedSimpArgs false

def AllRelD (g : Nat → Bool) (zs : List Nat) (w : World) (i : Value) (wr : World) : Prop := ∃ k d : Nat, k ≤ zs.length ∧ i = .int .i64 k ∧ (∀ j, j < k → g (zs.getD j 0) = false) ∧ wr = w.drewN d
set_option maxHeartbeats 1000000 in
theorem c_indexFD (F : FuncId) (caps : Array Value) (g : Nat → Bool) (a : Option Addr) (n cap : Nat) (zs : List Nat) (w : World) (h : IsFloats .f32 w a n cap zs) (hE : ∀ (xs : Array Value) (wr : World), (callFunc F xs).run Try.prog wr = .ok (.enter F xs) wr)
    (hF : ∀ (x d : Nat), x < 4294967296 → Calls Try.prog F (#[.float .f32 x] ++ caps) (w.drewN d) fun e w' => e = .returned (.bool (g x)) ∧ ∃ m, w' = w.drewN m) :
    Calls Try.prog 146 #[.slice a n cap, .func (.func F) #[] caps] w fun e w' => (∃ r : Int, e = .returned (.int .i64 r) ∧ decide (0 ≤ r) = zs.any g) ∧ ∃ m, w' = w.drewN m := by
  have HF := Lib.hid h
  have HC := Lib.hid hF
  have hmax : n ≤ 9223372036854775807 := by have h1 := h.1; have h2 := h.2.1; unfold maxLen at h2; omega
  have hlen := h.2.2.1
  subst hlen
  clear h hF
  go_enter Try.func146, Try.ntmps146
  go_wp2_with fail
  go_loopw [8] (fun i wr => AllRelD g zs w i wr) (fun i _ => zs.length - (intOf i).toNat)
  case atStart => exact ⟨0, 0, Nat.zero_le _, rfl, (fun j hj => by omega), rfl⟩
  case round =>
    obtain ⟨k, d, hk, rfl, hz, rfl⟩ := hrel
    have HZ := Lib.hid hz
    have hk0 : (0 : Int) ≤ (k : Int) := by omega
    clear hz
    by_cases hlt : k < zs.length
    · have hlt' : (k : Int) < (zs.length : Int) := by omega
      rcases HF.out.2.2.2.2 with h' | ⟨ab, off, rfl, hab, hcell⟩
      · omega
      have hx := hcell k hlt
      have hmem : zs.getD k 0 ∈ zs := by
        unfold List.getD
        rw [List.getElem?_eq_getElem hlt]
        exact List.getElem_mem _
      have hxl := HF.out.2.2.2.1 _ hmem
      have HG := Lib.hid (HC.out _ d hxl)
      cases hg : g (zs.getD k 0) with
      | true =>
        have HY := Lib.hid (any_yes hlt hg)
        rw [hg] at HG
        obtain ⟨y, hz⟩ : ∃ y, zs.getD k 0 = y := ⟨_, rfl⟩
        rw [hz] at hx HG
        clear hcell hz hxl hmem hg
        go_wp2_with fail
        refine HG.out.mono ?_
        rintro e w2 ⟨rfl, m, rfl⟩
        go_wp2_with fail
        go_ret
        exact ⟨⟨_, rfl, by rw [HY.out]; exact decide_eq_true hk0⟩, m, rfl⟩
      | false =>
        have HN := Lib.hid hg
        rw [hg] at HG
        obtain ⟨y, hz⟩ : ∃ y, zs.getD k 0 = y := ⟨_, rfl⟩
        rw [hz] at hx HG
        clear hcell hz hxl hmem hg
        go_wp2_with fail
        refine HG.out.mono ?_
        rintro e w2 ⟨rfl, m, rfl⟩
        go_wp2_with fail
        go_roundw
        case rel => exact ⟨k + 1, m, hlt, by go_num, (fun j hj => if e : j = k then by rw [e]; exact HN.out else HZ.out j (by omega)), rfl⟩
        case measure => simp [intOf]; omega
    · obtain rfl : k = zs.length := by omega
      have HN := Lib.hid (any_no HZ.out)
      go_wp2_with fail
      go_ret
      exact ⟨⟨_, rfl, by rw [HN.out]; rfl⟩, d, rfl⟩
theorem c_containsFD (F : FuncId) (caps : Array Value) (g : Nat → Bool) (a : Option Addr) (n cap : Nat) (zs : List Nat) (w : World) (h : IsFloats .f32 w a n cap zs) (hE : ∀ (xs : Array Value) (wr : World), (callFunc F xs).run Try.prog wr = .ok (.enter F xs) wr)
    (hF : ∀ (x d : Nat), x < 4294967296 → Calls Try.prog F (#[.float .f32 x] ++ caps) (w.drewN d) fun e w' => e = .returned (.bool (g x)) ∧ ∃ m, w' = w.drewN m) :
    Calls Try.prog 126 #[.slice a n cap, .func (.func F) #[] caps] w fun e w' => e = .returned (.bool (zs.any g)) ∧ ∃ m, w' = w.drewN m := by
  have HI := Lib.hid (c_indexFD F caps g a n cap zs w h hE hF)
  clear h hF
  go_enter Try.func126, Try.ntmps126
  go_wp2_with fail
  refine HI.out.mono ?_
  rintro e w2 ⟨⟨r, rfl, hr⟩, m, rfl⟩
  have HR := Lib.hid hr
  clear hr
  go_wp2_with fail
  go_ret
  exact ⟨ret_b (by rw [← HR.out]), m, rfl⟩
theorem c_isAllFD (F : FuncId) (caps : Array Value) (p : Nat → Bool) (a : Option Addr) (n cap : Nat) (zs : List Nat) (w : World) (h : IsFloats .f32 w a n cap zs) (hE : ∀ (xs : Array Value) (wr : World), (callFunc F xs).run Try.prog wr = .ok (.enter F xs) wr)
    (hF : ∀ (x : Nat) (wr : World), x < 4294967296 → Below w.heap.size w wr → Calls Try.prog F (#[.float .f32 x] ++ caps) wr fun e w' => e = .returned (.bool (p x)) ∧ ∃ d, w' = wr.drewN d) :
    Calls Try.prog 92 #[.slice a n cap, .func (.func F) #[] caps] w fun e w' => e = .returned (.bool (zs.all p)) ∧ Below w.heap.size w w' := by
  have K := Lib.hid (Blk.new w 121 #[.func (.func F) #[] caps])
  have al := (Below.refl w.heap.size w).alloc (Nat.le_refl _) (.cells #[.func (.func F) #[] caps] 121)
  have B := Lib.hid al
  have HF := Lib.hid (IsFloats.kept h al)
  have H1 : ∀ (x d : Nat), x < 4294967296 → Calls Try.prog 127 (#[.float .f32 x] ++ #[.pointer (some ⟨w.heap.size, 0, none⟩)]) ((w.alloc (.cells #[.func (.func F) #[] caps] 121)).drewN d) fun e w' => e = .returned (.bool (!p x)) ∧ ∃ m, w' = (w.alloc (.cells #[.func (.func F) #[] caps] 121)).drewN m := by
    intro x d hx
    show Calls Try.prog 127 #[.float .f32 x, .pointer (some ⟨w.heap.size, 0, none⟩)] _ _
    have c0 := K.out.cell 0
    have HC := Lib.hid (hF x ((w.alloc (.cells #[.func (.func F) #[] caps] 121)).drewN d) hx (below_drewN al d))
    generalize w.alloc (.cells #[.func (.func F) #[] caps] 121) = w1 at *
    simp only [List.getElem?_toArray, List.getElem?_cons_zero] at c0
    clear hx hF h
    go_enter Try.func127, Try.ntmps127
    go_wp2_with fail
    refine HC.out.mono ?_
    rintro e w2 ⟨rfl, m, rfl⟩
    go_wp2_with fail
    go_ret
    exact ⟨rfl, by first | exact ⟨_, rfl⟩ | (simp only [World.drewN_drewN]; exact ⟨_, rfl⟩)⟩
  have HC := Lib.hid (c_containsFD 127 #[.pointer (some ⟨w.heap.size, 0, none⟩)] (fun x => !p x) a n cap zs _ HF.out (enters_of Try.func127 (by kernel_rfl) (by kernel_rfl)) H1)
  clear H1 hF h al
  go_enter Try.func92, Try.ntmps92
  go_wp2_with fail
  refine HC.out.mono ?_
  rintro e w2 ⟨rfl, m, rfl⟩
  go_wp2_with fail
  go_ret
  exact ⟨ret_b (all_any p zs), below_drewN B.out m⟩
def vIsWhole (k i o : Int) (ws bs : List Nat) (v : Int) : Bool := vLay k i o ws.length bs.length && ((decide (1 ≤ v) && decide (v ≤ 1000)) && (ws.all (wholeF v.toNat) && bs.all (wholeF v.toNat)))
set_option maxRecDepth 20000 in
set_option maxHeartbeats 2000000 in
theorem t_sIsWhole (k i o : Int) (ws bs : List Nat) (a b : Option Addr) (c d : Nat) (v : Int) (w : World) (h : IsFloats .f32 w a ws.length c ws ∧ IsFloats .f32 w b bs.length d bs) :
    Calls Try.prog 43 #[.agg #[.int .i64 k, .int .i64 i, .int .i64 o, .slice a ws.length c, .slice b bs.length d], .int .i64 v] w (RetB (vIsWhole k i o ws bs v) w) := by
  have al := (Below.refl w.heap.size w).alloc (Nat.le_refl _) (.cells #[.int .i64 k, .int .i64 i, .int .i64 o, .slice a ws.length c, .slice b bs.length d] 59)
  have K := Lib.hid (Blk.new w 59 #[.int .i64 k, .int .i64 i, .int .i64 o, .slice a ws.length c, .slice b bs.length d])
  have B := Lib.hid al
  have H1 := Lib.hid (h.1.kept al)
  have H2 := Lib.hid (h.2.kept al)
  have HN := Lib.hid (show ws.length ≤ 9223372036854775807 by have h1 := h.1.1; have h2 := h.1.2.1; unfold maxLen at h2; omega)
  have HM := Lib.hid (show bs.length ≤ 9223372036854775807 by have h1 := h.2.1; have h2 := h.2.2.1; unfold maxLen at h2; omega)
  obtain ⟨u, hu⟩ : ∃ u, vLay k i o ws.length bs.length = u := ⟨_, rfl⟩
  obtain ⟨u2, hu2⟩ : ∃ u2, (decide (1 ≤ v) && decide (v ≤ 1000)) = u2 := ⟨_, rfl⟩
  have HU := Lib.hid hu
  have HU2 := Lib.hid hu2
  obtain ⟨R, hR⟩ : ∃ R, vIsWhole k i o ws bs v = R := ⟨_, rfl⟩
  have HR := Lib.hid hR
  unfold vIsWhole at hR
  rw [hu, hu2] at hR
  have HRR := Lib.hid hR
  rw [HR.out]
  clear al h hu hR
  go_enter Try.func43, Try.ntmps43
  go_wp2_with fail
  generalize w.alloc (.cells #[.int .i64 k, .int .i64 i, .int .i64 o, .slice a ws.length c, .slice b bs.length d] 59) = w1 at K B H1 H2 ⊢
  obtain ⟨s0, s1, s2, s3, s4, sl⟩ := tb5 K.out
  refine (c_l03Layer w.heap.size 0 k i o a b ws.length bs.length c d u HU.out HN.out HM.out w1 s0 s1 s2 s3 s4).mono ?_
  rintro e w2 ⟨rfl, dd, rfl⟩
  have B2 := Lib.hid (below_drewN B.out dd)
  have K2 := Lib.hid (K.out.below (below_drewN (Below.refl _ _) dd))
  have H12 := Lib.hid (H1.out.kept (below_drewN (Below.refl _ _) dd))
  have H22 := Lib.hid (H2.out.kept (below_drewN (Below.refl _ _) dd))
  generalize w1.drewN dd = w2 at B2 K2 H12 H22 ⊢
  clear s0 s1 s2 s3 s4 sl
  obtain ⟨s0, s1, s2, s3, s4, sl⟩ := tb5 K2.out
  cases u with
  | false =>
    have hr : R = false := by rw [← HRR.out]; rfl
    subst hr
    clear hu2
    go_wp2_with fail
    go_ret
    exact ⟨rfl, B2.out⟩
  | true =>
    cases u2 with
    | false =>
      have hr : R = false := by rw [← HRR.out]; rfl
      subst hr
      clear hu2
      go_wp2_with fail
      refine (c_l00In v 1 1000 false HU2.out _).mono ?_
      rintro e w3 ⟨rfl, rfl⟩
      go_wp2_with fail
      go_ret
      exact ⟨rfl, B2.out⟩
    | true =>
      rw [Bool.and_eq_true, decide_eq_true_eq, decide_eq_true_eq] at hu2
      obtain ⟨most, rfl⟩ : ∃ most : Nat, v = (most : Int) := ⟨v.toNat, by omega⟩
      have hr : (ws.all (wholeF most) && bs.all (wholeF most)) = R := by rw [← HRR.out]; rfl
      have hm1 : 1 ≤ most := by omega
      have hm2 : most ≤ 1000 := by omega
      have HW := Lib.hid (fun W (hb : Below w2.heap.size w2 W) => c_l09Whole a ws.length c most ws W (H12.out.kept hb) hm1 hm2)
      have HB := Lib.hid (fun W (hb : Below w2.heap.size w2 W) => c_l09Whole b bs.length d most bs W (H22.out.kept hb) hm1 hm2)
      have HRE := Lib.hid hr
      clear hu2 hr hm1 hm2
      go_wp2_with fail
      refine (c_l00In (most : Int) 1 1000 true HU2.out _).mono ?_
      rintro e w3 ⟨rfl, rfl⟩
      go_wp2_with fail
      refine (HW.out _ (Below.refl _ _)).mono ?_
      rintro e w3 ⟨rfl, rfl⟩
      cases hw : ws.all (wholeF most) with
      | false =>
        have hr : R = false := by rw [← HRE.out, hw]; rfl
        subst hr
        clear hw
        go_wp2_with fail
        go_ret
        exact ⟨rfl, B2.out⟩
      | true =>
        have hr : R = bs.all (wholeF most) := by rw [← HRE.out, hw]; rfl
        clear hw
        go_wp2_with fail
        refine (HB.out _ (Below.refl _ _)).mono ?_
        rintro e w3 ⟨rfl, rfl⟩
        have HR3 := Lib.hid hr
        clear hr
        go_wp2_with fail
        go_ret
        exact ⟨ret_b HR3.out.symm, B2.out⟩
end Go.Proofs.Ytkpcjjnaocdelaa
