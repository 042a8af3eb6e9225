/-
  StoredSize: what the program answers is what the document asks.
-/
import Derived.Test.YtpobdigmjfapbaaDoorStj
import Derived.Test.YtpobdigmjfapbaaDoorTie
import Derived.Test.YtpobdigmjfapbaaDoorCards
import Derived.ChangeOld
import Derived.Below
import Derived.LaidMore
import Derived.LaidLaws
import Derived.SevenTiedAt
namespace Go.Proofs.YtpobdigmjfapbaaDoor.fnExactStoredSize
open Go.ChangeShapes Go.WideShapes Go.ChangeAt Go.RowKit
open Go.ChangeMaps (open_string shut_string)
set_option linter.unusedVariables false

set_option maxHeartbeats 4000000 in
set_option maxRecDepth 100000 in
/-- for any contracts of the model and of the program that say the same -/
theorem core (q0 : TrsA)  (w : World) (w0' : TrsAt w q0) (x : Int) (b : Bool) (hL0 : (trsSum q0) ≤ 1048576) 
    (CS' : ∀ (p0 : TrsA) (w : World), (TrsEq p0 q0) → (TrsAt w p0) → Calls Tryd.prog 24 #[.agg p0.cells] w (RetNb x b w))
    (CI' : ∀ (p0 : TrsA) (w : World), (TrsEq p0 q0) → (TrsAt w p0) → Calls Tryd.prog 26 #[.agg p0.cells] w (RetNb x b w)) :
    Calls Tryd.prog 6 #[.agg q0.cells] w fun e w' => e = .returned (.bool true) ∧ Below w.heap.size w w' := by
  have HS0 := Lib.hid w0'
  have HZ0 := Lib.hid (show trsSum q0 ≤ 1048576 by omega)
  have CS := Lib.hid CS'
  have CI := Lib.hid CI'
  obtain ⟨l0, hl0⟩ : ∃ l, 1048576 - (trsSum q0) = l := ⟨_, rfl⟩
  have hl0' : l0 ≤ 1048576 := by omega
  have HQ0 := Lib.hid (show trsSum q0 ≤ 1048576 by omega)
  have HE0 := Lib.hid hl0
  have hp0 : (0 : Int) ≤ (l0 : Int) := by omega
  clear w0' CS' CI' hl0 hL0
  obtain ⟨u0_0, u0_1, u0_2, u0_3, u0_4, u0_5, u0_6, u0_7, u0_8, hc0⟩ := cells5 q0
  rw [hc0]
  have CQ0 := Lib.hid hc0
  have HA0 := Lib.hid (fun W (h : TrsAt W q0) => c_toTrsN q0 W h HZ0.out)
  have HX0 := Lib.hid (fun W (l r : Nat) (h : TrsAt W q0) hl hs hr => c_szTrs q0 l r W h hl hs hr)
  simp only [hc0] at HA0 HX0
  clear hc0
  go_enter Tryd.func6, Tryd.ntmps6
  go_wp2_with fail
  have B_0 := Lib.hid (Below.refl w.heap.size w)
  have bl := (Below.refl (w).heap.size (w)).alloc (Nat.le_refl _) (.cells #[.slice u0_0 u0_1 u0_2, .slice u0_3 u0_4 u0_5, .int .i64 u0_6, .int .i64 u0_7, .float .f32 u0_8] 43)
  have K0_1 := Lib.hid (Blk.new (w) 43 #[.slice u0_0 u0_1 u0_2, .slice u0_3 u0_4 u0_5, .int .i64 u0_6, .int .i64 u0_7, .float .f32 u0_8])
  have B_1 := Lib.hid (Below.next B_0.out bl)
  clear B_0
  clear bl
  generalize (w).alloc (.cells #[.slice u0_0 u0_1 u0_2, .slice u0_3 u0_4 u0_5, .int .i64 u0_6, .int .i64 u0_7, .float .f32 u0_8] 43) = w1 at B_1 K0_1 ⊢
  refine (HX0.out _ _ _ (HS0.out.kept B_1.out) (Nat.le_refl _) HQ0.out HE0.out).mono ?_
  rintro e w2 ⟨rfl, bl⟩
  have B_2 := Lib.hid (Below.next B_1.out bl)
  clear B_1
  have K0_2 := Lib.hid (K0_1.out.below bl)
  clear K0_1
  clear bl
  obtain ⟨pK00, pK01, pK02, pK03, pK04, pK0l⟩ := tb5 K0_2.out
  go_wp2_with fail
  clear pK00 pK01 pK02 pK03 pK04 pK0l
  refine (HA0.out _ (HS0.out.kept B_2.out)).mono ?_
  rintro e w3 ⟨qT0, rfl, ht, ho, hsc, hnd, bl⟩
  obtain ⟨uT0_0, uT0_1, uT0_2, uT0_3, uT0_4, uT0_5, uT0_6, uT0_7, uT0_8, hcc⟩ := cells5 qT0
  have CQT0 := Lib.hid hcc
  have HPT0 := Lib.hid ht
  have SCT0 := Lib.hid hsc
  rw [hcc]
  clear hcc
  have T0_3 := Lib.hid (OwnL.base B_2.out.size _ ho)
  have B_3 := Lib.hid (Below.next B_2.out bl)
  clear B_2
  have K0_3 := Lib.hid (K0_2.out.below bl)
  clear K0_2
  clear ht hsc ho hnd
  clear bl
  obtain ⟨pK00, pK01, pK02, pK03, pK04, pK0l⟩ := tb5 K0_3.out
  go_wp2_with fail
  clear pK00 pK01 pK02 pK03 pK04 pK0l
  have hc := CS.out qT0 _ HPT0.out (TrsOwn.at ⟨T0_3.out, SCT0.out⟩)
  rw [CQT0.out] at hc
  refine hc.mono ?_
  clear hc
  rintro e w4 ⟨rfl, bl⟩
  have B_4 := Lib.hid (Below.next B_3.out bl)
  clear B_3
  have K0_4 := Lib.hid (K0_3.out.below bl)
  clear K0_3
  have T0_4 := Lib.hid (OwnL.kept T0_3.out bl)
  clear T0_3
  clear bl
  clear T0_4
  obtain ⟨pK00, pK01, pK02, pK03, pK04, pK0l⟩ := tb5 K0_4.out
  go_wp2_with fail
  clear pK00 pK01 pK02 pK03 pK04 pK0l
  refine (HA0.out _ (HS0.out.kept B_4.out)).mono ?_
  rintro e w5 ⟨qX0, rfl, ht, ho, hsc, hnd, bl⟩
  obtain ⟨uX0_0, uX0_1, uX0_2, uX0_3, uX0_4, uX0_5, uX0_6, uX0_7, uX0_8, hcc⟩ := cells5 qX0
  have CQX0 := Lib.hid hcc
  have HPX0 := Lib.hid ht
  have SCX0 := Lib.hid hsc
  rw [hcc]
  clear hcc
  have X0_5 := Lib.hid (OwnL.base B_4.out.size _ ho)
  have B_5 := Lib.hid (Below.next B_4.out bl)
  clear B_4
  have K0_5 := Lib.hid (K0_4.out.below bl)
  clear K0_4
  clear ht hsc ho hnd
  clear bl
  obtain ⟨pK00, pK01, pK02, pK03, pK04, pK0l⟩ := tb5 K0_5.out
  go_wp2_with fail
  clear pK00 pK01 pK02 pK03 pK04 pK0l
  have bl := (Below.refl w5.heap.size w5).alloc (Nat.le_refl _) (.cells #[.slice uX0_0 uX0_1 uX0_2, .slice uX0_3 uX0_4 uX0_5, .int .i64 uX0_6, .int .i64 uX0_7, .float .f32 uX0_8] 51)
  have XB0_6 := Lib.hid (Blk.new w5 51 #[.slice uX0_0 uX0_1 uX0_2, .slice uX0_3 uX0_4 uX0_5, .int .i64 uX0_6, .int .i64 uX0_7, .float .f32 uX0_8])
  have B_6 := Lib.hid (Below.next B_5.out bl)
  clear B_5
  have K0_6 := Lib.hid (K0_5.out.below bl)
  clear K0_5
  have X0_6 := Lib.hid (OwnL.kept X0_5.out bl)
  clear X0_5
  clear bl
  generalize w5.alloc (.cells #[.slice uX0_0 uX0_1 uX0_2, .slice uX0_3 uX0_4 uX0_5, .int .i64 uX0_6, .int .i64 uX0_7, .float .f32 uX0_8] 51) = w6 at B_6 K0_6 X0_6 XB0_6 ⊢
  obtain ⟨pK00, pK01, pK02, pK03, pK04, pK0l⟩ := tb5 K0_6.out
  obtain ⟨pXB00, pXB01, pXB02, pXB03, pXB04, pXB0l⟩ := tb5 XB0_6.out
  try go_wp2_with fail
  clear pK00 pK01 pK02 pK03 pK04 pK0l pXB00 pXB01 pXB02 pXB03 pXB04 pXB0l
  have hc := CI.out qX0 _ HPX0.out (TrsOwn.at ⟨X0_6.out, SCX0.out⟩)
  rw [CQX0.out] at hc
  refine hc.mono ?_
  clear hc
  rintro e w7 ⟨rfl, bl⟩
  have B_7 := Lib.hid (Below.next B_6.out bl)
  clear B_6
  have K0_7 := Lib.hid (K0_6.out.below bl)
  clear K0_6
  have X0_7 := Lib.hid (OwnL.kept X0_6.out bl)
  clear X0_6
  have XB0_7 := Lib.hid (XB0_6.out.below bl)
  clear XB0_6
  clear bl
  obtain ⟨pK00, pK01, pK02, pK03, pK04, pK0l⟩ := tb5 K0_7.out
  obtain ⟨pXB00, pXB01, pXB02, pXB03, pXB04, pXB0l⟩ := tb5 XB0_7.out
  go_wp2_with fail
  clear pK00 pK01 pK02 pK03 pK04 pK0l pXB00 pXB01 pXB02 pXB03 pXB04 pXB0l
  have bl : Below w7.heap.size w7 w7.drew := (Below.refl _ _).drew
  have B_8 := Lib.hid (Below.next B_7.out bl)
  clear B_7
  have K0_8 := Lib.hid (K0_7.out.below bl)
  clear K0_7
  have X0_8 := Lib.hid (OwnL.kept X0_7.out bl)
  clear X0_7
  have XB0_8 := Lib.hid (XB0_7.out.below bl)
  clear XB0_7
  clear bl
  obtain ⟨pK00, pK01, pK02, pK03, pK04, pK0l⟩ := tb5 K0_8.out
  obtain ⟨pXB00, pXB01, pXB02, pXB03, pXB04, pXB0l⟩ := tb5 XB0_8.out
  go_region_held3 (fun w' => w'.cell? ⟨w.heap.size, 0, none⟩ = some (.slice u0_0 u0_1 u0_2) ∧ w'.cell? ⟨w.heap.size, 1, none⟩ = some (.slice u0_3 u0_4 u0_5) ∧ w'.cell? ⟨w.heap.size, 2, none⟩ = some (.int .i64 u0_6) ∧ w'.cell? ⟨w.heap.size, 3, none⟩ = some (.int .i64 u0_7) ∧ w'.cell? ⟨w.heap.size, 4, none⟩ = some (.float .f32 u0_8) ∧ w'.cell? ⟨w5.heap.size, 0, none⟩ = some (.slice uX0_0 uX0_1 uX0_2) ∧ w'.cell? ⟨w5.heap.size, 1, none⟩ = some (.slice uX0_3 uX0_4 uX0_5) ∧ w'.cell? ⟨w5.heap.size, 2, none⟩ = some (.int .i64 uX0_6) ∧ w'.cell? ⟨w5.heap.size, 3, none⟩ = some (.int .i64 uX0_7) ∧ w'.cell? ⟨w5.heap.size, 4, none⟩ = some (.float .f32 uX0_8)) (go_keep)
    (first
      | (go_at_call 25
         clear pK00 pK01 pK02 pK03 pK04 pK0l pXB00 pXB01 pXB02 pXB03 pXB04 pXB0l
         refine (HA0.out _ (HS0.out.kept B_8.out)).mono ?_
         rintro e w9 ⟨qY0, rfl, ht, ho, hsc, hnd, bl⟩
         obtain ⟨uY0_0, uY0_1, uY0_2, uY0_3, uY0_4, uY0_5, uY0_6, uY0_7, uY0_8, hcc⟩ := cells5 qY0
         have CQY0 := Lib.hid hcc
         have HPY0 := Lib.hid ht
         have SCY0 := Lib.hid hsc
         rw [hcc]
         clear hcc
         have Y0_9 := Lib.hid (OwnL.base B_8.out.size _ ho)
         have B_9 := Lib.hid (Below.next B_8.out bl)
         clear B_8
         have K0_9 := Lib.hid (K0_8.out.below bl)
         clear K0_8
         have X0_9 := Lib.hid (OwnL.kept X0_8.out bl)
         clear X0_8
         have XB0_9 := Lib.hid (XB0_8.out.below bl)
         clear XB0_8
         clear ht hsc ho hnd
         clear bl
         obtain ⟨pK00, pK01, pK02, pK03, pK04, pK0l⟩ := tb5 K0_9.out
         obtain ⟨pXB00, pXB01, pXB02, pXB03, pXB04, pXB0l⟩ := tb5 XB0_9.out)
      | (go_at_call 27
         clear pK00 pK01 pK02 pK03 pK04 pK0l pXB00 pXB01 pXB02 pXB03 pXB04 pXB0l
         have hc := c_eqTrs' qX0 qY0 _ (TrsOwn.at ⟨X0_9.out, SCX0.out⟩) (TrsOwn.at ⟨Y0_9.out, SCY0.out⟩) (HPX0.out.trans HPY0.out.symm)
         rw [CQX0.out, CQY0.out] at hc
         refine hc.mono ?_
         clear hc
         rintro e w10 ⟨rfl, bl⟩
         have B_10 := Lib.hid (Below.next B_9.out bl)
         clear B_9
         have K0_10 := Lib.hid (K0_9.out.below bl)
         clear K0_9
         have X0_10 := Lib.hid (OwnL.kept X0_9.out bl)
         clear X0_9
         have XB0_10 := Lib.hid (XB0_9.out.below bl)
         clear XB0_9
         have Y0_10 := Lib.hid (OwnL.kept Y0_9.out bl)
         clear Y0_9
         clear bl
         obtain ⟨pK00, pK01, pK02, pK03, pK04, pK0l⟩ := tb5 K0_10.out
         obtain ⟨pXB00, pXB01, pXB02, pXB03, pXB04, pXB0l⟩ := tb5 XB0_10.out))
  clear pK00 pK01 pK02 pK03 pK04 pK0l pXB00 pXB01 pXB02 pXB03 pXB04 pXB0l
  clear Y0_10
  obtain ⟨pK00, pK01, pK02, pK03, pK04, pK0l⟩ := tb5 K0_10.out
  obtain ⟨pXB00, pXB01, pXB02, pXB03, pXB04, pXB0l⟩ := tb5 XB0_10.out
  go_wp2_with fail
  clear pK00 pK01 pK02 pK03 pK04 pK0l pXB00 pXB01 pXB02 pXB03 pXB04 pXB0l
  go_ret
  exact ⟨rfl, B_10.out⟩

theorem walk (v0 : Value) (w : World) (w0 : ∃ q : TrsA, v0 = .agg q.cells ∧ TrsAt w q) :
    Calls Tryd.prog 6 #[v0] w fun e w' => e = .returned (.bool true) ∧ Below w.heap.size w w' := by
  obtain ⟨q0, rfl, w0⟩ := w0
  by_cases hL0 : (trsSum q0) ≤ 1048576
  case neg =>
    obtain ⟨u0_0, u0_1, u0_2, u0_3, u0_4, u0_5, u0_6, u0_7, u0_8, hc0⟩ := cells5 q0
    have bb := ((Below.refl w.heap.size w).alloc (by simp) (.cells #[.slice u0_0 u0_1 u0_2, .slice u0_3 u0_4 u0_5, .int .i64 u0_6, .int .i64 u0_7, .float .f32 u0_8] 43))
    have k0 := Blk.new w 43 #[.slice u0_0 u0_1 u0_2, .slice u0_3 u0_4 u0_5, .int .i64 u0_6, .int .i64 u0_7, .float .f32 u0_8]
    have B := Lib.hid bb
    have K0 := Lib.hid k0
    have HN := Lib.hid (fun W (hb : Below w.heap.size w W) => c_szTrs_no q0 1048576 W (w0.kept hb) (Nat.le_refl _) (by omega))
    simp only [hc0] at HN
    simp only [hc0]
    clear bb k0 hc0
    clear hL0
    go_enter Tryd.func6, Tryd.ntmps6
    go_wp2_with fail
    generalize w.alloc (.cells #[.slice u0_0 u0_1 u0_2, .slice u0_3 u0_4 u0_5, .int .i64 u0_6, .int .i64 u0_7, .float .f32 u0_8] 43) = w1 at B K0 ⊢
    refine (HN.out _ B.out).mono ?_
    rintro e w3 ⟨rfl, hb⟩
    have B3 := Lib.hid (Below.next B.out hb)
    clear hb
    go_wp2_with fail
    go_ret
    exact ⟨rfl, B3.out⟩
  case pos =>
    have Hs := fun (p0 : TrsA) (w : World) (hp0 : TrsEq p0 q0) (h0 : TrsAt w p0) => t_sStoredSize p0 w h0
    have Hi := fun (p0 : TrsA) (w : World) (hp0 : TrsEq p0 q0) (h0 : TrsAt w p0) => t_iStoredSize p0 w h0
    have Hs' := fun (p0 : TrsA) (w : World) (hp0 : TrsEq p0 q0) (h0 : TrsAt w p0) => by have h := Hs p0 w hp0 h0; rw [vStoredSize_of hp0] at h; exact h
    have Hi' := fun (p0 : TrsA) (w : World) (hp0 : TrsEq p0 q0) (h0 : TrsAt w p0) => by have h := Hi p0 w hp0 h0; rw [vStoredSize_of hp0] at h; exact h
    exact core q0  w w0 (vStoredSize q0).1 (vStoredSize q0).2 hL0  Hs' Hi'

/-! the door's own heap meets the condition -/
def laid {H : Type} : List (String × DataW H) := [("bytes.ErrTooLarge", Rows.laid_bytes_ErrTooLarge)]
theorem own : ownKnob Tryd.prog.godebug = none := by kernel_rfl
theorem door_met (os : Os) (args : Array Value) : laidMetH Tryd.prog laid ((World.doorLaid Tryd.prog 400 os).forCall (fun _ _ => 0) ⟨#[], args, []⟩).memory :=
  laidMetH_of_parts3 (fuel := 8) (laidMet_of_run' 8 (by kernel_rfl) (by kernel_rfl)) (by kernel_rfl) (by kernel_rfl)
set_option maxRecDepth 100000 in
theorem lifted (os : Os) (started : os.Started) (H : Type) (enc : TypeId × Value → H) :
    ReturnsInHanded {} Tryd.checked os 6 .any (fun w args => (Rows.fnExactStoredSizeSpec.pre enc Tryd.prog Tryd.f6 [] false w args ∧ laidMetH Tryd.prog laid w) ∧ sizedMet enc Tryd.prog Tryd.f6 (OpenSpec.ofChange Rows.fnExactStoredSizeSpec) false w args)
      (Rows.fnExactStoredSizeSpec.post enc Tryd.prog Tryd.f6 false true false false) := by
  refine returnsInHanded_of_change_and (C := Tryd.checked) (X := fun w _ => laidMetH Tryd.prog laid w) (fun _ _ _ hh h => h.of_heap hh) own started (by kernel_rfl) Tryd.func6
    (ChangeSpec.witness_shaped (enc := enc) (C := Tryd.checked) (os := os) (X := fun w _ => laidMetH Tryd.prog laid w) false (World.doorLaid Tryd.prog 400 os) #[.agg #[.slice none 0 0, .slice none 0 0, .int .i64 0, .int .i64 0, .float .f32 0]] 8 rfl (World.shaped_of_RefB (by kernel_rfl) (by kernel_rfl)) (by kernel_rfl) (by kernel_rfl) (by kernel_rfl) (door_met os _)) ?_
  intro W base args ds gs before hval0 hW hcnd _ hL _
  have hval : ∀ (j : Nat) t v, Tryd.f6.params[j]? = some t → args[j]? = some v → Value.okWide Tryd.prog W .any base t v := hval0
  have hW' := hW
  obtain ⟨p, q, hA0, hV, rfl, hfz, hnd⟩ := hW
  have hA : DataW.TrodAll enc Tryd.prog W 0 (fun _ => true) true Tryd.f6.params.toList args.toList ds p := hA0
  rw [Tryd.params6] at hA hval
  obtain ⟨v0, vs0, d0, ds0, p0, q0, hargs, rfl, rfl, h0, rest0⟩ := trodAll_cons hA
  obtain ⟨rfl, rfl, rfl⟩ := trodAll_nil rest0
  obtain rfl : args = #[v0] := by cases args; simp_all
  obtain ⟨rfl, rfl⟩ := trodVars_none hV
  have k0 := h0
  have lt0 : ∀ x ∈ p0, x.block < W.heap.size := by obtain ⟨m, hm⟩ := k0; exact DataW.trod_lt m _ _ _ hm
  have w0 := open_Trs (hval 0 43 v0 rfl rfl) h0
  clear hA0 hval0
  refine (walk _ W w0).mono fun e W' ⟨he, bel⟩ => ?_
  subst he
  exact ⟨_, rfl, _, _, _, [], _, [], hW', trodAll_mk1 (shut_bool Tryd.underlying4 _), (trodAll_cons_mk (Below.trod laidOut (by kernel_rfl) (of_decide_eq_true (by kernel_rfl)) k0 bel lt0) trodAll_mk0), rfl, bel.frame _, fun h => by cases h⟩

theorem over : Rows.fnExactStoredSizeRow.holds Tryd.pinned (OpenSpec.ofChange Rows.fnExactStoredSizeSpec) :=
  OpenClaim.holds_of_wide 6 Tryd.f6 rfl rfl rfl rfl rfl rfl rfl ⟨rfl, rfl, rfl, rfl, rfl⟩ rfl rfl rfl rfl rfl (by kernel_rfl) Tryd.func6 (by kernel_rfl)
    (of_decide_eq_true (by kernel_rfl)) (by unfold Func.isWrapper; first | (rw [if_pos (by decide +kernel)]; kernel_rfl) | (rw [if_neg (by decide +kernel)]; exact ⟨rfl, rfl⟩))
    (fun os started H enc _ => lifted os started H enc)

/-- the statement: the row, tied to the program's text -/
theorem proved : Rows.FnExactStoredSizeCardSaid :=
  Claim7.holds_tied_plain_at .later [] Rows.fnExactStoredSizeCard.laidKinds true Rows.fnExactStoredSizeCard.stood.harness true
    over (fun _ h => by cases h) (by kernel_rfl) (fun _ h => by cases h) fnExactStoredSize_row_tie rfl ⟨rfl, rfl⟩ (by kernel_rfl) rfl
    (fun f fn hf hfn => by
      obtain rfl : f = 6 := Option.some.inj ((show Tryd.prog.funcNamed Rows.fnExactStoredSizeRow.func = some 6 by kernel_rfl).symm.trans hf) |>.symm
      obtain rfl : fn = Tryd.f6 := (Option.some.inj (Tryd.func6.symm.trans hfn)).symm
      exact ⟨by kernel_rfl, fun j t ht => by
        rw [Tryd.params6] at ht
        rcases j with _ | j
        · obtain rfl : t = 43 := by simpa using ht.symm
          exact (show Tryd.prog.wantsStandIn 43 = false by kernel_rfl)
        · simp at ht⟩)
    (by kernel_rfl)
end Go.Proofs.YtpobdigmjfapbaaDoor.fnExactStoredSize
