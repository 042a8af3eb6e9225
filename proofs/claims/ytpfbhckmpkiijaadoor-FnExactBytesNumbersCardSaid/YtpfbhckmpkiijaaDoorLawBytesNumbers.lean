/-
  BytesNumbers: the program's function answers as the model's at every argument. Conditions: the reader's errors are as their initialisers lay them.
-/
import Derived.Test.YtpfbhckmpkiijaaDoorRdz
import Derived.Test.YtpfbhckmpkiijaaDoorRsx
import Derived.Test.YtpfbhckmpkiijaaDoorRer
import Derived.Test.YtpfbhckmpkiijaaDoorTie
import Derived.Test.YtpfbhckmpkiijaaDoorCards
import Derived.ChangeOld
import Derived.Below
import Derived.LaidMore
import Derived.OpenVars
import Derived.ChangeVars
import Derived.LaidLaws
import Derived.SevenTiedAt
namespace Go.Proofs.YtpfbhckmpkiijaaDoor.fnExactBytesNumbers
open Go.ChangeShapes Go.WideShapes Go.ChangeAt Go.RowKit
open Go.ChangeMaps (open_string shut_string)
set_option linter.unusedVariables false

set_option maxRecDepth 20000 in
set_option maxHeartbeats 4000000 in
theorem walk (a0 : ByteArray) (w : World) (w0 : a0.size ≤ maxLen) (he : ErrsR w) :
    Calls Tryd.prog 3 #[.string a0] w fun e w' => e = .returned (.bool true) ∧ Below w.heap.size w w' := by
  by_cases hs : a0.size ≤ 1048576
  case neg =>
    have hs' : (1048576 : Int) < (a0.size : Int) := by omega
    unfold maxLen at w0
    clear hs
    go_enter Tryd.func3, Tryd.ntmps3
    go_wp2_with fail
    go_ret
    exact ⟨rfl, Below.refl _ _⟩
  have hs' : (a0.size : Int) ≤ 1048576 := by omega
  have HS := Lib.hid (fun W => t_sBytesNumbers a0 hs W)
  have HI := Lib.hid (fun W (hb : Below w.heap.size w W) => t_iBytesNumbers a0 hs W (he.kept hb))
  have hlen := vBytesNumbers_len a0.data.toList
  obtain ⟨Z, hZ⟩ : ∃ Z, (vBytesNumbers a0.data.toList).2 = Z := ⟨_, rfl⟩
  obtain ⟨ok, hok⟩ : ∃ b, (vBytesNumbers a0.data.toList).1 = b := ⟨_, rfl⟩
  rw [hok, hZ] at HS HI
  rw [hZ] at hlen
  have HLN := Lib.hid hlen
  have B_0 := Lib.hid (Below.refl w.heap.size w)
  clear hok hZ hlen w0 hs he
  go_enter Tryd.func3, Tryd.ntmps3
  go_wp2_with fail
  refine (HS.out _).mono ?_
  rintro e w1 ⟨aS, cS, yS, rfl, ho, hy, hb⟩
  have HYS := Lib.hid hy
  have S_1 := Lib.hid ho
  have B_1 := Lib.hid hb
  clear ho hy hb
  go_wp2_with fail
  refine (HI.out _ B_1.out).mono ?_
  rintro e w2 ⟨aG, cG, yG, rfl, ho, hy, hb⟩
  have HYG := Lib.hid hy
  have NS := Lib.hid (lt_apart S_1.out.lt ho.lt)
  have G_2 := Lib.hid (ho.base B_1.out.size)
  have B_2 := Lib.hid (Below.next B_1.out hb)
  have S_2 := Lib.hid (S_1.out.kept hb)
  have LG := Lib.hid (show yG.length ≤ 4096 by have := congrArg List.length HYG.out; rw [List.length_map] at this; rw [this]; exact HLN.out)
  clear ho hy hb S_1 B_1
  go_wp2_with fail
  refine (c_eqFloats _ _ _ _ yG yS _ G_2.out.isFloats S_2.out.isFloats (HYG.out.trans HYS.out.symm)).mono ?_
  rintro e w3 ⟨rfl, dn⟩
  have bl := dn.below
  clear dn
  have S_3 := Lib.hid (S_2.out.kept bl)
  have G_3 := Lib.hid (G_2.out.kept bl)
  have B_3 := Lib.hid (Below.next B_2.out bl)
  clear bl S_2 G_2 B_2
  go_wp2_with fail
  obtain ⟨q, hq⟩ : ∃ q, 1 + yG.length = q := ⟨_, rfl⟩
  have HQ := Lib.hid hq
  have hq' : q ≤ 4097 := by have := LG.out; omega
  have hq0 : (0 : Int) ≤ (q : Int) := by omega
  clear hq
  refine (c_markFloats' _ _ _ 1 q yG _ G_3.out HQ.out (by decide) (by have := LG.out; omega)).mono ?_
  rintro e w4 ⟨rfl, ho, hg⟩
  have G_4 := Lib.hid ho
  have S_4 := Lib.hid (S_3.out.apart hg NS.out)
  have B_4 := Lib.hid (Below.grownBy B_3.out hg B_3.out.size (fun g h => (G_3.out.lt g h).1))
  clear ho hg S_3 G_3 B_3
  go_wp2_with fail
  refine (c_heldFloats' _ _ 1 q yG.length _ G_4.out.held HQ.out (by decide) (by have := LG.out; omega)).mono ?_
  rintro e w' ⟨rfl, rfl⟩
  go_wp2_with fail
  refine (HI.out _ B_4.out).mono ?_
  rintro e w5 ⟨aH, cH, yH, rfl, ho, hy, hb⟩
  have HYH := Lib.hid hy
  have H_5 := Lib.hid ho
  have S_5 := Lib.hid (S_4.out.kept hb)
  have G_5 := Lib.hid (G_4.out.kept hb)
  have B_5 := Lib.hid (Below.next B_4.out hb)
  clear ho hy hb S_4 G_4 B_4
  go_wp2_with fail
  refine (c_eqFloats _ _ _ _ yH yS _ H_5.out.isFloats S_5.out.isFloats (HYH.out.trans HYS.out.symm)).mono ?_
  rintro e w6 ⟨rfl, dn⟩
  have bl := dn.below
  clear dn
  have G_6 := Lib.hid (G_5.out.kept bl)
  have B_6 := Lib.hid (Below.next B_5.out bl)
  clear bl S_5 G_5 H_5 B_5
  go_wp2_with fail
  refine (c_heldFloats' _ _ 1 q yG.length _ G_6.out.held HQ.out (by decide) (by have := LG.out; omega)).mono ?_
  rintro e w' ⟨rfl, rfl⟩
  go_wp2_with fail
  go_ret
  exact ⟨rfl, B_6.out⟩

theorem vars_two {H : Type} {enc : TypeId × Value → H} {P : Program} {w : World} {spare : Nat → Bool} {n1 n2 : String} {gs : List (DataW H)} {ps : List MemPlace} (h : DataW.TrodVars enc P w spare [n1, n2] gs ps) : ∃ g1 g2, gs = [g1, g2] := by
  cases gs with
  | nil => simp [DataW.TrodVars] at h
  | cons d ds =>
    obtain ⟨g, t, cs, fuel, p, q, h1, h2, h3, h4, hs, e⟩ := h
    obtain ⟨_, _, _, _, d2, _, hd, _⟩ := trodVars_one hs
    exact ⟨d, d2, by rw [hd]⟩
/-! the door's own heap meets the condition -/
def laid : List (String × DataW Unit) := Rows.fnExactBytesNumbersRow.laid
theorem own : ownKnob Tryd.prog.godebug = none := by kernel_rfl
theorem door_met (os : Os) (args : Array Value) : laidMetH Tryd.prog laid ((World.doorLaid Tryd.prog 400 os).forCall (fun _ _ => 0) ⟨#[], args, []⟩).memory :=
  laidMetH_of_parts3 (fuel := 8) (laidMet_of_run' 8 (by kernel_rfl) (by kernel_rfl)) (by kernel_rfl) (by kernel_rfl)
set_option maxRecDepth 100000 in
theorem lifted (os : Os) (started : os.Started) (H : Type) (enc : TypeId × Value → H) :
    ReturnsInHanded {} Tryd.checked os 3 .any (fun w args => (Rows.fnExactBytesNumbersSpec.pre enc Tryd.prog Tryd.f3 [] false w args ∧ laidMetH Tryd.prog laid w) ∧ sizedMet enc Tryd.prog Tryd.f3 (OpenSpec.ofChange Rows.fnExactBytesNumbersSpec) false w args)
      (Rows.fnExactBytesNumbersSpec.post enc Tryd.prog Tryd.f3 false true false false) := by
  refine returnsInHanded_of_change_and (C := Tryd.checked) (X := fun w _ => laidMetH Tryd.prog laid w) (fun _ _ _ hh h => h.of_heap hh) own started (by kernel_rfl) Tryd.func3
    (ChangeSpec.witness_shaped (enc := enc) (C := Tryd.checked) (os := os) (X := fun w _ => laidMetH Tryd.prog laid w) false (World.doorLaid Tryd.prog 400 os) #[.string ByteArray.empty] 8 rfl (World.shaped_of_RefB (by kernel_rfl) (by kernel_rfl)) (by kernel_rfl) (by kernel_rfl) (by kernel_rfl) (door_met os _)) ?_
  intro W base args ds gs before hval0 hW hcnd _ hL _
  have hval : ∀ (j : Nat) t v, Tryd.f3.params[j]? = some t → args[j]? = some v → Value.okWide Tryd.prog W .any base t v := hval0
  have hW' := hW
  obtain ⟨p, q, hA0, hV, rfl, hfz, hnd⟩ := hW
  have hA : DataW.TrodAll enc Tryd.prog W 0 (fun _ => true) true Tryd.f3.params.toList args.toList ds p := hA0
  rw [Tryd.params3] at hA hval
  obtain ⟨v0, vs0, d0, ds0, p0, q0, hargs, rfl, rfl, h0, rest0⟩ := trodAll_cons hA
  obtain ⟨rfl, rfl, rfl⟩ := trodAll_nil rest0
  obtain rfl : args = #[v0] := by cases args; simp_all
  obtain ⟨g1, g2, rfl⟩ : ∃ g1 g2, gs = [g1, g2] := vars_two hV
  obtain ⟨a0, rfl, rfl, rfl, w0⟩ := open_string Tryd.underlying9 (hval 0 9 v0 rfl rfl) h0
  clear hA0 hval0
  refine (walk a0 W w0 (errsR_bn hL)).mono fun e W' ⟨he, bel⟩ => ?_
  subst he
  exact ⟨_, rfl, _, _, _, [], _, _, hW', trodAll_mk1 (shut_bool Tryd.underlying4 _), (trodAll_cons_mk (shut_string Tryd.underlying9 w0) trodAll_mk0), Below.trodVars laidOut bel (by kernel_rfl) hV, bel.frame _, fun h => by cases h⟩

theorem over : Rows.fnExactBytesNumbersRow.holds Tryd.pinned (OpenSpec.ofChange Rows.fnExactBytesNumbersSpec) :=
  OpenClaim.holds_of_wide 3 Tryd.f3 rfl rfl rfl rfl rfl rfl rfl ⟨rfl, rfl, rfl, rfl, rfl⟩ rfl rfl rfl rfl rfl (by kernel_rfl) Tryd.func3 (by kernel_rfl)
    (of_decide_eq_true (by kernel_rfl)) (by unfold Func.isWrapper; first | (rw [if_pos (by decide +kernel)]; kernel_rfl) | (rw [if_neg (by decide +kernel)]; exact ⟨rfl, rfl⟩))
    (fun os started H enc _ => lifted os started H enc)

/-- the statement: the row, tied to the program's text -/
theorem proved : Rows.FnExactBytesNumbersCardSaid :=
  Claim7.holds_tied_plain_at .later [] Rows.fnExactBytesNumbersCard.laidKinds true Rows.fnExactBytesNumbersCard.stood.harness Rows.fnExactBytesNumbersCard.stood.looks
    over (fun _ h => by cases h) (by kernel_rfl) (fun _ h => by cases h) fnExactBytesNumbers_row_tie rfl ⟨rfl, rfl⟩ (by kernel_rfl) rfl
    (fun f fn hf hfn => by
      obtain rfl : f = 3 := Option.some.inj ((show Tryd.prog.funcNamed Rows.fnExactBytesNumbersRow.func = some 3 by kernel_rfl).symm.trans hf) |>.symm
      obtain rfl : fn = Tryd.f3 := (Option.some.inj (Tryd.func3.symm.trans hfn)).symm
      exact ⟨by kernel_rfl, fun j t ht => by
        rw [Tryd.params3] at ht
        rcases j with _ | j
        · obtain rfl : t = 9 := by simpa using ht.symm
          exact (show Tryd.prog.wantsStandIn 9 = false by kernel_rfl)
        · simp at ht⟩)
    (by kernel_rfl)
end Go.Proofs.YtpfbhckmpkiijaaDoor.fnExactBytesNumbers
