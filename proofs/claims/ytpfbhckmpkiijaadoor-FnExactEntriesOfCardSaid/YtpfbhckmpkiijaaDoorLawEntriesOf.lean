/-
  EntriesOf: the program's function answers as the model's at every argument. Conditions: the reader's errors are as their initialisers lay them.
-/
import Derived.Test.YtpfbhckmpkiijaaDoorEsm
import Derived.Test.YtpfbhckmpkiijaaDoorErl
import Derived.Test.YtpfbhckmpkiijaaDoorTie
import Derived.Test.YtpfbhckmpkiijaaDoorCards
import Derived.ChangeOld
import Derived.Below
import Derived.LaidMore
import Derived.OpenVars
import Derived.ChangeVars
import Derived.LaidLaws
import Derived.SevenTiedAt
namespace Go.Proofs.YtpfbhckmpkiijaaDoor.fnExactEntriesOf
open Go.ChangeShapes Go.WideShapes Go.ChangeAt Go.RowKit
open Go.ChangeMaps (open_string shut_string)
set_option linter.unusedVariables false

theorem ownS_apart {w w' : World} {B : Nat} {a b : Option Addr} {cap : Nat} {ls : List (List UInt8)} (h : OwnS w B a cap ls) (hg : w.grownBy w' (blk b)) (hne : ∀ g, blk a = some g → blk b ≠ some g) : OwnS w' B a cap ls := by
  refine World.ownsRow.kept h hg ?_
  rw [ownBlock_slice]
  cases ha : blk a with
  | none => exact .inl rfl
  | some g => exact .inr (fun e => hne g ha e.symm)
theorem marksT_small (k n : Nat) (h : k + n ≤ 10000000) : ∀ l ∈ marksT k n, l.length ≤ maxLen := by
  intro l hl
  obtain ⟨i, hi, rfl⟩ := List.mem_map.1 hl
  have hi := List.mem_range.1 hi
  have := mkT_len (k := k + i) (by omega)
  unfold maxLen
  omega
theorem ownS_marks {w : World} {B : Nat} {a : Option Addr} {cap k n : Nat} (h : OwnS w B a cap (marksT k n)) (hk : k + n ≤ 10000000) : IsStrs w a n cap ((marksT k n).map strB) := by
  have := h.isStrs (marksT_small k n hk)
  rw [marksT_length] at this
  exact this

set_option maxRecDepth 20000 in
set_option maxHeartbeats 4000000 in
theorem walk (a0 : ByteArray) (w : World) (w0 : a0.size ≤ maxLen) (he : ErrsP w) :
    Calls Tryd.prog 5 #[.string a0] w fun e w' => e = .returned (.bool true) ∧ Below w.heap.size w w' := by
  by_cases hs : a0.size ≤ 1048576
  case neg =>
    have hs' : (1048576 : Int) < (a0.size : Int) := by omega
    unfold maxLen at w0
    clear hs
    go_enter Tryd.func5, Tryd.ntmps5
    go_wp2_with fail
    go_ret
    exact ⟨rfl, Below.refl _ _⟩
  have hs' : (a0.size : Int) ≤ 1048576 := by omega
  have HS := Lib.hid (fun W => t_sEntriesOf a0 hs W)
  have HI := Lib.hid (fun W (hb : Below w.heap.size w W) => t_iEntriesOf a0 hs W (he.kept hb))
  unfold RetE at HS HI
  have hlen := vEntriesOf_len a0.data.toList
  have hsm := vEntriesOf_small a0.data.toList
  obtain ⟨Z, hZ⟩ : ∃ Z, (vEntriesOf a0.data.toList).2 = Z := ⟨_, rfl⟩
  obtain ⟨ok, hok⟩ : ∃ b, (vEntriesOf a0.data.toList).1 = b := ⟨_, rfl⟩
  simp only [hZ, hok] at HS HI hlen hsm
  have hsm : ∀ t ∈ Z, t.length ≤ maxLen := fun t h => Nat.le_trans (hsm t h) (by unfold maxLen; omega)
  have HSM := Lib.hid hsm
  obtain ⟨n, hn⟩ : ∃ n, Z.length = n := ⟨_, rfl⟩
  have HZN := Lib.hid hn
  rw [hn] at hlen
  have HLN := Lib.hid hlen
  have hni : (n : Int) ≤ 8 := by omega
  have B_0 := Lib.hid (Below.refl w.heap.size w)
  clear hok hZ hn hlen hsm w0 hs he
  go_enter Tryd.func5, Tryd.ntmps5
  go_wp2_with fail
  refine (HS.out _).mono ?_
  rintro e w1 ⟨aS, cS, rfl, ho, hb⟩
  rw [HZN.out]
  have S_1 := Lib.hid ho
  have B_1 := Lib.hid hb
  clear ho hb
  go_wp2_with fail
  refine (HI.out _ B_1.out).mono ?_
  rintro e w2 ⟨aG, cG, rfl, ho, hb⟩
  rw [HZN.out]
  have NS := Lib.hid (lt_apart S_1.out.lt ho.lt)
  have G_2 := Lib.hid (ownS_base ho B_1.out.size)
  have B_2 := Lib.hid (Below.next B_1.out hb)
  have S_2 := Lib.hid (S_1.out.kept hb)
  clear ho hb S_1 B_1
  go_wp2_with fail
  refine (c_eqStrs _ _ _ _ n (Z.map strB) _ (by have h := G_2.out.isStrs HSM.out; rw [HZN.out] at h; exact h) (by have h := S_2.out.isStrs HSM.out; rw [HZN.out] at h; exact h)).mono ?_
  rintro e w3 ⟨rfl, dn⟩
  have bl := dn.below
  clear dn
  have S_3 := Lib.hid (S_2.out.kept bl)
  have G_3 := Lib.hid (G_2.out.kept bl)
  have B_3 := Lib.hid (Below.next B_2.out bl)
  clear bl S_2 G_2 B_2
  have HMK := Lib.hid (fun W (h : OwnS W w.heap.size aG cG Z) => show Calls Tryd.prog 19 #[.slice aG n cG, .int .i64 ((1 : Nat) : Int)] W (RetMarkT 1 w.heap.size aG cG n W) by have h2 := c_markStrs aG cG w.heap.size 1 Z W h (Nat.le_refl _) (by omega) (by rw [HZN.out]; have := HLN.out; omega); rw [HZN.out] at h2; exact h2)
  obtain ⟨q, hq⟩ : ∃ q, 1 + n = q := ⟨_, rfl⟩
  have HQ := Lib.hid hq
  have hq' : q ≤ 9 := by have := HLN.out; omega
  have hq0 : (0 : Int) ≤ (q : Int) := by omega
  unfold RetMarkT at HMK
  rw [hq] at HMK
  clear hq
  go_wp2_with fail
  refine (HMK.out _ G_3.out).mono ?_
  rintro e w4 ⟨rfl, ho, hg⟩
  have G_4 := Lib.hid ho
  have S_4 := Lib.hid (ownS_apart S_3.out hg NS.out)
  have B_4 := Lib.hid (Below.grownBy B_3.out hg B_3.out.size (fun g h => (G_3.out.lt g h).1))
  clear ho hg S_3 G_3 B_3
  have HHD := Lib.hid (fun W (h : OwnS W w.heap.size aG cG (marksT 1 n)) => show Calls Tryd.prog 20 #[.slice aG n cG, .int .i64 ((1 : Nat) : Int)] W fun e w' => e = .returned (.int .i64 ((q : Nat) : Int)) ∧ Below W.heap.size W w' by have h2 := c_heldStrs aG cG 1 n W ((ownS_marks h) (by have := HLN.out; omega)) (Nat.le_refl _) (by omega) (by have := HLN.out; omega); rw [HQ.out] at h2; exact h2)
  go_wp2_with fail
  refine (HHD.out _ G_4.out).mono ?_
  rintro e w5 ⟨rfl, hb⟩
  have S_5 := Lib.hid (S_4.out.kept hb)
  have G_5 := Lib.hid (G_4.out.kept hb)
  have B_5 := Lib.hid (Below.next B_4.out hb)
  clear hb S_4 G_4 B_4
  go_wp2_with fail
  refine (HI.out _ B_5.out).mono ?_
  rintro e w6 ⟨aH, cH, rfl, ho, hb⟩
  rw [HZN.out]
  have H_6 := Lib.hid ho
  have S_6 := Lib.hid (S_5.out.kept hb)
  have G_6 := Lib.hid (G_5.out.kept hb)
  have B_6 := Lib.hid (Below.next B_5.out hb)
  clear ho hb S_5 G_5 B_5
  go_wp2_with fail
  refine (c_eqStrs _ _ _ _ n (Z.map strB) _ (by have h := H_6.out.isStrs HSM.out; rw [HZN.out] at h; exact h) (by have h := S_6.out.isStrs HSM.out; rw [HZN.out] at h; exact h)).mono ?_
  rintro e w7 ⟨rfl, dn⟩
  have bl := dn.below
  clear dn
  have S_7 := Lib.hid (S_6.out.kept bl)
  have G_7 := Lib.hid (G_6.out.kept bl)
  have B_7 := Lib.hid (Below.next B_6.out bl)
  clear bl S_6 G_6 H_6 B_6
  go_wp2_with fail
  refine (HHD.out _ G_7.out).mono ?_
  rintro e w8 ⟨rfl, hb⟩
  have S_8 := Lib.hid (S_7.out.kept hb)
  have G_8 := Lib.hid (G_7.out.kept hb)
  have B_8 := Lib.hid (Below.next B_7.out hb)
  clear hb S_7 G_7 B_7
  go_wp2_with fail
  go_ret
  exact ⟨rfl, B_8.out⟩

theorem vars_three {H : Type} {enc : TypeId × Value → H} {P : Program} {w : World} {spare : Nat → Bool} {n1 n2 n3 : String} {gs : List (DataW H)} {ps : List MemPlace} (h : DataW.TrodVars enc P w spare [n1, n2, n3] gs ps) : ∃ g1 g2 g3, gs = [g1, g2, g3] := by
  cases gs with
  | nil => simp [DataW.TrodVars] at h
  | cons d ds =>
    obtain ⟨g, t, cs, fuel, p, q, h1, h2, h3, h4, hs, e⟩ := h
    cases ds with
    | nil => simp [DataW.TrodVars] at hs
    | cons d' ds =>
      obtain ⟨g', t', cs', fuel', p', q', h1', h2', h3', h4', hs', e'⟩ := hs
      obtain ⟨_, _, _, _, d2, _, hd, _⟩ := trodVars_one hs'
      exact ⟨d, d', d2, by rw [hd]⟩
/-! the door's own heap meets the condition -/
def laid : List (String × DataW Unit) := Rows.fnExactEntriesOfRow.laid
theorem own : ownKnob Tryd.prog.godebug = none := by kernel_rfl
theorem door_met (os : Os) (args : Array Value) : laidMetH Tryd.prog laid ((World.doorLaid Tryd.prog 400 os).forCall (fun _ _ => 0) ⟨#[], args, []⟩).memory :=
  laidMetH_of_parts3 (fuel := 8) (laidMet_of_run' 8 (by kernel_rfl) (by kernel_rfl)) (by kernel_rfl) (by kernel_rfl)
set_option maxRecDepth 100000 in
theorem lifted (os : Os) (started : os.Started) (H : Type) (enc : TypeId × Value → H) :
    ReturnsInHanded {} Tryd.checked os 5 .any (fun w args => (Rows.fnExactEntriesOfSpec.pre enc Tryd.prog Tryd.f5 [] false w args ∧ laidMetH Tryd.prog laid w) ∧ sizedMet enc Tryd.prog Tryd.f5 (OpenSpec.ofChange Rows.fnExactEntriesOfSpec) false w args)
      (Rows.fnExactEntriesOfSpec.post enc Tryd.prog Tryd.f5 false true false false) := by
  refine returnsInHanded_of_change_and (C := Tryd.checked) (X := fun w _ => laidMetH Tryd.prog laid w) (fun _ _ _ hh h => h.of_heap hh) own started (by kernel_rfl) Tryd.func5
    (ChangeSpec.witness_shaped (enc := enc) (C := Tryd.checked) (os := os) (X := fun w _ => laidMetH Tryd.prog laid w) false (World.doorLaid Tryd.prog 400 os) #[.string ByteArray.empty] 8 rfl (World.shaped_of_RefB (by kernel_rfl) (by kernel_rfl)) (by kernel_rfl) (by kernel_rfl) (by kernel_rfl) (door_met os _)) ?_
  intro W base args ds gs before hval0 hW hcnd _ hL _
  have hval : ∀ (j : Nat) t v, Tryd.f5.params[j]? = some t → args[j]? = some v → Value.okWide Tryd.prog W .any base t v := hval0
  have hW' := hW
  obtain ⟨p, q, hA0, hV, rfl, hfz, hnd⟩ := hW
  have hA : DataW.TrodAll enc Tryd.prog W 0 (fun _ => true) true Tryd.f5.params.toList args.toList ds p := hA0
  rw [Tryd.params5] at hA hval
  obtain ⟨v0, vs0, d0, ds0, p0, q0, hargs, rfl, rfl, h0, rest0⟩ := trodAll_cons hA
  obtain ⟨rfl, rfl, rfl⟩ := trodAll_nil rest0
  obtain rfl : args = #[v0] := by cases args; simp_all
  obtain ⟨g1, g2, g3, rfl⟩ : ∃ g1 g2 g3, gs = [g1, g2, g3] := vars_three hV
  obtain ⟨a0, rfl, rfl, rfl, w0⟩ := open_string Tryd.underlying9 (hval 0 9 v0 rfl rfl) h0
  clear hA0 hval0
  refine (walk a0 W w0 (errsP_ent hL)).mono fun e W' ⟨he, bel⟩ => ?_
  subst he
  exact ⟨_, rfl, _, _, _, [], _, _, hW', trodAll_mk1 (shut_bool Tryd.underlying4 _), (trodAll_cons_mk (shut_string Tryd.underlying9 w0) trodAll_mk0), Below.trodVars laidOut bel (by kernel_rfl) hV, bel.frame _, fun h => by cases h⟩

theorem over : Rows.fnExactEntriesOfRow.holds Tryd.pinned (OpenSpec.ofChange Rows.fnExactEntriesOfSpec) :=
  OpenClaim.holds_of_wide 5 Tryd.f5 rfl rfl rfl rfl rfl rfl rfl ⟨rfl, rfl, rfl, rfl, rfl⟩ rfl rfl rfl rfl rfl (by kernel_rfl) Tryd.func5 (by kernel_rfl)
    (of_decide_eq_true (by kernel_rfl)) (by unfold Func.isWrapper; first | (rw [if_pos (by decide +kernel)]; kernel_rfl) | (rw [if_neg (by decide +kernel)]; exact ⟨rfl, rfl⟩))
    (fun os started H enc _ => lifted os started H enc)

/-- the statement: the row, tied to the program's text -/
theorem proved : Rows.FnExactEntriesOfCardSaid :=
  Claim7.holds_tied_plain_at .later [] Rows.fnExactEntriesOfCard.laidKinds true Rows.fnExactEntriesOfCard.stood.harness Rows.fnExactEntriesOfCard.stood.looks
    over (fun _ h => by cases h) (by kernel_rfl) (fun _ h => by cases h) fnExactEntriesOf_row_tie rfl ⟨rfl, rfl⟩ (by kernel_rfl) rfl
    (fun f fn hf hfn => by
      obtain rfl : f = 5 := Option.some.inj ((show Tryd.prog.funcNamed Rows.fnExactEntriesOfRow.func = some 5 by kernel_rfl).symm.trans hf) |>.symm
      obtain rfl : fn = Tryd.f5 := (Option.some.inj (Tryd.func5.symm.trans hfn)).symm
      exact ⟨by kernel_rfl, fun j t ht => by
        rw [Tryd.params5] at ht
        rcases j with _ | j
        · obtain rfl : t = 9 := by simpa using ht.symm
          exact (show Tryd.prog.wantsStandIn 9 = false by kernel_rfl)
        · simp at ht⟩)
    (by kernel_rfl)
end Go.Proofs.YtpfbhckmpkiijaaDoor.fnExactEntriesOf
