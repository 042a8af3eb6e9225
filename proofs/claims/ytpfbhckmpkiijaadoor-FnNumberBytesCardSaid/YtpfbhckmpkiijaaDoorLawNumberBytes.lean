/-
  FnNumberBytes: numbers and their bytes go there and back; bytes that no number gives are refused. Conditions: the reader's errors are as their initialisers lay them.
-/
import Derived.Test.YtpfbhckmpkiijaaDoorR8
import Derived.Test.YtpfbhckmpkiijaaDoorRn
import Derived.Test.YtpfbhckmpkiijaaDoorRdz
import Derived.Test.YtpfbhckmpkiijaaDoorNbv
import Derived.Test.YtpfbhckmpkiijaaDoorRer
import Derived.Test.YtpfbhckmpkiijaaDoorTie
import Derived.Test.YtpfbhckmpkiijaaDoorCards
import Derived.ChangeOld
import Derived.Below
import Derived.LaidMore
import Derived.OpenVars
import Derived.ChangeVars
import Derived.LaidLaws
import Derived.SevenTiedAt
namespace Go.Proofs.YtpfbhckmpkiijaaDoor.fnNumberBytes
open Go.ChangeShapes Go.WideShapes Go.ChangeAt Go.RowKit
open Go.ChangeMaps (open_string shut_string)
set_option linter.unusedVariables false

/-- the numbers before the place are read -/
def NbwRel (n : Nat) (W : World) (i : Value) (wr : World) : Prop := ∃ k : Nat, k ≤ n ∧ i = .int .i64 k ∧ Below W.heap.size W wr
/-- so many of a number's four bytes are read, the last first -/
def NbyRel (l : List UInt8) (k : Nat) (W : World) (s j : Value) (wr : World) : Prop :=
  ∃ d : Nat, d ≤ 4 ∧ j = .int .i64 (3 - (d : Int)) ∧ s = .int .i64 (leN ((l.drop (4 * k + (4 - d))).take d) : Int) ∧ W = wr
theorem leN_back {l : List UInt8} {k d : Nat} (hd : d < 4) (hl : 4 * k + 4 ≤ l.length) : leN ((l.drop (4 * k + (4 - (d + 1)))).take (d + 1)) = leN ((l.drop (4 * k + (4 - d))).take d) * 256 + (l[4 * k + (3 - d)]'(by omega)).toNat := by
  have e : 4 * k + (4 - (d + 1)) = 4 * k + (3 - d) := by omega
  rw [e, List.drop_eq_getElem_cons (show 4 * k + (3 - d) < l.length by omega), List.take_succ_cons, leN_cons, show 4 * k + (3 - d) + 1 = 4 * k + (4 - d) by omega]
theorem nb_flt {w : World} {a : Option Addr} {n cap : Nat} {zs : List Nat} (h : IsFloats .f32 w a n cap zs) {i : Nat} (hi : i < n) : ∃ b off, a = some ⟨b, off, none⟩ ∧ w.cell? ⟨b, off + i, none⟩ = some (.float .f32 (zs.getD i 0)) ∧ zs.getD i 0 < 4294967296 := by
  obtain ⟨_, _, h3, h4, h5⟩ := h
  rcases h5 with h0 | ⟨b, off, e, hb, hc⟩
  · omega
  · refine ⟨b, off, e, hc i hi, ?_⟩
    rw [List.getD_eq_getElem?_getD, List.getElem?_eq_getElem (by omega)]
    exact h4 _ (List.getElem_mem _)
theorem quiet_sameB {P : Program} {f : FuncId} {args : Array Value} {w : World} {n : Nat} {v : Value}
    (h : Calls P f args (w.drewN n) fun e w' => e = .returned v ∧ w.drewN n = w') : Calls P f args (w.drewN n) fun e w'' => e = .returned v ∧ ∃ m, w'' = w.drewN m :=
  h.mono fun _ _ ⟨he, hw⟩ => ⟨he, n, hw.symm⟩
theorem app_list (l m : List UInt8) : ((⟨l.toArray⟩ : ByteArray) ++ ⟨m.toArray⟩).data.toList = l ++ m := by simp
theorem wrap_byte {c : Nat} (h : c < 256) : wrap64 (c : Int) = (c : Int) := by unfold wrap64; omega
theorem wrap_fc {F c : Nat} (h : F ≤ 16777215) (hc : c < 256) : wrap64 ((F : Int) * 256 + (c : Int)) = ((F * 256 + c : Nat) : Int) := by unfold wrap64; omega
theorem size_app (l m : List UInt8) : ((⟨l.toArray⟩ : ByteArray) ++ ⟨m.toArray⟩).size = l.length + m.length := by rw [ByteArray.size_append, size_mk, size_mk]
theorem bn_no {l m : List UInt8} (h : vBytesNumbers (l ++ m) = (false, [])) (hs : l.length + m.length ≤ 1048576) (w : World) (he : ErrsR w) : Calls Tryd.prog 7 #[.string (⟨l.toArray⟩ ++ ⟨m.toArray⟩)] w fun e w' => ∃ a c, e = .returned (.tuple #[.slice a 0 c, .bool false]) ∧ Below w.heap.size w w' := by
  have hT := t_iBytesNumbers (⟨l.toArray⟩ ++ ⟨m.toArray⟩) (by rw [size_app]; exact hs) w he
  rw [app_list, h] at hT
  refine hT.mono ?_
  rintro e w5 ⟨a, c, y, rfl, _, hy, hb⟩
  have h0 : y = [] := List.map_eq_nil_iff.1 hy
  subst h0
  exact ⟨a, c, rfl, hb⟩

set_option maxRecDepth 20000 in
set_option maxHeartbeats 4000000 in
theorem walk (a0 : Option Addr) (len0 cap0 : Nat) (z0 : List Int) (a1 : Option Addr) (len1 cap1 : Nat) (z1 : List Int) (w : World) (w0 : IsRow .u8 w a0 len0 cap0 z0) (w1 : IsRow .u8 w a1 len1 cap1 z1) (he : ErrsR w) :
    Calls Tryd.prog 4 #[.slice a0 len0 cap0, .slice a1 len1 cap1] w fun e w' => e = .returned (.bool true) ∧ Below w.heap.size w w' := by
  obtain ⟨hm0, hm1, rfl⟩ : len0 ≤ cap0 ∧ cap0 ≤ maxLen ∧ z0.length = len0 := ⟨w0.1, w0.2.1, w0.2.2.1⟩
  obtain ⟨hn0, hn1, rfl⟩ : len1 ≤ cap1 ∧ cap1 ≤ maxLen ∧ z1.length = len1 := ⟨w1.1, w1.2.1, w1.2.2.1⟩
  have HI0 := Lib.hid w0
  have HE := Lib.hid he
  clear hm0 hm1 hn0 hn1 w0 w1 he
  by_cases hL : 48 < z0.length ∨ 48 < z1.length
  · have HL := Lib.hid hL
    clear hL
    go_enter Tryd.func4, Tryd.ntmps4
    go_wp2_with fail
    refine (c_r8Long_yes _ _ _ _ _ _ HL.out _).mono ?_
    rintro e w' ⟨rfl, rfl⟩
    go_wp2_with fail
    go_ret
    exact ⟨rfl, Below.refl _ _⟩
  · have HL0 := Lib.hid (show z0.length ≤ 48 by omega)
    have HL1 := Lib.hid (show z1.length ≤ 48 by omega)
    clear hL
    go_enter Tryd.func4, Tryd.ntmps4
    go_wp2_with fail
    refine (c_r8Long_no _ _ _ _ _ _ HL0.out HL1.out _).mono ?_
    rintro e w' ⟨rfl, rfl⟩
    go_wp2_with fail
    refine (c_R8Numbers 10 (by decide) _ _ _ z0 _ HI0.out (by have := HL0.out; omega)).mono ?_
    rintro e w1 ⟨aY, cY, ys, hy10, rfl, ho, hb⟩
    have Y1 := Lib.hid ho
    have B1 := Lib.hid hb
    have HYL := Lib.hid ho.2
    obtain ⟨n, hn⟩ : ∃ n, ys.length = n := ⟨_, rfl⟩
    have hvn : vNumbersBytes ys = (⟨(nb ys).toArray⟩, true) := by unfold vNumbersBytes; rw [if_pos (by omega)]
    have hT := t_iNumbersBytes ys aY cY w1 ho.isFloats
    rw [hvn, hn] at hT
    have hln : (nb ys).length = 4 * n := by rw [nb_length, hn]
    have HVN := Lib.hid (vBN_nb ho.2 (by omega))
    have HVO := Lib.hid (vBN_odd (l := nb ys ++ [120]) (by rw [List.length_append, hln, List.length_singleton]; omega))
    have HVQ := Lib.hid (vBN_nan ho.2)
    have hnum : ∀ k (h : k < n), num4 (nb ys) k = canon .f32 (ys.getD k 0) := fun k h => by
      rw [num4_nb (tl := []) (show k < ys.length by omega) ho.2, List.getD_eq_getElem?_getD, List.getElem?_eq_getElem (by omega)]
      rfl
    obtain ⟨l, hl⟩ : ∃ l, nb ys = l := ⟨_, rfl⟩
    rw [hl] at hnum
    have HNU := Lib.hid hnum
    rw [hl] at hT hln HVN HVO HVQ
    have HT := Lib.hid hT
    have HN := Lib.hid hn
    have hn10 : (n : Int) ≤ 10 := by omega
    have HN10 := Lib.hid (show n ≤ 10 by omega)
    have hli : (l.length : Int) = 4 * (n : Int) := by omega
    have hsz := size_mk l
    rw [hn]
    clear ho hb hvn hT hl hn hy10 hnum
    go_wp2_with fail
    refine HT.out.mono ?_
    rintro e w2 ⟨rfl, hb⟩
    have B2 := Lib.hid (Below.next B1.out hb)
    have Y2 := Lib.hid (Y1.out.kept hb)
    clear hb HT Y1 B1
    go_wp2_with fail
    refine (t_iBytesNumbers ⟨l.toArray⟩ (by rw [hsz]; have := HN10.out; omega) w2 (HE.out.kept B2.out)).mono ?_
    rw [show (⟨l.toArray⟩ : ByteArray).data.toList = l by simp, HVN.out]
    rintro e w3 ⟨aB, cB, zs, rfl, ho, hz, hb⟩
    have hzn : zs.length = n := by have := congrArg List.length hz; simpa [HN.out] using this
    have Y3 := Lib.hid (Y2.out.kept hb)
    have Z3 := Lib.hid ho
    have HZ := Lib.hid hz
    have HZN := Lib.hid hzn
    have B3 := Lib.hid (Below.next B2.out hb)
    rw [hzn]
    clear ho hz hb hzn Y2 B2
    go_wp2_with fail
    go_loopw [10] (fun i wr => NbwRel n w3 i wr) (fun i _ => n - (intOf i).toNat)
    case atStart => exact ⟨0, Nat.zero_le _, rfl, Below.refl _ _⟩
    case round =>
      obtain ⟨k, hk, rfl, hb⟩ := hrel
      have HB := Lib.hid hb
      obtain ⟨wo, rfl⟩ : ∃ wo : World, wo = wr := ⟨_, rfl⟩
      have hk0 : (0 : Int) ≤ (k : Int) := by omega
      clear hb
      by_cases hlt : k < n
      · have hlt' : (k : Int) < (n : Int) := by omega
        have hl4 : 4 * k + 4 ≤ l.length := by omega
        go_wp2_with fail
        go_loopw [11, 12] (fun s j wr => NbyRel l k wo s j wr) (fun _ j _ => (intOf j + 1).toNat)
        case atStart => exact ⟨0, by decide, rfl, by simp [leN], rfl⟩
        case round =>
          obtain ⟨d, hd, rfl, rfl, rfl⟩ := hrel
          by_cases hd4 : d < 4
          · have hF := leN_back (l := l) (k := k) hd4 hl4
            have hlt2 := leN_lt ((l.drop (4 * k + (4 - d))).take d)
            have hp : 256 ^ ((l.drop (4 * k + (4 - d))).take d).length ≤ 256 ^ 3 := Nat.pow_le_pow_right (by decide) (Nat.le_trans (List.length_take_le _ _) (by omega))
            obtain ⟨F, hFF⟩ : ∃ F, leN ((l.drop (4 * k + (4 - d))).take d) = F := ⟨_, rfl⟩
            rw [hFF] at hF hlt2 ⊢
            have hF3 : F ≤ 16777215 := by omega
            obtain ⟨q, hq⟩ : ∃ q, 4 * k + (3 - d) = q := ⟨_, rfl⟩
            have hql : q < l.length := by omega
            have hqi : 4 * (k : Int) + (3 - (d : Int)) = (q : Int) := by omega
            have hq64 : (q : Int) < (l.length : Int) := by omega
            obtain ⟨c, hc⟩ : ∃ c, (l[q]'hql) = c := ⟨_, rfl⟩
            have hc8 := c.toNat_lt
            have HF := Lib.hid (show leN ((l.drop (4 * k + (4 - (d + 1)))).take (d + 1)) = F * 256 + c.toNat by rw [hF]; congr 2; rw [← hc]; congr 1)
            obtain ⟨j, hj⟩ : ∃ j : Int, 3 - (d : Int) = j := ⟨_, rfl⟩
            have hj0 : 0 ≤ j := by omega
            have hj3 : j ≤ 3 := by omega
            have HJ := Lib.hid hj
            have HQ := Lib.hid hc
            have HQL := Lib.hid hql
            rw [hj] at hqi ⊢
            clear hF hlt2 hp hFF hq hj hc
            go_wp2_with fail
            go_roundw
            case rel =>
              have hb : ((⟨l.toArray⟩ : ByteArray)[q]'(by rw [hsz]; exact HQL.out)).toNat = c.toNat := by
                have e1 : ((⟨l.toArray⟩ : ByteArray)[q]'(by rw [hsz]; exact HQL.out)).toNat = (l[q]'HQL.out).toNat := rfl
                rw [e1, HQ.out]
              exact ⟨d + 1, by omega, by have := HJ.out; congr 1; omega, by rw [HF.out, hb, wrap_byte hc8, wrap_fc hF3 hc8], rfl⟩
            case measure => simp [intOf]; omega
          · obtain rfl : d = 4 := by omega
            have e : (3 : Int) - ((4 : Nat) : Int) = -1 := rfl
            rw [e, show leN ((l.drop (4 * k + (4 - 4))).take 4) = num4 l k from rfl, HNU.out k hlt]
            obtain ⟨b1, o1, rfl, c1, l1⟩ := nb_flt (n := n) (by have := (Y3.out.kept HB.out).isFloats; rwa [HN.out] at this) hlt
            obtain ⟨b2, o2, rfl, c2, l2⟩ := nb_flt (n := n) (by have := (Z3.out.kept HB.out).isFloats; rwa [HZN.out] at this) hlt
            have hzy : canon .f32 (zs.getD k 0) = canon .f32 (ys.getD k 0) := by
              have h := congrArg (fun m => m.getD k (canon .f32 0)) HZ.out
              simpa only [List.getD_eq_getElem?_getD, List.getElem?_map, Option.getD_map] using h
            have HB1 := Lib.hid (fun W => c_iBitsOf (ys.getD k 0) l1 W)
            have hs := fun W => c_iSameNumber (zs.getD k 0) (ys.getD k 0) l2 l1 W
            rw [hzy] at hs
            simp only [beq_self_eq_true] at hs
            have HS := Lib.hid hs
            obtain ⟨N, hN⟩ : ∃ N, canon .f32 (ys.getD k 0) = N := ⟨_, rfl⟩
            rw [hN] at HB1 ⊢
            clear hs hzy hN l1 l2
            go_wp2_with fail
            go_quiet ((first | (go_at_call 14; exact quiet_sameB (HB1.out _)) | (go_at_call 15; exact quiet_sameB (HS.out _))))
            have HB2 := Lib.hid (Below.next HB.out (Drawn.mk wo nq).below)
            generalize wo.drewN nq = w4 at HB2 ⊢
            clear c1 c2
            go_wp2_with fail
            go_roundw
            case rel => exact ⟨k + 1, hlt, by go_num, HB2.out⟩
            case measure => simp [intOf]; omega
      · obtain rfl : k = n := by omega
        have B4 := Lib.hid (Below.next B3.out HB.out)
        clear HB Y3 Z3
        go_wp2_with fail
        refine (bn_no (m := [120]) HVO.out (by have := HN10.out; simp only [List.length_cons, List.length_nil]; omega) _ (HE.out.kept B4.out)).mono ?_
        rintro e w5 ⟨aP, cP, rfl, hb⟩
        have B5 := Lib.hid (Below.next B4.out hb)
        clear hb
        go_wp2_with fail
        refine (bn_no (m := [1, 0, 192, 127]) HVQ.out (by have := HN10.out; simp only [List.length_cons, List.length_nil]; omega) _ (HE.out.kept B5.out)).mono ?_
        rintro e w6 ⟨aQ, cQ, rfl, hb⟩
        have B6 := Lib.hid (Below.next B5.out hb)
        clear hb
        go_wp2_with fail
        go_ret
        exact ⟨rfl, B6.out⟩

theorem vars_two {H : Type} {enc : TypeId × Value → H} {P : Program} {w : World} {spare : Nat → Bool} {n1 n2 : String} {gs : List (DataW H)} {ps : List MemPlace} (h : DataW.TrodVars enc P w spare [n1, n2] gs ps) : ∃ g1 g2, gs = [g1, g2] := by
  cases gs with
  | nil => simp [DataW.TrodVars] at h
  | cons d ds =>
    obtain ⟨g, t, cs, fuel, p, q, h1, h2, h3, h4, hs, e⟩ := h
    obtain ⟨_, _, _, _, d2, _, hd, _⟩ := trodVars_one hs
    exact ⟨d, d2, by rw [hd]⟩
/-! the door's own heap meets the condition -/
def laid : List (String × DataW Unit) := Rows.fnNumberBytesRow.laid
theorem own : ownKnob Tryd.prog.godebug = none := by kernel_rfl
theorem door_met (os : Os) (args : Array Value) : laidMetH Tryd.prog laid ((World.doorLaid Tryd.prog 400 os).forCall (fun _ _ => 0) ⟨#[], args, []⟩).memory :=
  laidMetH_of_parts3 (fuel := 8) (laidMet_of_run' 8 (by kernel_rfl) (by kernel_rfl)) (by kernel_rfl) (by kernel_rfl)
set_option maxRecDepth 100000 in
theorem lifted (os : Os) (started : os.Started) (H : Type) (enc : TypeId × Value → H) :
    ReturnsInHanded {} Tryd.checked os 4 .any (fun w args => (Rows.fnNumberBytesSpec.pre enc Tryd.prog Tryd.f4 [] false w args ∧ laidMetH Tryd.prog laid w) ∧ sizedMet enc Tryd.prog Tryd.f4 (OpenSpec.ofChange Rows.fnNumberBytesSpec) false w args)
      (Rows.fnNumberBytesSpec.post enc Tryd.prog Tryd.f4 false true false false) := by
  refine returnsInHanded_of_change_and (C := Tryd.checked) (X := fun w _ => laidMetH Tryd.prog laid w) (fun _ _ _ hh h => h.of_heap hh) own started (by kernel_rfl) Tryd.func4
    (ChangeSpec.witness_shaped (enc := enc) (C := Tryd.checked) (os := os) (X := fun w _ => laidMetH Tryd.prog laid w) false (World.doorLaid Tryd.prog 400 os) #[.slice none 0 0, .slice none 0 0] 8 rfl (World.shaped_of_RefB (by kernel_rfl) (by kernel_rfl)) (by kernel_rfl) (by kernel_rfl) (by kernel_rfl) (door_met os _)) ?_
  intro W base args ds gs before hval0 hW hcnd _ hL _
  have hval : ∀ (j : Nat) t v, Tryd.f4.params[j]? = some t → args[j]? = some v → Value.okWide Tryd.prog W .any base t v := hval0
  have hW' := hW
  obtain ⟨p, q, hA0, hV, rfl, hfz, hnd⟩ := hW
  have hA : DataW.TrodAll enc Tryd.prog W 0 (fun _ => true) true Tryd.f4.params.toList args.toList ds p := hA0
  rw [Tryd.params4] at hA hval
  obtain ⟨v0, vs0, d0, ds0, p0, q0, hargs, rfl, rfl, h0, rest0⟩ := trodAll_cons hA
  obtain ⟨v1, vs1, d1, ds1, p1, q1, rfl, rfl, rfl, h1, rest1⟩ := trodAll_cons rest0
  obtain ⟨rfl, rfl, rfl⟩ := trodAll_nil rest1
  obtain rfl : args = #[v0, v1] := by cases args; simp_all
  obtain ⟨g1, g2, rfl⟩ : ∃ g1 g2, gs = [g1, g2] := vars_two hV
  obtain ⟨a0, len0, cap0, rfl⟩ := okWide_slice Tryd.underlying28 (hval 0 28 v0 rfl rfl)
  have k0 := h0
  have lt0 : ∀ x ∈ p0, x.block < W.heap.size := by obtain ⟨m, hm⟩ := k0; exact DataW.trod_lt m _ _ _ hm
  obtain ⟨z0, w0⟩ := isRow_of (k := .u8) Tryd.underlying28 Tryd.underlying5 (by kernel_rfl) h0
  obtain ⟨a1, len1, cap1, rfl⟩ := okWide_slice Tryd.underlying28 (hval 1 28 v1 rfl rfl)
  have k1 := h1
  have lt1 : ∀ x ∈ p1, x.block < W.heap.size := by obtain ⟨m, hm⟩ := k1; exact DataW.trod_lt m _ _ _ hm
  obtain ⟨z1, w1⟩ := isRow_of (k := .u8) Tryd.underlying28 Tryd.underlying5 (by kernel_rfl) h1
  clear hA0 hval0
  refine (walk a0 len0 cap0 z0 a1 len1 cap1 z1 W w0 w1 (errsR_nb hL)).mono fun e W' ⟨he, bel⟩ => ?_
  subst he
  exact ⟨_, rfl, _, _, _, [], _, _, hW', trodAll_mk1 (shut_bool Tryd.underlying4 _), (trodAll_cons_mk (Below.trod laidOut (by kernel_rfl) (of_decide_eq_true (by kernel_rfl)) k0 bel lt0) (trodAll_cons_mk (Below.trod laidOut (by kernel_rfl) (of_decide_eq_true (by kernel_rfl)) k1 bel lt1) trodAll_mk0)), Below.trodVars laidOut bel (by kernel_rfl) hV, bel.frame _, fun h => by cases h⟩

theorem over : Rows.fnNumberBytesRow.holds Tryd.pinned (OpenSpec.ofChange Rows.fnNumberBytesSpec) :=
  OpenClaim.holds_of_wide 4 Tryd.f4 rfl rfl rfl rfl rfl rfl rfl ⟨rfl, rfl, rfl, rfl, rfl⟩ rfl rfl rfl rfl rfl (by kernel_rfl) Tryd.func4 (by kernel_rfl)
    (of_decide_eq_true (by kernel_rfl)) (by unfold Func.isWrapper; first | (rw [if_pos (by decide +kernel)]; kernel_rfl) | (rw [if_neg (by decide +kernel)]; exact ⟨rfl, rfl⟩))
    (fun os started H enc _ => lifted os started H enc)

/-- the statement: the row, tied to the program's text -/
theorem proved : Rows.FnNumberBytesCardSaid :=
  Claim7.holds_tied_plain_at .later [] Rows.fnNumberBytesCard.laidKinds true Rows.fnNumberBytesCard.stood.harness Rows.fnNumberBytesCard.stood.looks
    over (fun _ h => by cases h) (by kernel_rfl) (fun _ h => by cases h) fnNumberBytes_row_tie rfl ⟨rfl, rfl⟩ (by kernel_rfl) rfl
    (fun f fn hf hfn => by
      obtain rfl : f = 4 := Option.some.inj ((show Tryd.prog.funcNamed Rows.fnNumberBytesRow.func = some 4 by kernel_rfl).symm.trans hf) |>.symm
      obtain rfl : fn = Tryd.f4 := (Option.some.inj (Tryd.func4.symm.trans hfn)).symm
      exact ⟨by kernel_rfl, fun j t ht => by
        rw [Tryd.params4] at ht
        rcases j with _ | j
        · obtain rfl : t = 28 := by simpa using ht.symm
          exact (show Tryd.prog.wantsStandIn 28 = false by kernel_rfl)
        · rcases j with _ | j
          · obtain rfl : t = 28 := by simpa using ht.symm
            exact (show Tryd.prog.wantsStandIn 28 = false by kernel_rfl)
          · simp at ht⟩)
    (by kernel_rfl)
end Go.Proofs.YtpfbhckmpkiijaaDoor.fnNumberBytes
