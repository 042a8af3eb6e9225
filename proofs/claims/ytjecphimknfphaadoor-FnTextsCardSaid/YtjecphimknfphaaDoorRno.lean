/-
  The program's readNumber. Conditions: the text is short; the errors and the table are as their initialisers lay them.
-/
import Derived.Test.YtjecphimknfphaaDoorRnp
namespace Go.Proofs.YtjecphimknfphaaDoor
open Go.Shelf Go.RowKit Go.Deep Go.WideShapes Go.ChangeShapes
set_option linter.unusedVariables false
set_option linter.unusedSimpArgs false

set_option maxHeartbeats 4000000 in
set_option maxRecDepth 20000 in
theorem c_ParseUint (t : ByteArray) (ht : t.size ≤ 1048576) (w : World) (he : ErrsOk w) : Calls Tryd.prog 34 #[.string t, .int .i64 16, .int .i64 32] w fun e w' =>
    ∃ v err, e = .returned (.tuple #[.int .u64 (v : Nat), err]) ∧ Below w.heap.size w w' ∧ ((err = .nilIface ∧ v < 4294967296 ∧ (allH t.data.toList = true → v = hval t.data.toList)) ∨ ((∃ u p, err = .iface u p) ∧ shp8 t.data.toList = false)) := by
  have H := Lib.hid (c_ParseUint1 t ht w)
  have HE := Lib.hid he
  have HT := Lib.hid (show t.size ≤ 281474976710656 by omega)
  clear he ht
  go_enter Tryd.func34, Tryd.ntmps34
  go_wp2_with fail
  refine H.out.mono ?_
  rintro e w2 ⟨v, err, rfl, hb, hc⟩
  have B2 := Lib.hid hb
  have E2 := Lib.hid (HE.out.kept hb)
  clear hb
  rcases hc with ⟨rfl, h1, h2⟩ | ⟨rfl | rfl, hs⟩
  · have H1 := Lib.hid h1
    have H2 := Lib.hid h2
    clear h1 h2
    go_wp2_with fail
    go_ret2
    exact ⟨v, _, rfl, B2.out, .inl ⟨rfl, H1.out, H2.out⟩⟩
  · have HS := Lib.hid hs
    clear hs
    obtain ⟨t1, v1, hc1⟩ := E2.out.1
    have HC := Lib.hid (Any.strconv_toError_syntax (P := Tryd.prog) { lays174 with } ⟨#[80, 97, 114, 115, 101, 85, 105, 110, 116]⟩ t 16 32 _ w2 HT.out hc1 (.inr ⟨_, _, rfl⟩))
    clear hc1
    go_wp2_with fail
    refine HC.out.mono ?_
    rintro e w3 ⟨N, rfl, _, _, hb⟩
    have B3 := Lib.hid (Below.next B2.out hb)
    clear hb
    go_wp2_with fail
    go_ret2
    exact ⟨v, _, rfl, B3.out, .inr ⟨⟨_, _, rfl⟩, HS.out⟩⟩
  · have HS := Lib.hid hs
    clear hs
    obtain ⟨t1, v1, hc1⟩ := E2.out.2
    have HC := Lib.hid (Any.strconv_toError_range (P := Tryd.prog) { lays174 with } ⟨#[80, 97, 114, 115, 101, 85, 105, 110, 116]⟩ t 16 32 _ w2 HT.out hc1 (.inr ⟨_, _, rfl⟩))
    clear hc1
    go_wp2_with fail
    refine HC.out.mono ?_
    rintro e w3 ⟨N, rfl, _, _, hb⟩
    have B3 := Lib.hid (Below.next B2.out hb)
    clear hb
    go_wp2_with fail
    go_ret2
    exact ⟨v, _, rfl, B3.out, .inr ⟨⟨_, _, rfl⟩, HS.out⟩⟩
def vRNum (l : List UInt8) : Nat × Bool := if okRN l = true then (hval l, true) else (0, false)
theorem vRNum_yes {l : List UInt8} (h : okRN l = true) : vRNum l = (hval l, true) := if_pos h
theorem vRNum_no {l : List UInt8} (h : okRN l = false) : vRNum l = (0, false) := by unfold vRNum; rw [h]; rfl
theorem c_wnumber (n : Nat) (h : n < 4294967296) (w : World) : Calls Tryd.prog 35 #[.int .u32 n] w fun e w' => e = .returned (.float .f32 n) ∧ w = w' := by
  have hn : (n : Int) ≤ 4294967295 := by omega
  have hn0 : (0 : Int) ≤ (n : Int) := by omega
  clear h
  go_enter Tryd.func35, Tryd.ntmps35
  go_wp2
  go_ret
  exact ⟨rfl, rfl⟩
set_option maxHeartbeats 4000000 in
set_option maxRecDepth 20000 in
theorem c_readNumber (x : ByteArray) (hx : x.size ≤ 1048576) (w : World) (he : ErrsOk w) (hd : DbOk w) : Calls Tryd.prog 18 #[.string x] w fun e w' => e = .returned (.tuple #[.float .f32 (vRNum x.data.toList).1, .bool (vRNum x.data.toList).2]) ∧ Below w.heap.size w w' := by
  have HP := Lib.hid (c_ParseUint x hx w he)
  have HDB := Lib.hid hd
  clear hx he hd
  go_enter Tryd.func18, Tryd.ntmps18
  go_wp2_with fail
  refine HP.out.mono ?_
  rintro e w2 ⟨v, err, rfl, hb, hcase⟩
  have B2 := Lib.hid hb
  have D2 := Lib.hid (HDB.out.kept hb)
  clear hb
  rcases hcase with ⟨rfl, h1, h2⟩ | ⟨⟨t, p, rfl⟩, hno⟩
  case inr =>
    have HV := Lib.hid (vRNum_no (okRN_shape hno))
    clear hno
    go_wp2_with fail
    go_ret2
    exact ⟨by rw [HV.out]; rfl, B2.out⟩
  case inl =>
    have H1 := Lib.hid h1
    have H2 := Lib.hid h2
    have hv' : (v : Int) ≤ 4294967295 := by omega
    have HNT := Lib.hid (c_numberText v h1 w2 D2.out)
    have HNU := Lib.hid (fun W => c_wnumber v h1 W)
    clear h1 h2
    by_cases hq : numT v = x.data.toList
    · have hbe : ((numT v) == x.toList) = true := by rw [ByteArray.toList_eq, hq]; exact beq_self_eq_true _
      have hok := numT_no H1.out hq
      have hvv : v = hval x.data.toList := H2.out (shp8_of (okRN_of hok).1).2
      have HV := Lib.hid (vRNum_yes hok)
      have HVV := Lib.hid hvv
      clear hok hvv hq
      go_wp2_with fail
      refine (HNU.out _).mono ?_
      rintro e w3 ⟨rfl, rfl⟩
      go_wp2_with fail
      refine HNT.out.mono ?_
      rintro e w3 ⟨rfl, hb⟩
      have B3 := Lib.hid (Below.next B2.out hb)
      clear hb
      go_wp2_with fail
      go_ret2
      exact ⟨by rw [HV.out, HVV.out]; rfl, B3.out⟩
    · have hbe : ((numT v) == x.toList) = false := by rw [ByteArray.toList_eq, beq_eq_false_iff_ne]; exact hq
      have HV := Lib.hid (vRNum_no (l := x.data.toList) (by
        cases ho : okRN x.data.toList with
        | false => rfl
        | true =>
          exfalso
          apply hq
          rw [H2.out (shp8_of (okRN_of ho).1).2]
          exact numT_yes ho))
      clear hq
      go_wp2_with fail
      refine (HNU.out _).mono ?_
      rintro e w3 ⟨rfl, rfl⟩
      go_wp2_with fail
      refine HNT.out.mono ?_
      rintro e w3 ⟨rfl, hb⟩
      have B3 := Lib.hid (Below.next B2.out hb)
      clear hb
      go_wp2_with fail
      go_ret2
      exact ⟨by rw [HV.out]; rfl, B3.out⟩
end Go.Proofs.YtjecphimknfphaaDoor
