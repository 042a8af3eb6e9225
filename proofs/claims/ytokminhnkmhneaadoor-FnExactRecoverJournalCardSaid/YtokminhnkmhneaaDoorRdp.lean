/-
  ReadDecimal: the program's. Conditions: the text is short, the table and the two errors are as their initialisers lay them.
-/
import Derived.Test.YtokminhnkmhneaaDoorRdn
import Derived.Test.YtokminhnkmhneaaDoorShp
import Derived.Test.YtokminhnkmhneaaDoorLdt
import Derived.Lib.AtoiErrMem
namespace Go.Proofs.YtokminhnkmhneaaDoor
open Go.RowKit Go.Deep Go.WideShapes Go.ChangeShapes
set_option linter.unusedVariables false
set_option linter.unusedSimpArgs false

/-- the two errors of numbers' texts are values of an interface -/
def ErrsOk (w : World) : Prop := (∃ t v, w.cell? ⟨5, 0, none⟩ = some (.iface t v)) ∧ (∃ t v, w.cell? ⟨6, 0, none⟩ = some (.iface t v))
theorem ErrsOk.kept {w w' : World} (h : ErrsOk w) (hb : Below w.heap.size w w') : ErrsOk w' := by
  obtain ⟨⟨t, v, h1⟩, ⟨t', v', h2⟩⟩ := h
  exact ⟨⟨t, v, (hb.cell (p := ⟨_, 0, none⟩) (cell_block h1)).trans h1⟩, ⟨t', v', (hb.cell (p := ⟨_, 0, none⟩) (cell_block h2)).trans h2⟩⟩
def nameOf : DataW Unit → String
  | .iface n _ => n
  | _ => default
def dataOf : DataW Unit → DataW Unit
  | .iface _ d => d
  | d => d
theorem err_at {l : List (String × DataW Unit)} {W : World} {n : String} {g : Nat} {d d' : DataW Unit} {nm : String} (h : laidMetH Tryd.prog l W) (hp : (l.all fun x => x.2.handleName?.isNone) = true) (hm : (n, d) ∈ l) (hd : d = .iface nm d')
    (hg : Tryd.prog.globalNamed n = some g) (ht : (Tryd.prog.globals[g]?).map (·.type) = some 67) : ∃ t v, W.cell? ⟨g, 0, none⟩ = some (.iface t v) := by
  rw [Go.MakeChecks.laidMetH_plain _ _ _ hp] at h
  obtain ⟨g', t, cs, fuel, p, h1, h2, h3, h4⟩ := Lib.laidMet.reads h hm
  obtain rfl := Option.some.inj (hg.symm.trans h1)
  obtain rfl := Option.some.inj (ht.symm.trans h2)
  subst hd
  obtain ⟨_, u, v, hc, _, _⟩ := iface_of_trod Tryd.underlying67 h4
  refine ⟨u, v, ?_⟩
  have hcell := World.var?_cell hg h3 0
  rw [hcell]
  have : cs = #[.iface u v] := Array.toList_inj.1 hc
  rw [this]
  rfl
theorem errs_ok {W : World} (h : laidMetH Tryd.prog Rows.fnExactReadDecimalRow.laid W) : ErrsOk W :=
  ⟨err_at h rfl (List.mem_of_getElem? (i := 4) rfl) rfl (by kernel_rfl) (by kernel_rfl), err_at h rfl (List.mem_of_getElem? (i := 3) rfl) rfl (by kernel_rfl) (by kernel_rfl)⟩
theorem c_ParseInt (x : ByteArray) (hx : x.size ≤ 1048576) (w : World) (he : ErrsOk w) : Calls Tryd.prog 55 #[.string x, .int .i64 10, .int .i64 64] w fun e w' =>
    ∃ v err, e = .returned (.tuple #[.int .i64 v, err]) ∧ Below w.heap.size w w' ∧ ((err = .nilIface ∧ Lib.parseIntB 64 x.data.toList = .ok v) ∨ ((∃ t p, err = .iface t p) ∧ ∀ u, Lib.parseIntB 64 x.data.toList ≠ .ok u)) := by
  obtain ⟨⟨t, p, h1⟩, ⟨t', p', h2⟩⟩ := he
  cases hp : Lib.parseIntB 64 x.data.toList with
  | ok v =>
    refine (Any.strconv_ParseInt_10_at64_ok lays174 x (by omega) v hp w).mono ?_
    rintro e w' ⟨rfl, hw⟩
    refine ⟨v, .nilIface, rfl, ?_, .inl ⟨rfl, rfl⟩⟩
    rcases hw with rfl | ⟨t, rfl⟩
    · exact Below.refl _ _
    · exact Lib.bytesWorld_below _ _ _
  | «syntax» =>
    refine (Any.strconv_ParseInt_10_at64_syntax lays174 x (by omega) hp _ w h1 (.inr ⟨t, p, rfl⟩)).mono ?_
    rintro e w' ⟨N, rfl, _, _, hb⟩
    exact ⟨_, _, rfl, hb, .inr ⟨⟨_, _, rfl⟩, fun u h => by cases h⟩⟩
  | range =>
    refine (Any.strconv_ParseInt_10_at64_range lays174 x (by omega) hp _ w h2 (.inr ⟨t', p', rfl⟩)).mono ?_
    rintro e w' ⟨N, rfl, _, _, hb⟩
    exact ⟨_, _, rfl, hb, .inr ⟨⟨_, _, rfl⟩, fun u h => by cases h⟩⟩
theorem t_sReadDecimal (x : ByteArray) (hx : x.size ≤ maxLen) (w : World) : Calls Tryd.prog 16 #[.string x] w fun e w' => e = .returned (.tuple #[.int .i64 (vRD x.data.toList).1, .bool (vRD x.data.toList).2]) ∧ Below w.heap.size w w' := by
  have H := Lib.hid (c_l01Value x hx w)
  clear hx
  go_enter Tryd.func16, Tryd.ntmps16
  go_wp2_with fail
  refine H.out.mono ?_
  rintro e w2 ⟨rfl, hb⟩
  have HB := Lib.hid hb
  clear hb
  go_wp2_with fail
  go_ret2
  exact ⟨rfl, HB.out⟩
set_option maxRecDepth 20000 in
set_option maxHeartbeats 2000000 in
theorem t_iReadDecimal (x : ByteArray) (hx : x.size ≤ 1048576) (w : World) (ht : TabOk w) (he : ErrsOk w) : Calls Tryd.prog 17 #[.string x] w fun e w' => e = .returned (.tuple #[.int .i64 (vRD x.data.toList).1, .bool (vRD x.data.toList).2]) ∧ Below w.heap.size w w' := by
  have HP := Lib.hid (c_ParseInt x hx w he)
  have HT := Lib.hid ht
  clear hx ht he
  go_enter Tryd.func17, Tryd.ntmps17
  go_wp2_with fail
  refine HP.out.mono ?_
  rintro e w2 ⟨v, err, rfl, hb, hcase⟩
  have B2 := Lib.hid hb
  have T2 := Lib.hid (HT.out.kept hb)
  clear hb
  rcases hcase with ⟨rfl, hp⟩ | ⟨⟨t, p, rfl⟩, hno⟩
  case inr =>
    have HV := Lib.hid (rd_no (l := x.data.toList) (fun v h _ _ => hno v h))
    clear hno
    go_wp2_with fail
    go_ret2
    exact ⟨by rw [HV.out]; rfl, B2.out⟩
  case inl =>
    have hbd : -9223372036854775808 ≤ v ∧ v ≤ 9223372036854775807 := by
      rw [Lib.parseIntB_64] at hp
      exact Lib.atoiAll_bounds hp
    have HP2 := Lib.hid hp
    have HIN := Lib.hid (c_isListable v w2)
    have HDE := Lib.hid (c_iDecimal v hbd.1 hbd.2 w2 T2.out)
    clear hp hbd
    cases hL : listable v with
    | false =>
      rw [hL] at HIN
      have HV := Lib.hid (rd_no (l := x.data.toList) (fun u h1 h2 _ => by
        have e : u = v := by have := h1.symm.trans HP2.out; injection this
        rw [e, hL] at h2
        cases h2))
      clear hL
      go_wp2_with fail
      refine HIN.out.mono ?_
      rintro e w3 ⟨rfl, rfl⟩
      go_wp2_with fail
      go_ret2
      exact ⟨by rw [HV.out]; rfl, B2.out⟩
    | true =>
      rw [hL] at HIN
      by_cases hq : Lib.itoa v = x.data.toList
      · have hbe : (Lib.itoa v == x.toList) = true := by rw [ByteArray.toList_eq, hq]; exact beq_self_eq_true _
        have HV := Lib.hid (rd_yes hL hq)
        clear hL hq
        go_wp2_with fail
        refine HIN.out.mono ?_
        rintro e w3 ⟨rfl, rfl⟩
        go_wp2_with fail
        refine HDE.out.mono ?_
        rintro e w3 ⟨rfl, hb⟩
        have B3 := Lib.hid (Below.next B2.out hb)
        clear hb
        go_wp2_with fail
        go_ret2
        exact ⟨by rw [HV.out]; rfl, B3.out⟩
      · have hbe : (Lib.itoa v == x.toList) = false := by rw [ByteArray.toList_eq, beq_eq_false_iff_ne]; exact hq
        have HV := Lib.hid (rd_no (l := x.data.toList) (fun u h1 h2 h3 => by
          have e : u = v := by have := h1.symm.trans HP2.out; injection this
          rw [e] at h3
          exact hq h3))
        clear hL hq
        go_wp2_with fail
        refine HIN.out.mono ?_
        rintro e w3 ⟨rfl, rfl⟩
        go_wp2_with fail
        refine HDE.out.mono ?_
        rintro e w3 ⟨rfl, hb⟩
        have B3 := Lib.hid (Below.next B2.out hb)
        clear hb
        go_wp2_with fail
        go_ret2
        exact ⟨by rw [HV.out]; rfl, B3.out⟩
end Go.Proofs.YtokminhnkmhneaaDoor
