/-
  A builder of texts that the call makes: its writers, its text and its length. Conditions: the new length is at most 2 ^ 47 bytes.
-/
import Derived.Test.YtdngbfpfhkkmpaaDoorShl
import Derived.Test.YtdngbfpfhkkmpaaDoorWb
import Derived.Lib.Builder
import Derived.Lib.UnsafeStr
namespace Go.Proofs.YtdngbfpfhkkmpaaDoor
open Go.RowKit Go.Deep Go.WideShapes Go.ChangeShapes
set_option linter.unusedVariables false

theorem b_extra : Builder.Extra Tryd.prog lays169_ren := {
  sizeBuilder := by kernel_rfl
  liesBuilder := by kernel_rfl
  t5 := Tryd.underlying5
  a5 := Tryd.isAgg5
  z5 := Tryd.sizeOf5
  v5 := Tryd.zeroValue5
  infoByte := by kernel_rfl
  cellsByte := by kernel_rfl
  sizeByte := by kernel_rfl
  neB5 := by decide }
/-- a builder of the call's own that holds these bytes -/
def IsB (w : World) (B b : Nat) (l : List UInt8) : Prop := Lib.IsBuilder 70 5 B b (Lib.byteCells l) w
theorem builder_kept {w w' : World} {B b : Nat} {p : Value} {bs : List Value} (h : Lib.BuilderAt 70 5 B b p bs w) (hb : Below w.heap.size w w') : Lib.BuilderAt 70 5 B b p bs w' := by
  have hlt := h.lt
  obtain ⟨hB, v, hbk, hown, hne⟩ := h
  refine ⟨hB, v, (hb.block b hlt).trans hbk, hown.kept (row := none) ⟨hb.os, hb.tape, hb.output, hb.size, fun j hj _ => hb.block j hj⟩ ?_, hne⟩
  cases hv : v.ownBlock <;> simp
theorem IsB.kept {w w' : World} {B b : Nat} {l : List UInt8} (h : IsB w B b l) (hb : Below w.heap.size w w') : IsB w' B b l := by
  rcases h with h | h
  · exact .inl (builder_kept h hb)
  · exact .inr (builder_kept h hb)
theorem isB_new (w : World) : IsB (w.alloc (.cells #[.pointer none, .slice none 0 0] 70)) w.heap.size w.heap.size [] := Lib.fresh_isBuilder _ _ w
theorem IsB.lt {w : World} {B b : Nat} {l : List UInt8} (h : IsB w B b l) : B ≤ b ∧ b < w.heap.size := by
  rcases h with h | h
  · exact ⟨h.1, h.lt⟩
  · exact ⟨h.1, h.lt⟩
set_option maxHeartbeats 1000000 in
set_option maxRecDepth 100000 in
theorem c_bUsed (b : Nat) (w : World) (h0 : w.cell? ⟨b, 0, none⟩ = some (.pointer (some ⟨b, 0, none⟩))) :
    Calls Tryd.prog 39 #[.pointer (some ⟨b, 0, none⟩)] w fun e w' => e = .returned (.tuple #[]) ∧ w = w' := by
  obtain ⟨j, hj, _⟩ := Option.map_eq_some_iff.1 b_extra.sizeBuilder
  have HJ := Lib.hid hj
  clear hj
  go_enter Tryd.func39, Tryd.ntmps39
  go_wp2_with fail
  rw [Lib.run_neq_ptr_same w _ Tryd.underlying67 HJ.out]
  go_wp2_with fail
  go_end0
  exact ⟨rfl, rfl⟩
set_option maxHeartbeats 1000000 in
set_option maxRecDepth 100000 in
theorem c_bFresh (b : Nat) (w : World) (h0 : w.cell? ⟨b, 0, none⟩ = some (.pointer none)) (hsh : w.shape? b = some (70, 2)) (hfz : w.frozen? ⟨b, 0, none⟩ = false) :
    Calls Tryd.prog 39 #[.pointer (some ⟨b, 0, none⟩)] w fun e w' => e = .returned (.tuple #[]) ∧ w' = w.setCell ⟨b, 0, none⟩ (.pointer (some ⟨b, 0, none⟩)) := by
  obtain ⟨j, hj, hjs⟩ := Option.map_eq_some_iff.1 b_extra.sizeBuilder
  have HJ := Lib.hid hj
  have HJS := Lib.hid hjs
  clear hj hjs
  go_enter Tryd.func39, Tryd.ntmps39
  go_wp2_with fail
  rw [Lib.run_to_unsafe w ⟨b, 0, none⟩ Tryd.underlying67 Tryd.underlying96 HJ.out (by rw [HJS.out]; decide) hsh (Nat.zero_lt_succ 1)]
  simp only [Result.andThen]
  rw [Oper.upon_value]
  go_wp2_with fail
  rw [run_callFunc_extern Tryd.func48 (by kernel_rfl) (by kernel_rfl) (by kernel_rfl) (e := Extern.AbiNoEscape.same) (by kernel_rfl)]
  rw [Lib.run_noEscape]
  simp only [Result.andThen]
  rw [Oper.upon_value]
  go_wp2_with fail
  rw [Lib.run_from_unsafe w ⟨b, 0, none⟩ Tryd.underlying96 Tryd.underlying67 HJ.out hsh b_extra.liesBuilder]
  simp only [Result.andThen]
  rw [Oper.upon_value]
  go_wp2_with fail
  go_end0
  exact ⟨rfl, rfl⟩
theorem c_bCheck (B b : Nat) (l : List UInt8) (w : World) (h : IsB w B b l) :
    Calls Tryd.prog 39 #[.pointer (some ⟨b, 0, none⟩)] w fun e w' => e = .returned (.tuple #[]) ∧ Lib.BuilderAt 70 5 B b (.pointer (some ⟨b, 0, none⟩)) (Lib.byteCells l) w' ∧ Below B w w' := by
  rcases h with h | h
  · refine (c_bFresh b w h.cell0 h.shape h.frozen0).mono ?_
    rintro e w' ⟨rfl, rfl⟩
    exact ⟨rfl, h.used _, (Below.refl B w).setCell (p := ⟨b, 0, none⟩) h.1 _⟩
  · refine (c_bUsed b w h.cell0).mono ?_
    rintro e w' ⟨rfl, rfl⟩
    exact ⟨rfl, h, Below.refl B _⟩
/-- what a store of the grown buffer leaves -/
theorem b_stored {B b : Nat} {w w1 w2 : World} {v v' : Value} {bs cs : List Value} (hB : B ≤ b) (hbk : w1.heap[b]? = some (.cells #[.pointer (some ⟨b, 0, none⟩), v] 70 (0, 0))) (hown : w1.ownsRow B 5 1 v bs.length bs) (hne : v.ownBlock ≠ some b)
    (hgrow : w1.grownBy w2 v.ownBlock) (hown' : w2.ownsRow B 5 1 v' cs.length cs) (hb1 : Below B w w1) (hBw : B ≤ w.heap.size) :
    w2.heap[b]? = some (.cells #[.pointer (some ⟨b, 0, none⟩), v] 70 (0, 0)) ∧ Lib.BuilderAt 70 5 B b (.pointer (some ⟨b, 0, none⟩)) cs (w2.setCell ⟨b, 1, none⟩ v') ∧ Below B w (w2.setCell ⟨b, 1, none⟩ v') := by
  have hlt : b < w1.heap.size := by
    rcases Nat.lt_or_ge b w1.heap.size with h' | h'
    · exact h'
    · simp [Array.getElem?_eq_none h'] at hbk
  have hb2 := (hgrow.block b hlt (fun e => hne e.symm)).trans hbk
  exact ⟨hb2, Lib.BuilderAt.put hB hb2 hown' b_extra.neB5, (hb1.grown hgrow (by have := hb1.size; omega) (fun k hk => (hown.lt k hk).1)).setCell (p := ⟨b, 1, none⟩) hB _⟩
set_option maxHeartbeats 2000000 in
set_option maxRecDepth 100000 in
theorem c_bString (B b : Nat) (l m : List UInt8) (w : World) (h : IsB w B b l) (hlen : l.length + m.length ≤ 140737488355328) (hBw : B ≤ w.heap.size) :
    Calls Tryd.prog 28 #[.pointer (some ⟨b, 0, none⟩), .string ⟨m.toArray⟩] w fun e w' => e = .returned (.tuple #[.int .i64 m.length, .nilIface]) ∧ IsB w' B b (l ++ m) ∧ Below B w w' := by
  obtain ⟨i0, hi, hz0, hz1, hz2⟩ := info_parts info_u8
  have JI := Lib.hid hi
  have HZ0 := Lib.hid hz0
  have HZ1 := Lib.hid hz1
  have HZ2 := Lib.hid hz2
  have HLEN := Lib.hid hlen
  have HBW := Lib.hid hBw
  clear hi hz0 hz1 hz2 hlen hBw
  go_enter Tryd.func28, Tryd.ntmps28
  go_wp2_with (go_at_call 39; refine (c_bCheck B b l _ h).mono ?_; rintro e w1 ⟨rfl, h1, hb1⟩; refine Hid.out ?_)
  refine Lib.hid ?_
  obtain ⟨hB, v, hbk, hown, hne⟩ := h1
  have HBK := Lib.hid hbk
  have HOWN := Lib.hid hown
  have HNE := Lib.hid hne
  have HB1 := Lib.hid hb1
  have HB := Lib.hid hB
  have c0 : w1.cell? ⟨b, 0, none⟩ = some (.pointer (some ⟨b, 0, none⟩)) := by rw [Lib.cell_of_heap hbk]; rfl
  have c1 : w1.cell? ⟨b, 1, none⟩ = some v := by rw [Lib.cell_of_heap hbk]; rfl
  have hm : (⟨m.toArray⟩ : ByteArray).size = m.length := by simp [ByteArray.size]
  have HM := Lib.hid hm
  clear hbk hown hne hb1 hB hm
  go_wp2_with (at_builtin; refine Lib.wpList_append_own_string _ rfl (.tmp 12) (.tmp 13) 68 9 rfl B 5 i0 Tryd.underlying68 Tryd.underlying9 JI.out HZ0.out HZ1.out HZ2.out _ _ (Lib.byteCells l) rfl HOWN.out ⟨m.toArray⟩ rfl ?c3 ?c4 ?c5 ?_; rotate_left 3; intro v' w2 hown' hgrow hat; refine Hid.out ?_)
  case c3 => have := HLEN.out; rw [Lib.byteCells_length, HM.out]; unfold maxLen; omega
  case c4 => have := HLEN.out; rw [Lib.byteCells_length, HM.out]; omega
  case c5 => have := HB1.out.size; have := HBW.out; omega
  refine Lib.hid ?_
  have hown2 : w2.ownsRow B 5 1 v' (Lib.byteCells (l ++ m)).length (Lib.byteCells (l ++ m)) := by
    have e : Lib.byteCells (l ++ m) = Lib.byteCells l ++ Lib.strCells ⟨m.toArray⟩ := Lib.byteCells_append l m
    have e2 : (Lib.byteCells (l ++ m)).length = (Lib.byteCells l).length + (⟨m.toArray⟩ : ByteArray).size := by rw [Lib.byteCells_length, Lib.byteCells_length, HM.out, List.length_append]
    rw [e2, e]
    exact hown'
  obtain ⟨hb2, t1, t2⟩ := b_stored HB.out HBK.out HOWN.out HNE.out hgrow hown2 HB1.out HBW.out
  have T := Lib.hid (show IsB _ B b (l ++ m) ∧ _ from ⟨.inr t1, t2⟩)
  have d0 : w2.cell? ⟨b, 0, none⟩ = some (.pointer (some ⟨b, 0, none⟩)) := by rw [Lib.cell_of_heap hb2]; rfl
  have d1 : w2.cell? ⟨b, 1, none⟩ = some v := by rw [Lib.cell_of_heap hb2]; rfl
  have f1 : w2.frozen? ⟨b, 1, none⟩ = false := Lib.frozen_of_heap hb2 1
  obtain ⟨ao, n', cap, rfl⟩ : ∃ ao n' cap, v' = .slice ao n' cap := by
    rcases hown'.2 with ⟨hv, _⟩ | ⟨g, cap, cur, hv, _⟩
    · exact ⟨_, _, _, hv⟩
    · exact ⟨_, _, _, hv⟩
  clear hown' hgrow hat hown2 hb2 t1 t2
  go_wp2_with fail
  go_ret2
  exact ⟨rfl, T.out.1, T.out.2⟩
/-- the text of a builder -/
theorem c_bText (B b : Nat) (l : List UInt8) (w : World) (h : IsB w B b l) (hBw : B ≤ w.heap.size) : Calls Tryd.prog 29 #[.pointer (some ⟨b, 0, none⟩)] w fun e w' => e = .returned (.string ⟨l.toArray⟩) ∧ Below B w w' :=
  Any.Builder_String_any lays169 b_extra B b l w h hBw
end Go.Proofs.YtdngbfpfhkkmpaaDoor
