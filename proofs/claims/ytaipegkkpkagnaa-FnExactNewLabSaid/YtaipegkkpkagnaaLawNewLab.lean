/-
  NewLab answers as its model, in memory of its own. Conditions: none.
-/
import Derived.Test.YtaipegkkpkagnaaCls
import Derived.Test.YtaipegkkpkagnaaNld
import Derived.ChangeOld
import Derived.Below
namespace Go.Proofs.Ytaipegkkpkagnaa.fnExactNewLab
open Go.ChangeShapes Go.WideShapes Go.ChangeAt Go.RowKit
open Go.ChangeMaps (open_string shut_string)
set_option linter.unusedVariables false

set_option maxRecDepth 100000 in
set_option maxHeartbeats 4000000 in
theorem walk  (w : World)  :
    Calls Try.prog 4 #[] w fun e w' => e = .returned (.bool true) ∧ Below w.heap.size w w' := by
  go_enter Try.func4, Try.ntmps4
  go_wp2_with fail
  refine (t_sNewLab w).mono ?_
  rintro e w1 ⟨y0, rfl, v, ho, nd, hb⟩
  have V0 := Lib.hid v
  have ND0 := Lib.hid nd
  have A1 := Lib.hid (labL_at v ho)
  have B1 := Lib.hid hb
  clear v ho nd hb
  unfold LabA.cells
  go_upto_region 2 with fail
  have ba := (Below.refl w1.heap.size w1).alloc (Nat.le_refl _) (.cells #[.int .i64 y0.k, .float .f32 y0.r, .float .f32 y0.b1, .float .f32 y0.b2, .float .f32 y0.ep, .int .i64 y0.er, .int .i64 y0.ec, .slice y0.ea y0.ex.length y0.eca, .int .i64 y0.er2, .int .i64 y0.ec2, .slice y0.eb y0.ey.length y0.ecb, .slice y0.q.g y0.q.ls.length y0.q.c, .slice y0.q.h y0.q.ss.length y0.q.d, .int .i64 y0.q.st, .int .i64 y0.q.sd, .float .f32 y0.q.sc] 50)
  have K0 := Lib.hid (Blk.new w1 50 #[.int .i64 y0.k, .float .f32 y0.r, .float .f32 y0.b1, .float .f32 y0.b2, .float .f32 y0.ep, .int .i64 y0.er, .int .i64 y0.ec, .slice y0.ea y0.ex.length y0.eca, .int .i64 y0.er2, .int .i64 y0.ec2, .slice y0.eb y0.ey.length y0.ecb, .slice y0.q.g y0.q.ls.length y0.q.c, .slice y0.q.h y0.q.ss.length y0.q.d, .int .i64 y0.q.st, .int .i64 y0.q.sd, .float .f32 y0.q.sc])
  have A2 := Lib.hid (A1.out.kept ba)
  have B2 := Lib.hid (Below.next B1.out ba)
  clear A1 B1
  clear ba
  generalize w1.alloc (.cells #[.int .i64 y0.k, .float .f32 y0.r, .float .f32 y0.b1, .float .f32 y0.b2, .float .f32 y0.ep, .int .i64 y0.er, .int .i64 y0.ec, .slice y0.ea y0.ex.length y0.eca, .int .i64 y0.er2, .int .i64 y0.ec2, .slice y0.eb y0.ey.length y0.ecb, .slice y0.q.g y0.q.ls.length y0.q.c, .slice y0.q.h y0.q.ss.length y0.q.d, .int .i64 y0.q.st, .int .i64 y0.q.sd, .float .f32 y0.q.sc] 50) = w2 at * 
  obtain ⟨C0, hC⟩ : ∃ C, (#[.int .i64 y0.k, .float .f32 y0.r, .float .f32 y0.b1, .float .f32 y0.b2, .float .f32 y0.ep, .int .i64 y0.er, .int .i64 y0.ec, .slice y0.ea y0.ex.length y0.eca, .int .i64 y0.er2, .int .i64 y0.ec2, .slice y0.eb y0.ey.length y0.ecb, .slice y0.q.g y0.q.ls.length y0.q.c, .slice y0.q.h y0.q.ss.length y0.q.d, .int .i64 y0.q.st, .int .i64 y0.q.sd, .float .f32 y0.q.sc] : Array Value) = C := ⟨_, rfl⟩
  have HC0 := Lib.hid (show y0.cells = C0 from hC)
  have HZ0 := Lib.hid (show C0.size = 16 by rw [← hC]; rfl)
  rw [hC] at K0 ⊢
  clear hC
  have S2 := Lib.hid (show w1.heap.size < w2.heap.size from K0.out.lt)
  go_wp2_with fail
  refine (t_iNewLab w2).mono ?_
  rintro e w3 ⟨y1, rfl, v, ho, nd, hb⟩
  have V1 := Lib.hid v
  have ND1 := Lib.hid nd
  have O3 := Lib.hid ho
  have K03 := Lib.hid (K0.out.below hb)
  have F3 := Lib.hid hb
  clear v ho nd hb K0
  unfold LabA.cells
  go_upto_region 3 with fail
  have ba := (Below.refl w3.heap.size w3).alloc (Nat.le_refl _) (.cells #[.int .i64 y1.k, .float .f32 y1.r, .float .f32 y1.b1, .float .f32 y1.b2, .float .f32 y1.ep, .int .i64 y1.er, .int .i64 y1.ec, .slice y1.ea y1.ex.length y1.eca, .int .i64 y1.er2, .int .i64 y1.ec2, .slice y1.eb y1.ey.length y1.ecb, .slice y1.q.g y1.q.ls.length y1.q.c, .slice y1.q.h y1.q.ss.length y1.q.d, .int .i64 y1.q.st, .int .i64 y1.q.sd, .float .f32 y1.q.sc] 50)
  have K1 := Lib.hid (Blk.new w3 50 #[.int .i64 y1.k, .float .f32 y1.r, .float .f32 y1.b1, .float .f32 y1.b2, .float .f32 y1.ep, .int .i64 y1.er, .int .i64 y1.ec, .slice y1.ea y1.ex.length y1.eca, .int .i64 y1.er2, .int .i64 y1.ec2, .slice y1.eb y1.ey.length y1.ecb, .slice y1.q.g y1.q.ls.length y1.q.c, .slice y1.q.h y1.q.ss.length y1.q.d, .int .i64 y1.q.st, .int .i64 y1.q.sd, .float .f32 y1.q.sc])
  have O4 := Lib.hid (OwnL.kept O3.out ba)
  have K04 := Lib.hid (K03.out.below ba)
  have F4 := Lib.hid (Below.next F3.out ba)
  have LT3 := Lib.hid (fun g h => (OwnL.lt _ O3.out g h).2)
  clear O3 K03 F3
  clear ba
  generalize w3.alloc (.cells #[.int .i64 y1.k, .float .f32 y1.r, .float .f32 y1.b1, .float .f32 y1.b2, .float .f32 y1.ep, .int .i64 y1.er, .int .i64 y1.ec, .slice y1.ea y1.ex.length y1.eca, .int .i64 y1.er2, .int .i64 y1.ec2, .slice y1.eb y1.ey.length y1.ecb, .slice y1.q.g y1.q.ls.length y1.q.c, .slice y1.q.h y1.q.ss.length y1.q.d, .int .i64 y1.q.st, .int .i64 y1.q.sd, .float .f32 y1.q.sc] 50) = w4 at * 
  obtain ⟨C1, hC⟩ : ∃ C, (#[.int .i64 y1.k, .float .f32 y1.r, .float .f32 y1.b1, .float .f32 y1.b2, .float .f32 y1.ep, .int .i64 y1.er, .int .i64 y1.ec, .slice y1.ea y1.ex.length y1.eca, .int .i64 y1.er2, .int .i64 y1.ec2, .slice y1.eb y1.ey.length y1.ecb, .slice y1.q.g y1.q.ls.length y1.q.c, .slice y1.q.h y1.q.ss.length y1.q.d, .int .i64 y1.q.st, .int .i64 y1.q.sd, .float .f32 y1.q.sc] : Array Value) = C := ⟨_, rfl⟩
  have HC1 := Lib.hid (show y1.cells = C1 from hC)
  have HZ1 := Lib.hid (show C1.size = 16 by rw [← hC]; rfl)
  rw [hC] at K1 ⊢
  clear hC
  go_wp2_with (first | (refine wpList_load_row rfl 50 (.tmp 2) rfl (w3.heap.size) rfl 50 C1 _ _ K1.out Try.underlying50 rfl (by rw [HZ1.out]; kernel_rfl) ?_) | (refine wpList_load_row rfl 50 (.tmp 1) rfl (w1.heap.size) rfl 50 C0 _ _ K04.out Try.underlying50 rfl (by rw [HZ0.out]; kernel_rfl) ?_))
  have hc := c_eqLab y1 y0 w4 (labL_at V1.out O4.out) (A2.out.kept F4.out) (NewV.eq V0.out V1.out)
  rw [HC0.out, HC1.out] at hc
  refine hc.mono ?_
  rintro e w5 ⟨rfl, hb⟩
  have O5 := Lib.hid (OwnL.kept O4.out hb)
  have K05 := Lib.hid (K04.out.below hb)
  have K15 := Lib.hid (K1.out.below hb)
  have F5 := Lib.hid (Below.next F4.out hb)
  clear hc hb O4 K04 K1 F4
  go_wp2_with ((refine wpList_load_row rfl 50 (.tmp 2) rfl (w3.heap.size) rfl 50 C1 _ _ K15.out Try.underlying50 rfl (by rw [HZ1.out]; kernel_rfl) ?_))
  have hc := c_markLab0 y1 V1.out w2.heap.size w5 O5.out ND1.out
  rw [HC1.out] at hc
  refine hc.mono ?_
  rintro e w6 ⟨rfl, hm, hg⟩
  have M6 := Lib.hid hm
  have K06 := Lib.hid (K05.out.inn hg (fun h => by have := (OwnL.lt _ O5.out _ h).1; have := S2.out; omega))
  have K16 := Lib.hid (K15.out.inn hg (fun h => by have := LT3.out _ h; omega))
  have F6 := Lib.hid (hg.below' F5.out (fun g h => (OwnL.lt _ O5.out g h).1))
  clear hc hm hg O5 K05 K15 F5
  go_wp2_with ((refine wpList_load_row rfl 50 (.tmp 2) rfl (w3.heap.size) rfl 50 C1 _ _ K16.out Try.underlying50 rfl (by rw [HZ1.out]; kernel_rfl) ?_))
  have hc := c_heldLab0 y1 V1.out w2.heap.size w6 M6.out
  rw [HC1.out] at hc
  refine hc.mono ?_
  rintro e w7 ⟨rfl, hb⟩
  have M7 := Lib.hid (M6.out.kept hb)
  have K07 := Lib.hid (K06.out.below hb)
  have K17 := Lib.hid (K16.out.below hb)
  have F7 := Lib.hid (Below.next F6.out hb)
  clear hc hb M6 K06 K16 F6
  go_wp2_with fail
  refine (t_iNewLab w7).mono ?_
  rintro e w8 ⟨y2, rfl, v, ho, nd, hb⟩
  have V2 := Lib.hid v
  have ND2 := Lib.hid nd
  have O8 := Lib.hid ho
  have M8 := Lib.hid (M7.out.kept hb)
  have K08 := Lib.hid (K07.out.below hb)
  have K18 := Lib.hid (K17.out.below hb)
  have F8 := Lib.hid (Below.next F7.out hb)
  clear v ho nd hb M7 K07 K17 F7
  unfold LabA.cells
  go_upto_region 14 with fail
  have ba := (Below.refl w8.heap.size w8).alloc (Nat.le_refl _) (.cells #[.int .i64 y2.k, .float .f32 y2.r, .float .f32 y2.b1, .float .f32 y2.b2, .float .f32 y2.ep, .int .i64 y2.er, .int .i64 y2.ec, .slice y2.ea y2.ex.length y2.eca, .int .i64 y2.er2, .int .i64 y2.ec2, .slice y2.eb y2.ey.length y2.ecb, .slice y2.q.g y2.q.ls.length y2.q.c, .slice y2.q.h y2.q.ss.length y2.q.d, .int .i64 y2.q.st, .int .i64 y2.q.sd, .float .f32 y2.q.sc] 50)
  have K2 := Lib.hid (Blk.new w8 50 #[.int .i64 y2.k, .float .f32 y2.r, .float .f32 y2.b1, .float .f32 y2.b2, .float .f32 y2.ep, .int .i64 y2.er, .int .i64 y2.ec, .slice y2.ea y2.ex.length y2.eca, .int .i64 y2.er2, .int .i64 y2.ec2, .slice y2.eb y2.ey.length y2.ecb, .slice y2.q.g y2.q.ls.length y2.q.c, .slice y2.q.h y2.q.ss.length y2.q.d, .int .i64 y2.q.st, .int .i64 y2.q.sd, .float .f32 y2.q.sc])
  have O9 := Lib.hid (OwnL.kept O8.out ba)
  have M9 := Lib.hid (M8.out.kept ba)
  have K09 := Lib.hid (K08.out.below ba)
  have K19 := Lib.hid (K18.out.below ba)
  have F9 := Lib.hid (Below.next F8.out ba)
  clear O8 M8 K08 K18 F8
  clear ba
  generalize w8.alloc (.cells #[.int .i64 y2.k, .float .f32 y2.r, .float .f32 y2.b1, .float .f32 y2.b2, .float .f32 y2.ep, .int .i64 y2.er, .int .i64 y2.ec, .slice y2.ea y2.ex.length y2.eca, .int .i64 y2.er2, .int .i64 y2.ec2, .slice y2.eb y2.ey.length y2.ecb, .slice y2.q.g y2.q.ls.length y2.q.c, .slice y2.q.h y2.q.ss.length y2.q.d, .int .i64 y2.q.st, .int .i64 y2.q.sd, .float .f32 y2.q.sc] 50) = w9 at * 
  obtain ⟨C2, hC⟩ : ∃ C, (#[.int .i64 y2.k, .float .f32 y2.r, .float .f32 y2.b1, .float .f32 y2.b2, .float .f32 y2.ep, .int .i64 y2.er, .int .i64 y2.ec, .slice y2.ea y2.ex.length y2.eca, .int .i64 y2.er2, .int .i64 y2.ec2, .slice y2.eb y2.ey.length y2.ecb, .slice y2.q.g y2.q.ls.length y2.q.c, .slice y2.q.h y2.q.ss.length y2.q.d, .int .i64 y2.q.st, .int .i64 y2.q.sd, .float .f32 y2.q.sc] : Array Value) = C := ⟨_, rfl⟩
  have HC2 := Lib.hid (show y2.cells = C2 from hC)
  have HZ2 := Lib.hid (show C2.size = 16 by rw [← hC]; rfl)
  rw [hC] at K2 ⊢
  clear hC
  go_wp2_with (first | (refine wpList_load_row rfl 50 (.tmp 5) rfl (w8.heap.size) rfl 50 C2 _ _ K2.out Try.underlying50 rfl (by rw [HZ2.out]; kernel_rfl) ?_) | (refine wpList_load_row rfl 50 (.tmp 1) rfl (w1.heap.size) rfl 50 C0 _ _ K09.out Try.underlying50 rfl (by rw [HZ0.out]; kernel_rfl) ?_))
  have hc := c_eqLab y2 y0 w9 (labL_at V2.out O9.out) (A2.out.kept F9.out) (NewV.eq V0.out V2.out)
  rw [HC0.out, HC2.out] at hc
  refine hc.mono ?_
  rintro e w10 ⟨rfl, hb⟩
  have M10 := Lib.hid (M9.out.kept hb)
  have K110 := Lib.hid (K19.out.below hb)
  have F10 := Lib.hid (Below.next F9.out hb)
  clear hc hb M9 K09 K19 F9 K2 O9
  go_wp2_with ((refine wpList_load_row rfl 50 (.tmp 2) rfl (w3.heap.size) rfl 50 C1 _ _ K110.out Try.underlying50 rfl (by rw [HZ1.out]; kernel_rfl) ?_))
  have hc := c_heldLab0 y1 V1.out w2.heap.size w10 M10.out
  rw [HC1.out] at hc
  refine hc.mono ?_
  rintro e w11 ⟨rfl, hb⟩
  have F11 := Lib.hid (Below.next F10.out hb)
  clear hc hb M10 K110 F10
  go_wp2_with fail
  go_ret
  exact ⟨rfl, B2.out.trans (F11.out.mono B2.out.size)⟩

/-! the row's step -/
set_option maxRecDepth 100000 in
theorem lifted (os : Os) (started : os.Started) (H : Type) (enc : TypeId × Value → H) :
    ReturnsInHanded {} Try.checked os 4 .any (Rows.fnExactNewLabSpec.pre6 enc Try.prog Try.f4 Rows.fnExactNewLabRow.domain false) (Rows.fnExactNewLabSpec.post enc Try.prog Try.f4 false true false false) := by
  refine returnsInHanded_of_change (C := Try.checked) own started (by kernel_rfl) Try.func4
    (ChangeSpec.witness6 (enc := enc) (C := Try.checked) false ⟨#[], #[], []⟩ 8 (by kernel_rfl) (by kernel_rfl) (by kernel_rfl) (by kernel_rfl)) ?_
  intro W base args ds gs before hval0 hW hcnd _
  have hval : ∀ (j : Nat) t v, Try.f4.params[j]? = some t → args[j]? = some v → Value.okWide Try.prog W .any base t v := hval0
  have hW' := hW
  obtain ⟨p, q, hA0, hV, rfl, hfz, hnd⟩ := hW
  have hA : DataW.TrodAll enc Try.prog W 0 (fun _ => true) true Try.f4.params.toList args.toList ds p := hA0
  rw [Try.params4] at hA hval
  obtain ⟨hargs, rfl, rfl⟩ := trodAll_nil hA
  obtain rfl : args = #[] := by cases args; simp_all
  obtain ⟨rfl, rfl⟩ := trodVars_none hV
  clear hA0 hval0
  refine (walk  W ).mono fun e W' ⟨he, bel⟩ => ?_
  subst he
  exact ⟨_, rfl, _, _, _, [], _, [], hW', trodAll_mk1 (shut_bool Try.underlying4 _), trodAll_mk0, rfl, bel.frame _, fun h => by cases h⟩

theorem named_ : Try.pinned.checked.prog.funcNamed Rows.fnExactNewLabRow.func = some 4 := by kernel_rfl
theorem fk1 : (Rows.fnExactNewLabRow.wf (OpenSpec.ofChange Rows.fnExactNewLabSpec)) = true := by kernel_rfl
theorem fk4 : (Try.f4.params.all (Try.pinned.checked.prog.readableRec ·)) = true := by kernel_rfl
theorem fk5 : (namedTie Try.pinned.checked.prog Rows.fnExactNewLabRow.named Rows.fnExactNewLabSpec.vars) = true := by kernel_rfl
theorem fk6 : ((Rows.fnExactNewLabRow.stops == [])) = true := by kernel_rfl
theorem fk8 : ((Rows.fnExactNewLabRow.knobs == [])) = true := by kernel_rfl
theorem fk10 : ((Rows.fnExactNewLabRow.inPlace == Try.pinned.checked.prog.inPlace 4)) = true := by kernel_rfl
theorem fk11 : ((Rows.fnExactNewLabRow.unfollowed == Try.pinned.checked.prog.unfollowed 4)) = true := by kernel_rfl
theorem fk12 : ((Rows.fnExactNewLabRow.recurses == Try.pinned.checked.prog.recurses 4)) = true := by kernel_rfl
theorem fk13 : ((Rows.fnExactNewLabRow.named == Try.pinned.checked.prog.varsNamed 4)) = true := by kernel_rfl
theorem fk14 : ((Rows.fnExactNewLabRow.maps == (Try.f4.params.toList ++ Rows.fnExactNewLabSpec.plain.varTypes Try.pinned.checked.prog).any (Try.pinned.checked.prog.mapsRec ·))) = true := by kernel_rfl
theorem fk15 : ((Rows.fnExactNewLabRow.ifaces == (Try.f4.params.toList ++ Rows.fnExactNewLabSpec.plain.varTypes Try.pinned.checked.prog).any (Try.pinned.checked.prog.ifacesRec ·))) = true := by kernel_rfl
theorem fk16 : ((Rows.fnExactNewLabRow.mapsOut == Try.pinned.checked.prog.mapsAmong Try.f4.resultTypes.toList)) = true := by kernel_rfl
theorem fk17 : ((Rows.fnExactNewLabRow.loops == (Try.f4.params.toList ++ Rows.fnExactNewLabSpec.plain.varTypes Try.pinned.checked.prog).any (Try.pinned.checked.prog.loopsFrom ·))) = true := by kernel_rfl
theorem fk18 : ((Rows.fnExactNewLabRow.wideKeys == (Try.f4.params.toList ++ Rows.fnExactNewLabSpec.plain.varTypes Try.pinned.checked.prog ++ Try.f4.resultTypes.toList).any (Try.pinned.checked.prog.wideKeysFrom ·))) = true := by kernel_rfl
theorem fk19 : (Rows.fnExactNewLabSpec.vars.all (Try.pinned.checked.prog.varReadable ·)) = true := by kernel_rfl
theorem fk20 : (Try.f4.resultTypes.all (fun t => Try.pinned.checked.prog.readableRec t && decide (t < Try.pinned.checked.prog.types.size))) = true := by kernel_rfl
theorem fk21 : ((Rows.fnExactNewLabRow.ifacesOut == Try.f4.resultTypes.toList.any (Try.pinned.checked.prog.ifacesRec ·))) = true := by kernel_rfl
theorem fk22 : ((Rows.fnExactNewLabRow.loopsOut == Try.f4.resultTypes.toList.any (Try.pinned.checked.prog.loopsFrom ·))) = true := by kernel_rfl
theorem fk23 : (Rows.fnExactNewLabRow.plainKeys == Try.pinned.checked.prog.plainKeys) = true := by rw [cls_keys]; kernel_rfl
theorem fk24 : (Rows.fnExactNewLabRow.shortTexts.isNone) = true := by kernel_rfl
theorem fk27 : (Rows.fnExactNewLabRow.lifted == Try.pinned.checked.prog.liftsFinal) = true := by rw [cls_lift]; kernel_rfl
theorem fk28 : (Try.pinned.checked.prog.make == some Rows.fnExactNewLabRow.make) = true := by rw [cls_make]; kernel_rfl
theorem fk29 : ((Rows.fnExactNewLabRow.kinds == (if Rows.fnExactNewLabRow.domain.isEmpty then [] else Try.f4.params.toList.map fun t => match Try.pinned.checked.prog.underlying t with | some (.int k) => some k | _ => none))) = true := by kernel_rfl
theorem fk30 : ((Rows.fnExactNewLabRow.pinned == Rows.fnExactNewLabRow.pinnedBy)) = true := by kernel_rfl
theorem fk31 : ((Rows.fnExactNewLabRow.veiled == (Try.f4.params.toList ++ Rows.fnExactNewLabSpec.plain.varTypes Try.pinned.checked.prog ++ Try.f4.resultTypes.toList).any (Try.pinned.checked.prog.veiledRec ·))) = true := by kernel_rfl
theorem fk32 : (Rows.fnExactNewLabRow.veiledFits Try.pinned.checked.prog Try.f4.params.toList (Try.f4.params.toList ++ Rows.fnExactNewLabSpec.plain.varTypes Try.pinned.checked.prog ++ Try.f4.resultTypes.toList)) = true := by kernel_rfl
set_option maxRecDepth 100000 in
theorem closed : joinedFacts Try.pinned.checked.prog 4 Try.f4 Rows.fnExactNewLabSpec Rows.fnExactNewLabRow = true := (and2 (and2 (and2 (and2 (and2 (and2 (and2 (and2 (and2 (and2 (and2 (and2 (and2 (and2 (and2 (and2 (and2 (and2 (and2 (and2 (and2 (and2 (and2 (and2 (and2 (and2 (and2 (and2 (and2 (and2 (and2 fk1 cls_laid) cls_maps) fk4) fk5) fk6) cls_stops) fk8) cls_knobs) fk10) fk11) fk12) fk13) fk14) fk15) fk16) fk17) fk18) fk19) fk20) fk21) fk22) fk23) fk24) cls_heard) cls_enter) fk27) fk28) fk29) fk30) fk31) fk32)
theorem over : Rows.fnExactNewLabRow.holds Try.pinned (OpenSpec.ofChange Rows.fnExactNewLabSpec) :=
  OpenClaim.holds_of_wide 4 Try.f4 rfl rfl rfl rfl rfl rfl rfl ⟨rfl, rfl, rfl, rfl, rfl⟩ rfl rfl rfl rfl rfl named_ Try.func4 closed
    (of_decide_eq_true (by kernel_rfl)) (by unfold Func.isWrapper; first | (rw [if_pos (by decide +kernel)]; kernel_rfl) | (rw [if_neg (by decide +kernel)]; exact ⟨rfl, rfl⟩))
    (fun os started H enc _ => lifted os started H enc)

/-- the statement -/
theorem proved : Rows.FnExactNewLabSaid := over
end Go.Proofs.Ytaipegkkpkagnaa.fnExactNewLab
