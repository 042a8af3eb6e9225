/-
  The law's own copy of a list of int64. Conditions: the elements can be read.
-/
import Derived.Test.YtokminhnkmhneaaDoorGrJ
import Derived.Test.YtokminhnkmhneaaDoorAll
namespace Go.Proofs.YtokminhnkmhneaaDoor
open Go.RowKit Go.Deep Go.WideShapes Go.ChangeShapes
set_option linter.unusedVariables false

def RetOwnI (zs : List Int) (w : World) (e : Ending) (w' : World) : Prop :=
  ∃ a, e = .returned (.slice a zs.length zs.length) ∧ OwnI w' w.heap.size a zs.length zs ∧ Below w.heap.size w w'
theorem range_getD (zs : List Int) : (List.range zs.length).map (fun i => zs.getD i 0) = zs := by
  apply List.ext_getElem (by simp)
  intro i h1 h2
  simp [List.getD, h2]
set_option maxHeartbeats 400000 in
theorem c_toInts (a : Option Addr) (len cap : Nat) (zs : List Int) (w : World) (h : IsRow .i64 w a len cap zs) (hl : len ≤ 1048576) : Calls Tryd.prog 27 #[.slice a len cap] w (RetOwnI zs w) := by
  have hlen := h.2.2.1
  subst hlen
  have HF := Lib.hid h
  obtain ⟨i0, hi, hz0, hz1, hz2⟩ := info_parts info_j64
  have JI := Lib.hid hi
  have HZ0 := Lib.hid hz0
  have HZ1 := Lib.hid hz1
  have HZ2 := Lib.hid hz2
  clear h hi hz0 hz1 hz2
  go_enter Tryd.func27, Tryd.ntmps27
  go_wp2_with (at_make; refine wpList_make_full _ rfl _ _ 36 rfl w.heap.size 2 i0 (.int .i64 0) 1 Tryd.underlying36 JI.out HZ0.out HZ1.out _ _ _ _ zs.length rfl rfl rfl rfl ?c1 ?c2 ?c3 ?_)
  case c1 => rw [HZ2.out]; omega
  case c2 => unfold maxLen; omega
  case c3 => exact Nat.le_refl _
  intro w1 hown hgrow
  have hb1 : Below w.heap.size w w1 := (Below.refl _ _).grown hgrow (Nat.le_refl _) (fun k h => by cases h)
  rw [toList_madeCells_one] at hown
  have HO := Lib.hid hown
  have HB := Lib.hid hb1
  clear hown hb1 hgrow
  go_wp2_with fail
  go_loopw [4] (fun i wr => FunRelJ (fun i => zs.getD i 0) zs.length w.heap.size w i wr) (fun i _ => zs.length - (intOf i).toNat)
  case atStart => exact ⟨0, Nat.zero_le _, rfl, by simpa [partJ] using HO.out, HB.out⟩
  case round =>
    obtain ⟨k, hk, rfl, ho, hb⟩ := hrel
    have HO' := Lib.hid ho
    have HL := Lib.hid hb
    have hk0 : (0 : Int) ≤ (k : Int) := by omega
    clear ho hb
    by_cases hlt : k < zs.length
    · have hlt' : (k : Int) < (zs.length : Int) := by omega
      rcases HF.out.2.2.2.2 with h0 | ⟨b, off, rfl, hbl, hc⟩
      · omega
      have hcell : wr.cell? ⟨b, off + k, none⟩ = some (.int .i64 (zs.getD k 0)) := (HL.out.cell (p := ⟨b, off + k, none⟩) hbl).trans (hc k hlt)
      have HS := Lib.hid (funJ_step (f := fun i => zs.getD i 0) (Nat.le_refl _) hlt HO'.out HL.out (Below.refl _ _))
      obtain ⟨hfz, v0, hv0⟩ := funJ_cell hlt HO'.out (Below.refl _ _)
      obtain ⟨z, hz⟩ : ∃ z, zs.getD k 0 = z := ⟨_, rfl⟩
      rw [hz] at hcell HS
      clear hc hz
      go_wp2_with fail
      go_roundw
      case rel => exact HS.out
      case measure => simp [intOf]; omega
    · obtain rfl : k = zs.length := by omega
      have HE := Lib.hid (funJ_end (f := fun i => zs.getD i 0) (n := zs.length) (w := w) (gd := w.heap.size) (fun i hi => HF.out.2.2.2.1 _ (by simp [List.getD, hi])) HO'.out)
      go_wp2_with fail
      go_ret
      have := HE.out
      rw [range_getD] at this
      exact ⟨_, rfl, this, HL.out⟩
end Go.Proofs.YtokminhnkmhneaaDoor
