/-
  WithParams: what the model and the program answer. Conditions: the cells can be read.
-/
import Derived.Test.YtappcbijhfghlaaWith
import Derived.Test.YtappcbijhfghlaaTPar
namespace Go.Proofs.Ytappcbijhfghlaa
open Go.RowKit
set_option linter.unusedVariables false

theorem laySum_withP_le (ps : List LayP) (zs : List Nat) : laySum (withP ps zs) ≤ laySum ps := by
  induction ps generalizing zs with
  | nil => exact Nat.le_refl _
  | cons p ps ih =>
    have h := ih (zs.drop (p.ws.length + p.bs.length))
    simp only [withP, laySum, List.map_cons, List.sum_cons, LayP.n, List.length_take, List.length_drop] at h ⊢
    omega
theorem laySum_canP (ps : List LayP) : laySum (ps.map LayP.can) = laySum ps := by
  unfold laySum
  rw [List.map_map]
  congr 1
  refine List.map_congr_left fun x _ => ?_
  simp [LayP.n, LayP.can]
def okWith (ps : List LayP) (zs : List Nat) : Bool := vMod ps && decide (zs.length = (parOf ps).length)
def vWithParams (ps : List LayP) (zs : List Nat) : Bool × List LayP := if okWith ps zs = true then (true, (withP ps zs).map LayP.can) else (false, [])
theorem vWithParams_len (ps : List LayP) (zs : List Nat) : 3 * (vWithParams ps zs).2.length + laySum (vWithParams ps zs).2 ≤ 1048576 := by
  unfold vWithParams
  split
  · rename_i h
    simp only [okWith, Bool.and_eq_true] at h
    have h1 := vMod_parts h.1
    have h2 := laySum_withP_le ps zs
    have h3 := laySum_canP (withP ps zs)
    have h4 := withP_length ps zs
    simp only [List.length_map]
    omega
  · simp [laySum]
theorem retM_no {w w' : World} (h : Below w.heap.size w w') : RetM false [] w (.returned (.tuple #[.agg #[.slice none 0 0], .bool false])) w' :=
  ⟨none, 0, [], rfl, by simp [OwnL, Cl.Own, laysC, vs, World.ownsRow_nil], by simp [blL, Cl.bl, laysC, blk], rfl, h⟩
theorem t_sWithParams (ps : List LayP) (n : Nat) (g : Option Addr) (c : Nat) (y : List LayA) (z : List Nat) (a : Option Addr) (cz : Nat) (w : World) (hp : y.map LayA.p = ps) (h : LaysAt w g n c y) (hz : IsFloats .f32 w a z.length cz z) :
    Calls Try.prog 51 #[.agg #[.slice g n c], .slice a z.length cz] w (RetM (vWithParams ps z).1 (vWithParams ps z).2 w) := by
  subst hp
  have H := Lib.hid h
  have HZ := Lib.hid hz
  have hn : n = (y.map LayA.p).length := by simpa using h.1.symm
  have b0 := Lib.hid (((Below.refl w.heap.size w).alloc (Nat.le_refl _) (.cells #[.slice g n c] 58)).alloc (by simp) (.cells #[.slice none 0 0] 58))
  have k1 := Lib.hid (show Blk ((w.alloc (.cells #[.slice g n c] 58)).alloc (.cells #[.slice none 0 0] 58)) (w.heap.size + 1) 58 #[.slice none 0 0] by simpa using Blk.new (w.alloc (.cells #[.slice g n c] 58)) 58 #[.slice none 0 0])
  have k1d := Lib.hid (fun d => k1.out.below (below_drewN (Below.refl _ ((w.alloc (.cells #[.slice g n c] 58)).alloc (.cells #[.slice none 0 0] 58))) d))
  cases hv : vMod (y.map LayA.p) with
  | false =>
    have HV := Lib.hid hv
    rw [show vWithParams (y.map LayA.p) z = (false, []) by simp [vWithParams, okWith, hv]]
    clear h hz hv hn
    go_enter Try.func51, Try.ntmps51
    go_wp2_with fail
    refine (c_l03Is _ 0 g c n y _ HV.out _ (by go_simp) (H.out.kept b0.out)).mono ?_
    rintro e w' ⟨rfl, d, rfl⟩
    have K1 := Lib.hid (k1d.out d)
    have HB := Lib.hid (below_drewN b0.out d)
    go_wp2_with fail
    obtain ⟨s0, sl⟩ := tb1 K1.out
    refine bodyPost_ret (v := .tuple #[.agg #[.slice none 0 0], .bool false]) (by simp [results, Try.results51, go_sem, s0]; try rfl) rfl ?_
    exact retM_no (HB.out.setCell (p := ⟨w.heap.size + 1, 0, none⟩) (by simp) _)
  | true =>
    have HV := Lib.hid hv
    have HP := Lib.hid (vMod_parts hv)
    have h6 : n ≤ 6 := by have := HP.out; omega
    have H6 := Lib.hid h6
    cases hl : decide (z.length = (parOf (y.map LayA.p)).length) with
    | false =>
      rw [show vWithParams (y.map LayA.p) z = (false, []) by simp only [vWithParams, okWith, hv, hl]; rfl]
      have hl' : ¬ ((z.length : Nat) : Int) = (((parOf (y.map LayA.p)).length : Nat) : Int) := fun e => of_decide_eq_false hl (by omega)
      have HL := Lib.hid hl'
      clear h hz hv hn h6 hl hl'
      go_enter Try.func51, Try.ntmps51
      go_wp2_with fail
      refine (c_l03Is _ 0 g c n y _ HV.out _ (by go_simp) (H.out.kept b0.out)).mono ?_
      rintro e w' ⟨rfl, d, rfl⟩
      go_wp2_with fail
      refine (c_l03Params _ 0 g c n y _ (by simp; omega) (by go_simp) (H.out.kept (below_drewN b0.out d)) HP.out.2.2 H6.out).mono ?_
      rintro e w2 ⟨b, cp, rfl, hf, bl⟩
      have K1 := Lib.hid ((k1d.out d).below bl)
      have HB := Lib.hid (Below.next (below_drewN b0.out d) bl)
      have hl' := HL.out
      clear hf bl
      obtain ⟨s0, sl⟩ := tb1 K1.out
      have f0 := K1.out.frozen 0
      generalize (parOf (y.map LayA.p)).length = M at hl' ⊢
      go_wp2_with fail
      refine bodyPost_ret (v := .tuple #[.agg #[.slice none 0 0], .bool false]) (by simp [results, Try.results51, go_sem, s0]; try rfl) rfl ?_
      exact retM_no (HB.out.setCell (p := ⟨w.heap.size + 1, 0, none⟩) (by simp) _)
    | true =>
      have hl' := of_decide_eq_true hl
      rw [show vWithParams (y.map LayA.p) z = (true, (withP (y.map LayA.p) z).map LayP.can) by simp only [vWithParams, okWith, hv, hl]; rfl]
      have HL := Lib.hid hl'
      clear h hz hv hn h6 hl hl'
      go_enter Try.func51, Try.ntmps51
      go_wp2_with fail
      refine (c_l03Is _ 0 g c n y _ HV.out _ (by go_simp) (H.out.kept b0.out)).mono ?_
      rintro e w' ⟨rfl, d, rfl⟩
      go_wp2_with fail
      refine (c_l03Params _ 0 g c n y _ (by simp; omega) (by go_simp) (H.out.kept (below_drewN b0.out d)) HP.out.2.2 H6.out).mono ?_
      rintro e w2 ⟨b, cp, rfl, hf, bl⟩
      have k0 : Blk ((w.alloc (.cells #[.slice g n c] 58)).alloc (.cells #[.slice none 0 0] 58)) w.heap.size 58 #[.slice g n c] := (Blk.new w 58 #[.slice g n c]).below ((Below.refl (w.alloc (.cells #[.slice g n c] 58)).heap.size _).alloc (Nat.le_refl _) (.cells #[.slice none 0 0] 58))
      have K0 := Lib.hid ((k0.below (below_drewN (Below.refl _ _) d)).below bl)
      have K1 := Lib.hid ((k1d.out d).below bl)
      have HB := Lib.hid (Below.next (below_drewN b0.out d) bl)
      have SZ := Lib.hid (show w.heap.size < w2.heap.size by have := bl.size; simp at this; omega)
      clear hf bl k0
      have hm := HL.out
      rw [parOf_length] at hm
      have HM := Lib.hid hm
      rw [← HL.out]
      clear hm
      go_wp2_with fail
      obtain ⟨x0, xl⟩ := tb1 K0.out
      refine (c_l03With _ 0 g c n y a z.length cz z _ SZ.out x0 (H.out.kept HB.out) (HZ.out.kept HB.out) HM.out (by have := HM.out; have := HP.out.2.2; omega) H6.out).mono ?_
      rintro e w3 ⟨gs, cap, ys, rfl, hyl, hyp, ho, hnd, bl⟩
      subst hyl
      have K1' := Lib.hid (K1.out.below bl)
      have HB3 := Lib.hid (HB.out.trans (bl.mono HB.out.size))
      have HO := Lib.hid ho
      have HND := Lib.hid hnd
      have HYP := Lib.hid hyp
      have SZ2 := Lib.hid (show w.heap.size + 1 < w2.heap.size by have := K1.out.lt; exact this)
      clear ho hnd hyp bl x0 xl
      obtain ⟨s0, sl⟩ := tb1 K1'.out
      have f0 := K1'.out.frozen 0
      go_wp2_with fail
      refine bodyPost_ret (v := .tuple #[.agg #[.slice gs ys.length cap], .bool true]) (by simp [results, Try.results51, go_sem, s0]; try rfl) rfl ⟨gs, cap, ys, rfl, ?_, HND.out, ?_, HB3.out.setCell (p := ⟨w.heap.size + 1, 0, none⟩) (by simp) _⟩
      · refine OwnL.base (by have := SZ.out; omega : w.heap.size ≤ w2.heap.size) _ (HO.out.far (p := ⟨w.heap.size + 1, 0, none⟩) SZ2.out _)
      · rw [← HYP.out, List.map_map]; rfl
end Go.Proofs.Ytappcbijhfghlaa
