/-
  RunModel: what the model makes of a row. Conditions: the cells can be read.
-/
import Derived.Test.YtpdgpoonblldgaaRmo
namespace Go.Proofs.Ytpdgpoonblldgaa
open Go.RowKit Go.Deep Go.WideShapes Go.ChangeShapes
set_option linter.unusedVariables false
set_option linter.unusedSimpArgs false

set_option maxRecDepth 20000 in
set_option maxHeartbeats 1000000 in
theorem c_l03Out (gp op : Nat) (g : Option Addr) (c n : Nat) (y : List LayA) (w : World) (hq : w.cell? ⟨gp, op, none⟩ = some (.slice g n c)) (h : LaysAt w g n c y) (hv : vMod (y.map LayA.p) = true) :
    Calls Try.prog 50 #[.pointer (some ⟨gp, op, none⟩)] w fun e w' => e = .returned (.int .i64 (lastO (y.map LayA.p))) ∧ Drawn w w' := by
  have h6 := mod_len hv
  rw [List.length_map, h.1] at h6
  obtain ⟨m, hm⟩ : ∃ m, n = m + 1 := ⟨n - 1, by omega⟩
  obtain ⟨b, off, k, ii, oo, ws, bs, a0, c0, a1, c1, rfl, hbk, hx, q0, q1, q2, q3, q4, f0, f1⟩ := h.one (show m < n by omega)
  have hx' := at_map hx
  have hlo : lastO (y.map LayA.p) = oo := by
    unfold lastO
    rw [List.length_map, h.1, show n - 1 = m by omega, hx']
  rw [hlo]
  have kN : IntKind.i64.wrap ((n : Int) - 1) = (m : Int) := (IntWalk.i64_in _ (by omega)).trans (by omega)
  have k1 : (m : Int) < (n : Int) := by omega
  have k0 : (0 : Int) ≤ (m : Int) := by omega
  clear hv h h6 hm hx hx' hlo q0 q1 q3 q4 f0 f1
  go_enter Try.func50, Try.ntmps50
  go_wp2
  go_quiet (fail)
  go_wp2
  go_ret
  exact ⟨rfl, Drawn.mk _ _⟩
/-- j layers have run over a row -/
def RowRel (ps : List LayP) (z : List Nat) (n : Nat) (w : World) (xv iv : Value) (wr : World) : Prop :=
  ∃ (j : Nat) (xa : Option Addr) (xc : Nat) (xz : List Nat), j ≤ n ∧ iv = .int .i64 j ∧ xv = .slice xa xz.length xc ∧ IsFloats .f32 wr xa xz.length xc xz ∧ (1 ≤ j → OwnF wr w.heap.size xa xc xz) ∧ xz.map (canon .f32) = stageV ps z j ∧ Below w.heap.size w wr
set_option maxRecDepth 20000 in
set_option maxHeartbeats 4000000 in
theorem c_l03Row (gp op : Nat) (g : Option Addr) (c n : Nat) (y : List LayA) (xa : Option Addr) (xc : Nat) (z : List Nat) (w : World) (hq : w.cell? ⟨gp, op, none⟩ = some (.slice g n c)) (hv : vMod (y.map LayA.p) = true) (hg0 : goesIn (y.map LayA.p) z.length = true) (h : LaysAt w g n c y) (hx : IsFloats .f32 w xa z.length xc z) :
    Calls Try.prog 52 #[.pointer (some ⟨gp, op, none⟩), .slice xa z.length xc] w (RetLs (stageV (y.map LayA.p) z n) w) := by
  have hln : y.length = n := h.1
  have hm6 := mod_len hv
  rw [List.length_map, hln] at hm6
  obtain ⟨p0, hp0, hz0⟩ : ∃ p0, (y.map LayA.p)[0]? = some p0 ∧ (z.length : Int) = p0.i := by
    unfold goesIn at hg0
    cases hq : (y.map LayA.p)[0]? with
    | none => rw [hq] at hg0; cases hg0
    | some p => rw [hq] at hg0; exact ⟨p, rfl, by simpa using hg0⟩
  have HSL := Lib.hid (fun j p hp => stage_len hv hp0 hz0 j p hp)
  have HV := Lib.hid hv
  have HW := Lib.hid h
  have HX := Lib.hid hx
  have HQ := Lib.hid hq
  have HGP := Lib.hid (show gp < w.heap.size from cell_block hq)
  have n6 : (n : Int) ≤ 6 := by omega
  have N1 := Lib.hid hm6.1
  obtain ⟨ps, hps⟩ : ∃ ps, y.map LayA.p = ps := ⟨_, rfl⟩
  have HPS := Lib.hid hps
  rw [hps] at HSL HV ⊢
  clear hv hg0 h hx hm6 hp0 hz0 hps hln hq
  go_enter Try.func52, Try.ntmps52
  go_wp2_with fail
  go_loopw [1, 5] (fun xv iv wr => RowRel ps z n w xv iv wr) (fun _ iv _ => n - (intOf iv).toNat)
  case atStart => exact ⟨0, xa, xc, z, Nat.zero_le _, rfl, rfl, HX.out, fun h => by omega, rfl, Below.refl _ _⟩
  case round =>
    obtain ⟨j, xa, xc, xz, hj, rfl, rfl, hxf, hxo, hxz, hb⟩ := hrel
    have HXF := Lib.hid hxf
    have HXO := Lib.hid hxo
    have HXZ := Lib.hid hxz
    have HB := Lib.hid hb
    have hj0 : (0 : Int) ≤ (j : Int) := by omega
    have p0 := (HB.out.cell (p := ⟨gp, op, none⟩) HGP.out).trans HQ.out
    clear hxf hxz hxo hb
    by_cases hlt : j < n
    · have hlt' : (j : Int) < (n : Int) := by omega
      obtain ⟨b, off, k, ii, oo, ws, bs, a0, c0, a1, c1, rfl, hbk, hx, q0, q1, q2, q3, q4, f0, f1⟩ := (HW.out.kept HB.out).one hlt
      have hx' := at_map hx
      rw [HPS.out] at hx'
      have hone := mod_one HV.out hx'
      have hsl := HSL.out j _ hx'
      have HSV := Lib.hid (stageV_succ (z := z) hx')
      unfold vOne at hone
      dsimp only at hone hsl
      obtain ⟨i', o', hi, ho', h1, h2, _⟩ := lay_nat hone
      subst hi; subst ho'
      have HLP2 := Lib.hid (show LayPtr wr b (off + j * 5) k i' o' a0 a1 ws.length bs.length c0 c1 from ⟨hbk, q0, q1, q2, q3, q4⟩)
      have F0 := Lib.hid f0
      have F1 := Lib.hid f1
      have HONE := Lib.hid hone
      have HXL := Lib.hid (show xz.length = i' by have e := congrArg List.length HXZ.out; rw [List.length_map] at e; omega)
      clear f0 f1 hx hx' hone hsl q0 q1 q2 q3 q4
      go_wp2_with fail
      refine (c_l03Run b (off + j * 5) k i' o' a0 a1 xa c0 c1 xc ws bs xz _ HONE.out HLP2.out F0.out F1.out HXF.out HXL.out).mono ?_
      rintro e w4 ⟨a4, c4, zs, rfl, ho4, he4, hb4⟩
      have HE4 := Lib.hid (show zs.map (canon .f32) = stageV ps z (j + 1) by
        rw [he4, HSV.out, ← HXZ.out, runV_can]
        rfl)
      have O4 := Lib.hid (show OwnF w4 w.heap.size a4 c4 zs from ho4.base HB.out.size)
      have B4 := Lib.hid (Below.next HB.out hb4)
      clear ho4 he4 hb4
      go_wp2_with fail
      go_roundw
      case rel => exact ⟨j + 1, a4, c4, zs, hlt, by go_num, rfl, O4.out.isFloats, fun _ => O4.out, HE4.out, B4.out⟩
      case measure => simp [intOf]; omega
    · obtain rfl : j = n := by omega
      have HO := Lib.hid (HXO.out N1.out)
      go_wp2_with fail
      go_ret
      exact ⟨xa, xc, xz, rfl, HO.out, HXZ.out, HB.out⟩
end Go.Proofs.Ytpdgpoonblldgaa
