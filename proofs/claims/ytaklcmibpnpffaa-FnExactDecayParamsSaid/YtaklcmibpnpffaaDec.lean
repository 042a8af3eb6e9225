/-
  Parameters that are a little less: the same for the program and for its model. Conditions: the numbers can be read.
-/
import Derived.Test.YtaklcmibpnpffaaOp5
import Derived.Deep.RegionLaw
import Derived.BigRegion
namespace Go.Proofs.Ytaklcmibpnpffaa
open Go.RowKit Go.Deep Go.WideShapes Go.ChangeShapes
set_option linter.unusedVariables false

def cless (r x : Nat) : Nat := cop .sub .f32 (canon .f32 x) (cop .mul .f32 (canon .f32 r) (canon .f32 x))
def vDecayParams (z : List Nat) (r : Nat) : Bool × List Nat := if z.length ≤ 256 then (true, (List.range z.length).map fun i => cless r (z.getD i 0)) else (false, [])
theorem vDecayParams_len (z : List Nat) (r : Nat) : (vDecayParams z r).2.length ≤ 1048576 := by
  unfold vDecayParams
  split
  · simp; omega
  · simp
set_option maxRecDepth 20000 in
set_option maxHeartbeats 4000000 in
theorem t_sDecayParams (z : List Nat) (r : Nat) (a0 : Option Addr) (w : World) (h : IsFloats .f32 w a0 z.length z.length z) (hr : r < 4294967296) : Calls Try.prog 24 #[.slice a0 z.length z.length, .float .f32 r] w (RetL (vDecayParams z r).1 (vDecayParams z r).2 w) := by
  have HF := Lib.hid h
  have hmax : z.length ≤ 9223372036854775807 := by have := h.2.1; unfold maxLen at this; exact this
  obtain ⟨i0, hi, hz0, hz1, hz2⟩ := info_parts info_f32
  have HI := Lib.hid hi
  have HZ0 := Lib.hid hz0
  have HZ1 := Lib.hid hz1
  have HZ2 := Lib.hid hz2
  clear h hi hz0 hz1 hz2
  by_cases h2 : z.length ≤ 256
  · have HX := Lib.hid (show vDecayParams z r = (true, (List.range z.length).map fun i => cless r (z.getD i 0)) by unfold vDecayParams; rw [if_pos h2])
    rw [HX.out]
    have H2 := Lib.hid (show decide (z.length ≤ 256) = true by simp [h2])
    obtain ⟨n, hn⟩ : ∃ n, z.length = n := ⟨_, rfl⟩
    rw [hn] at H2 HF h2 hmax ⊢
    clear hn HX
    go_enter Try.func24, Try.ntmps24
    go_wp2_with (go_at_call 58; refine (c_l01Few _ _ _ _).mono ?_; rintro e w' ⟨rfl, rfl⟩; rw [H2.out])
    go_loopw [6, 7] (fun s i wr => GrowRel (fun i => cless r (z.getD i 0)) n w.heap.size w s i wr) (fun _ i _ => n - (intOf i).toNat)
    case atStart => exact grow_first (Nat.le_refl _) rfl (Below.refl _ _) (Nat.le_refl _)
    case round =>
      obtain ⟨k, b, cp, ys, hk, rfl, rfl, hy, ho, he, hl⟩ := hrel
      have HY := Lib.hid hy
      have HO := Lib.hid ho
      have HE := Lib.hid he
      have HL := Lib.hid hl
      have hk0 : (0 : Int) ≤ (k : Int) := by omega
      clear hy ho he hl
      by_cases hlt : k < n
      · have hlt' : (k : Int) < (n : Int) := by omega
        rcases HF.out.2.2.2.2 with h' | ⟨ab, off, rfl, hab, hcell⟩
        · omega
        have hx : wr.cell? ⟨ab, off + k, none⟩ = some (.float .f32 (z.getD k 0)) := (HL.out.cell (p := ⟨ab, off + k, none⟩) hab).trans (hcell k hlt)
        obtain ⟨x, hz⟩ : ∃ x, z.getD k 0 = x := ⟨_, rfl⟩
        rw [hz] at hx
        have HC := Lib.hid (show ∀ w1 w2, canon .f32 (fval .sub .f32 x (fval .mul .f32 r x w1) w2) = (fun i => cless r (z.getD i 0)) k by intro w1 w2; rw [canon_fval, canon_fval]; show _ = cless r (z.getD k 0); rw [hz]; rfl)
        clear hcell hz
        have A1 := Lib.hid (show ys.length + 1 ≤ maxLen by have := HY.out; unfold maxLen; omega)
        have A2 := Lib.hid (show (ys.length + 1) * 4 ≤ 140737488355328 by have := HY.out; omega)
        have A3 := Lib.hid HL.out.size
        go_wp2_with fail
        go_region_law (refine step_append_any _ rfl (.tmp 18) (.tmp 30) 30 rfl w.heap.size 22 i0 (.float .f32 0) 1 4 Try.underlying30 HI.out HZ0.out HZ1.out HZ2.out rfl Nat.one_pos (.slice b ys.length cp) ys.length (ys.map (Value.float .f32)) rfl (grow_own HO.out) (wr.heap.size + 1) (some ⟨wr.heap.size, 0, none⟩) 1 1 [.float .f32 _] rfl grow_reads (one_f32 _) A1.out A2.out (grow_base A3.out) ?_; intro v' w' hown hgr hat; obtain ⟨a', c', rfl⟩ := ownsRow_slice hown; have hmade := grow_next (n := n) hlt HO.out (Nat.le_refl _) HL.out HE.out HY.out (fval_lt .sub .f32 _ _ _) (HC.out _ _) hown hgr; have HMD := Lib.hid hmade; clear hown hgr hat hmade)
        all_goals
          go_wp2_with fail
          go_roundw
          case rel => exact HMD.out
          case measure => simp [intOf]; omega
      · obtain rfl : k = n := by omega
        go_wp2_with fail
        go_ret2
        exact ⟨b, cp, ys, rfl, HO.out, HE.out, HL.out⟩
  · have HX := Lib.hid (show vDecayParams z r = (false, []) by unfold vDecayParams; rw [if_neg h2])
    rw [HX.out]
    have H2 := Lib.hid (show decide (z.length ≤ 256) = false by simp [h2])
    clear h2
    go_enter Try.func24, Try.ntmps24
    go_wp2_with (go_at_call 58; refine (c_l01Few _ _ _ _).mono ?_; rintro e w' ⟨rfl, rfl⟩; rw [H2.out])
    go_ret2
    exact ⟨none, 0, [], rfl, nil_own _ _, rfl, Below.refl _ _⟩
theorem c_decay1 (x g r : Nat) (w : World) (h : w.cell? ⟨g, 0, none⟩ = some (.float .f32 r)) : Calls Try.prog 62 #[.float .f32 x, .pointer (some ⟨g, 0, none⟩)] w (RetX (cless r x) w) := by
  go_enter Try.func62, Try.ntmps62
  go_wp2_with (go_at_call 63; refine (c_lessProduct _ _ _ _).mono ?_; rintro e w' ⟨v, m, hv, hl, rfl, rfl⟩; have HV := Lib.hid hv; have HL := Lib.hid hl; clear hv hl)
  go_ret
  exact ⟨v, rfl, HV.out, HL.out, below_drewN (Below.refl _ _) _⟩
set_option maxHeartbeats 1000000 in
theorem t_iDecayParams (z : List Nat) (r : Nat) (a0 : Option Addr) (w : World) (h : IsFloats .f32 w a0 z.length z.length z) (hr : r < 4294967296) : Calls Try.prog 25 #[.slice a0 z.length z.length, .float .f32 r] w (RetL (vDecayParams z r).1 (vDecayParams z r).2 w) := by
  have hmax : z.length ≤ 9223372036854775807 := by have := h.2.1; unfold maxLen at this; exact this
  have B1 := Lib.hid ((Below.refl w.heap.size w).alloc (Nat.le_refl _) (.cells #[.float .f32 r] 22))
  have K1 := Lib.hid (Blk.new w 22 #[.float .f32 r])
  have HF := Lib.hid (h.kept B1.out)
  clear h
  by_cases h2 : z.length ≤ 256
  · have HX := Lib.hid (show vDecayParams z r = (true, (List.range z.length).map fun i => cless r (z.getD i 0)) by unfold vDecayParams; rw [if_pos h2])
    rw [HX.out]
    have h2' : (z.length : Int) ≤ 256 := by omega
    go_enter Try.func25, Try.ntmps25
    go_wp2_with fail
    refine (c_eachOf 62 #[.pointer (some ⟨w.heap.size, 0, none⟩)] (cless r) _ _ _ z _ HF.out h2 (enters_of Try.func62 (by kernel_rfl) (by kernel_rfl)) (fun x wr _ hb => c_decay1 x _ r wr ((K1.out.below hb).cell 0))).mono ?_
    rintro e w' ⟨b, c, ys, rfl, ho, he, hb⟩
    have HO := Lib.hid ho
    have HE := Lib.hid he
    have HB := Lib.hid hb
    clear ho he hb
    go_wp2_with fail
    go_ret2
    exact ⟨b, c, ys, rfl, HO.out.base B1.out.size, HE.out, Below.next B1.out HB.out⟩
  · have HX := Lib.hid (show vDecayParams z r = (false, []) by unfold vDecayParams; rw [if_neg h2])
    rw [HX.out]
    have h2' : (256 : Int) < (z.length : Int) := by omega
    clear h2
    go_enter Try.func25, Try.ntmps25
    go_wp2_with fail
    go_ret2
    exact ⟨none, 0, [], rfl, nil_own _ _, rfl, B1.out⟩
end Go.Proofs.Ytaklcmibpnpffaa
