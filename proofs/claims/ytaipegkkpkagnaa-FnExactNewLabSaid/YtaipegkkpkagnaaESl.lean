/-
  Slots with zeros: the same for the program and for its model. Conditions: the kind is an int64.
-/
import Derived.Test.YtaipegkkpkagnaaSS
import Derived.Test.YtaipegkkpkagnaaVOpt
namespace Go.Proofs.Ytaipegkkpkagnaa
open Go.RowKit Go.Deep Go.WideShapes Go.ChangeShapes Go.Maps
set_option linter.unusedVariables false

def slotsOf (k : Int) : Nat := if k = 0 then 0 else if k = 4 then 2 else 1
theorem slots_le (k : Int) : slotsOf k ≤ 2 := by
  unfold slotsOf
  split
  · omega
  · split <;> omega
def okSlots (k n : Int) : Bool := isKind k && (decide (0 ≤ n) && decide (n ≤ 256))
def vEmptySlots (k n : Int) : Bool × List (List Nat) := if okSlots k n = true then (true, List.replicate (slotsOf k) (List.replicate n.toNat 0)) else (false, [])
theorem vEmpty_no {k n : Int} (h : okSlots k n = false) : vEmptySlots k n = (false, []) := by unfold vEmptySlots; rw [if_neg (by rw [h]; decide)]
theorem vEmpty_yes {k n : Int} (h : okSlots k n = true) : vEmptySlots k n = (true, List.replicate (slotsOf k) (List.replicate n.toNat 0)) := by unfold vEmptySlots; rw [if_pos h]
theorem info_sl : (Try.prog.info? 25).map (fun i => (i.zero, i.size, i.bytes)) = some (some (.slice none 0 0), 1, 24) := by kernel_rfl
def allZero (n : Nat) (ys : List FlA) : Prop := ∀ y ∈ ys, y.z = List.replicate n 0
theorem canon_zeros (n : Nat) : (List.replicate n 0).map (canon .f32) = List.replicate n 0 := by simp [canon_zero]
theorem zeros_end {n S : Nat} {ys : List FlA} (h : allZero n ys) (hl : ys.length = S) : ys.map (fun x => x.z.map (canon .f32)) = List.replicate S (List.replicate n 0) := by
  subst hl
  rw [List.eq_replicate_iff]
  refine ⟨by simp, fun b hb => ?_⟩
  obtain ⟨x, hx, rfl⟩ := List.mem_map.1 hb
  rw [h x hx, canon_zeros]
theorem made_zeros {wr : World} {B g n : Nat} (h : wr.ownsRow B 22 1 (.slice (some ⟨g, 0, none⟩) n n) n (List.replicate n (Value.float .f32 0))) : OwnF wr B (some ⟨g, 0, none⟩) n (List.replicate n 0) :=
  ⟨by simpa using h, fun y hy => by rw [(List.mem_replicate.1 hy).2]; decide⟩
theorem c_l05Slots (g : Nat) (k : Int) (w : World) (h : w.cell? ⟨g, 0, none⟩ = some (.int .i64 k)) : Calls Try.prog 205 #[.pointer (some ⟨g, 0, none⟩)] w fun e w' => e = .returned (.int .i64 ((slotsOf k : Nat) : Int)) ∧ w = w' := by
  by_cases h0 : k = 0
  · have HS := Lib.hid (show slotsOf k = 0 by unfold slotsOf; rw [if_pos h0])
    subst h0
    rw [HS.out]
    go_enter Try.func205, Try.ntmps205
    go_wp2
    go_ret
    exact ⟨rfl, rfl⟩
  · by_cases h4 : k = 4
    · have HS := Lib.hid (show slotsOf k = 2 by unfold slotsOf; rw [if_neg h0, if_pos h4])
      subst h4
      rw [HS.out]
      go_enter Try.func205, Try.ntmps205
      go_wp2
      go_ret
      exact ⟨rfl, rfl⟩
    · have HS := Lib.hid (show slotsOf k = 1 by unfold slotsOf; rw [if_neg h0, if_neg h4])
      rw [HS.out]
      go_enter Try.func205, Try.ntmps205
      go_wp2
      go_ret
      exact ⟨rfl, rfl⟩
def SlMk (n S g0 : Nat) (w : World) (i : Value) (wr : World) : Prop :=
  ∃ (k : Nat) (ys : List FlA), k ≤ S ∧ i = .int .i64 k ∧ ys.length = k ∧ allZero n ys ∧ wr.ownsRow w.heap.size 25 1 (.slice (some ⟨g0, 0, none⟩) S S) S (ys.map FlA.v ++ List.replicate (S - k) (.slice none 0 0)) ∧ OwnL wr (g0 + 1) (ssC ys) ∧ (blL (ssC ys)).Nodup ∧ Below w.heap.size w wr
theorem sm_next {n S k g0 : Nat} {w wr w1 : World} {ys : List FlA} (hk : k < S) (hy : ys.length = k) (hz : allZero n ys) (hr : wr.ownsRow w.heap.size 25 1 (.slice (some ⟨g0, 0, none⟩) S S) S (ys.map FlA.v ++ List.replicate (S - k) (.slice none 0 0))) (ho : OwnL wr (g0 + 1) (ssC ys)) (hnd : (blL (ssC ys)).Nodup) (hl : Below w.heap.size w wr)
    (hb : Below wr.heap.size wr w1) (hm : OwnF w1 wr.heap.size (some ⟨wr.heap.size, 0, none⟩) n (List.replicate n 0)) :
    SlMk n S g0 w (.int .i64 ((k : Int) + 1)) (w1.setCell ⟨g0, k, none⟩ (.slice (some ⟨wr.heap.size, 0, none⟩) n n)) := by
  have hg := hr.lt _ rfl
  have hr1 := ownsRow_in hr (GrownIn.of_below hb []) (fun _ _ h => by cases h)
  obtain ⟨o1, _⟩ := hr1.stored k (.slice (some ⟨wr.heap.size, 0, none⟩) n n)
  refine ⟨k + 1, ys ++ [⟨List.replicate n 0, some ⟨wr.heap.size, 0, none⟩, n⟩], hk, by go_num, by simp [hy], ?_, ?_, ?_, ?_, (hl.trans (hb.mono hl.size)).setCell (p := ⟨g0, k, none⟩) hg.1 _⟩
  · intro y hy'
    rcases List.mem_append.1 hy' with h | h
    · exact hz y h
    · simp only [List.mem_singleton] at h; subst h; rfl
  · have e : (ys.map FlA.v ++ List.replicate (S - k) (Value.slice none 0 0)).set k (.slice (some ⟨wr.heap.size, 0, none⟩) n n) = (ys ++ [(⟨List.replicate n 0, some ⟨wr.heap.size, 0, none⟩, n⟩ : FlA)]).map FlA.v ++ List.replicate (S - (k + 1)) (.slice none 0 0) := by
      rw [List.set_append_right _ _ (by simp [hy]), List.length_map, hy, Nat.sub_self]
      obtain ⟨m, hm'⟩ : ∃ m, S - k = m + 1 := ⟨S - k - 1, by omega⟩
      rw [hm', List.replicate_succ, List.set_cons_zero, show S - (k + 1) = m by omega]
      simp [FlA.v]
    rw [e] at o1
    exact o1
  · have hm2 := (hm.base (show g0 + 1 ≤ wr.heap.size from hg.2)).far (p := ⟨g0, k, none⟩) (show g0 < g0 + 1 by omega) (.slice (some ⟨wr.heap.size, 0, none⟩) n n)
    have ho2 := (OwnL.kept ho hb).far (p := ⟨g0, k, none⟩) (show g0 < g0 + 1 by omega) (.slice (some ⟨wr.heap.size, 0, none⟩) n n)
    rw [ssC_own] at ho2 ⊢
    intro x hx
    rcases List.mem_append.1 hx with h | h
    · exact ho2 x h
    · simp only [List.mem_singleton] at h; subst h; exact hm2
  · rw [ssC_append, blL_append, blL_cl]
    simp only [ssC, List.map_nil, blL, List.append_nil]
    refine List.nodup_append.2 ⟨hnd, by simp [blk], ?_⟩
    intro x hx y hy' e
    simp only [blk, Option.map_some, Option.toList_some, List.mem_singleton] at hy'
    have := (OwnL.lt _ ho x hx).2
    omega
theorem c_cntN (w : World) : Calls Try.prog 238 #[.agg #[]] w fun e w' => e = .returned (.int .i64 ((0 : Nat) : Int)) ∧ Below w.heap.size w w' := by
  go_enter Try.func238, Try.ntmps238
  go_wp2
  go_ret
  exact ⟨rfl, (Below.refl _ _).alloc (Nat.le_refl _) _⟩
theorem c_cntO (w : World) : Calls Try.prog 240 #[.agg #[]] w fun e w' => e = .returned (.int .i64 ((1 : Nat) : Int)) ∧ Below w.heap.size w w' := by
  go_enter Try.func240, Try.ntmps240
  go_wp2
  go_ret
  exact ⟨rfl, (Below.refl _ _).alloc (Nat.le_refl _) _⟩
theorem c_cntT (w : World) : Calls Try.prog 244 #[.agg #[]] w fun e w' => e = .returned (.int .i64 ((2 : Nat) : Int)) ∧ Below w.heap.size w w' := by
  go_enter Try.func244, Try.ntmps244
  go_wp2
  go_ret
  exact ⟨rfl, (Below.refl _ _).alloc (Nat.le_refl _) _⟩
theorem sm_end {N S g0 : Nat} {w wr : World} {ys : List FlA} (hB : w.heap.size ≤ g0) (hy : ys.length = S) (hz : allZero N ys) (hr : wr.ownsRow w.heap.size 25 1 (.slice (some ⟨g0, 0, none⟩) S S) S (ys.map FlA.v ++ List.replicate (S - S) (.slice none 0 0))) (ho : OwnL wr (g0 + 1) (ssC ys)) (hnd : (blL (ssC ys)).Nodup) (hl : Below w.heap.size w wr) :
    RetSS true (List.replicate S (List.replicate N 0)) w (.returned (.tuple #[.slice (some ⟨g0, 0, none⟩) S S, .bool true])) wr := by
  rw [Nat.sub_self, List.replicate_zero, List.append_nil, ← vs_ssC] at hr
  have hz' := zeros_end hz hy
  subst hy
  refine ⟨some ⟨g0, 0, none⟩, ys.length, ys, rfl, ?_, ?_, hz', hl⟩
  · simp only [OwnL, Cl.Own, and_true]
    exact ⟨hr, OwnL.base (by omega) _ ho⟩
  · simp only [blL, Cl.bl, List.append_nil]
    refine List.nodup_append.2 ⟨by simp [blk], hnd, ?_⟩
    intro x hx y hy' e
    simp only [blk, Option.map_some, Option.toList_some, List.mem_singleton] at hx
    have := (OwnL.lt _ ho y hy').1
    omega
theorem meth0 (r b1 b2 ep : Nat) (w : World) : (method 399 230 (.agg #[.int .i64 0, .float .f32 r, .float .f32 b1, .float .f32 b2, .float .f32 ep]) "loop.example/g01157/impl.slotCount").run Try.prog w = .ok (238, .agg #[]) w := by kernel_rfl
set_option maxRecDepth 20000 in
set_option maxHeartbeats 4000000 in
theorem t_iEmpty0 (r b1 b2 ep : Nat) (N S : Nat) (hS : 0 = S) (w : World) (hN : N ≤ 256) :
    Calls Try.prog 137 #[optV 0 r b1 b2 ep, .int .i64 N] w (RetSS true (List.replicate S (List.replicate N 0)) w) := by
  have HC := Lib.hid (show ∀ w, Calls Try.prog 238 #[.agg #[]] w fun e w' => e = .returned (.int .i64 (S : Int)) ∧ Below w.heap.size w w' by intro w; subst hS; exact c_cntN w)
  have hS2 : S ≤ 2 := by omega
  clear hS
  have HS := Lib.hid (fun w => c_stepKindOf 0 r b1 b2 ep w (by decide))
  rw [show kindV 0 (optV 0 r b1 b2 ep) = .iface 230 (optV 0 r b1 b2 ep) from rfl, show isKind 0 = true from rfl] at HS
  unfold optV at HS ⊢
  have B0 := Lib.hid ((Below.refl w.heap.size w).alloc (Nat.le_refl _) (.cells #[.int .i64 0, .float .f32 r, .float .f32 b1, .float .f32 b2, .float .f32 ep] 40))
  have HME := meth0 r b1 b2 ep
  have hN0 : (N : Int) ≤ 256 := by omega
  obtain ⟨i0, hi, hz0, hz1, hz2⟩ := info_parts info_f32
  have HI := Lib.hid hi
  have HZ0 := Lib.hid hz0
  have HZ1 := Lib.hid hz1
  have HZ2 := Lib.hid hz2
  obtain ⟨j0, ji, jz0, jz1, jz2⟩ := info_parts info_sl
  have JI := Lib.hid ji
  have JZ0 := Lib.hid jz0
  have JZ1 := Lib.hid jz1
  have JZ2 := Lib.hid jz2
  clear hi hz0 hz1 hz2 ji jz0 jz1 jz2
  go_enter Try.func137, Try.ntmps137
  go_wp2_with fail
  refine (HS.out _).mono ?_
  rintro e w1 ⟨rfl, hb⟩
  have HB := Lib.hid (Below.next B0.out hb)
  clear hb
  go_wp2_with fail
  refine (HC.out _).mono ?_
  rintro e w2 ⟨rfl, hb⟩
  have HBx := Lib.hid (Below.next HB.out hb)
  clear HME hb HB
  go_wp2_with (at_make; refine wpList_make_full _ rfl _ _ 33 rfl w.heap.size 25 j0 (.slice none 0 0) 1 Try.underlying33 JI.out JZ0.out JZ1.out _ _ _ _ S rfl rfl rfl rfl ?c1 ?c2 ?c3 ?_)
  case c1 => rw [JZ2.out]; omega
  case c2 => unfold maxLen; omega
  case c3 => exact HBx.out.size
  intro w3 hown hgrow
  have hb3 : Below w2.heap.size w2 w3 := (Below.refl _ _).grown hgrow (Nat.le_refl _) (fun k h => by cases h)
  rw [toList_madeCells_one] at hown
  have HR := Lib.hid hown
  have HB3 := Lib.hid (Below.next HBx.out hb3)
  have HG := Lib.hid HBx.out.size
  obtain ⟨g0, hg0⟩ : ∃ g0, w2.heap.size = g0 := ⟨_, rfl⟩
  rw [hg0] at HR HG ⊢
  clear hown hb3 hgrow hg0
  go_wp2_with fail
  go_loopw [30] (fun i wr => SlMk N S g0 w i wr) (fun i _ => S - (intOf i).toNat)
  case atStart => exact ⟨0, [], Nat.zero_le _, rfl, rfl, (fun _ h => by cases h), by simpa using HR.out, by simp [ssC, OwnL], by simp [ssC, blL], HB3.out⟩
  case round =>
    obtain ⟨k, ys, hk, rfl, hy, hz, hr, ho, hnd, hl⟩ := hrel
    have HY := Lib.hid hy
    have HZ := Lib.hid hz
    have HRW := Lib.hid hr
    have HO := Lib.hid ho
    have HND := Lib.hid hnd
    have HL := Lib.hid hl
    have hk0 : (0 : Int) ≤ (k : Int) := by omega
    clear hy hz hr ho hnd hl
    by_cases hlt : k < S
    · have hlt' : (k : Int) < (S : Int) := by omega
      go_wp2_with (at_make; refine wpList_make_full _ rfl _ _ 25 rfl wr.heap.size 22 i0 (.float .f32 0) 1 Try.underlying25 HI.out HZ0.out HZ1.out _ _ _ _ N rfl rfl rfl rfl ?d1 ?d2 ?d3 ?_)
      case d1 => rw [HZ2.out]; omega
      case d2 => unfold maxLen; omega
      case d3 => exact Nat.le_refl _
      intro w4 hown hgrow
      have hb4 : Below wr.heap.size wr w4 := (Below.refl _ _).grown hgrow (Nat.le_refl _) (fun k h => by cases h)
      rw [toList_madeCells_one] at hown
      have HM := Lib.hid (made_zeros hown)
      have HB4 := Lib.hid hb4
      have hr4 := ownsRow_in HRW.out (GrownIn.of_below hb4 []) (fun _ _ h => by cases h)
      have hfz := hr4.frozenAt k
      obtain ⟨v0, hv0⟩ : ∃ v, w4.cell? ⟨g0, k, none⟩ = some v := by
        rw [hr4.cellAt k (by omega)]
        exact ⟨_, List.getElem?_eq_getElem (by rw [hr4.1]; omega)⟩
      clear hown hb4 hgrow hr4
      go_wp2_with fail
      go_roundw
      case rel => exact sm_next hlt HY.out HZ.out HRW.out HO.out HND.out HL.out HB4.out HM.out
      case measure => simp [intOf]; omega
    · obtain rfl : k = S := by omega
      go_wp2_with fail
      go_ret2
      exact sm_end HG.out HY.out HZ.out HRW.out HO.out HND.out HL.out
theorem meth1 (r b1 b2 ep : Nat) (w : World) : (method 399 233 (.agg #[.int .i64 1, .float .f32 r, .float .f32 b1, .float .f32 b2, .float .f32 ep]) "loop.example/g01157/impl.slotCount").run Try.prog w = .ok (240, .agg #[]) w := by kernel_rfl
set_option maxRecDepth 20000 in
set_option maxHeartbeats 4000000 in
theorem t_iEmpty1 (r b1 b2 ep : Nat) (N S : Nat) (hS : 1 = S) (w : World) (hN : N ≤ 256) :
    Calls Try.prog 137 #[optV 1 r b1 b2 ep, .int .i64 N] w (RetSS true (List.replicate S (List.replicate N 0)) w) := by
  have HC := Lib.hid (show ∀ w, Calls Try.prog 240 #[.agg #[]] w fun e w' => e = .returned (.int .i64 (S : Int)) ∧ Below w.heap.size w w' by intro w; subst hS; exact c_cntO w)
  have hS2 : S ≤ 2 := by omega
  clear hS
  have HS := Lib.hid (fun w => c_stepKindOf 1 r b1 b2 ep w (by decide))
  rw [show kindV 1 (optV 1 r b1 b2 ep) = .iface 233 (optV 1 r b1 b2 ep) from rfl, show isKind 1 = true from rfl] at HS
  unfold optV at HS ⊢
  have B0 := Lib.hid ((Below.refl w.heap.size w).alloc (Nat.le_refl _) (.cells #[.int .i64 1, .float .f32 r, .float .f32 b1, .float .f32 b2, .float .f32 ep] 40))
  have HME := meth1 r b1 b2 ep
  have hN0 : (N : Int) ≤ 256 := by omega
  obtain ⟨i0, hi, hz0, hz1, hz2⟩ := info_parts info_f32
  have HI := Lib.hid hi
  have HZ0 := Lib.hid hz0
  have HZ1 := Lib.hid hz1
  have HZ2 := Lib.hid hz2
  obtain ⟨j0, ji, jz0, jz1, jz2⟩ := info_parts info_sl
  have JI := Lib.hid ji
  have JZ0 := Lib.hid jz0
  have JZ1 := Lib.hid jz1
  have JZ2 := Lib.hid jz2
  clear hi hz0 hz1 hz2 ji jz0 jz1 jz2
  go_enter Try.func137, Try.ntmps137
  go_wp2_with fail
  refine (HS.out _).mono ?_
  rintro e w1 ⟨rfl, hb⟩
  have HB := Lib.hid (Below.next B0.out hb)
  clear hb
  go_wp2_with fail
  refine (HC.out _).mono ?_
  rintro e w2 ⟨rfl, hb⟩
  have HBx := Lib.hid (Below.next HB.out hb)
  clear HME hb HB
  go_wp2_with (at_make; refine wpList_make_full _ rfl _ _ 33 rfl w.heap.size 25 j0 (.slice none 0 0) 1 Try.underlying33 JI.out JZ0.out JZ1.out _ _ _ _ S rfl rfl rfl rfl ?c1 ?c2 ?c3 ?_)
  case c1 => rw [JZ2.out]; omega
  case c2 => unfold maxLen; omega
  case c3 => exact HBx.out.size
  intro w3 hown hgrow
  have hb3 : Below w2.heap.size w2 w3 := (Below.refl _ _).grown hgrow (Nat.le_refl _) (fun k h => by cases h)
  rw [toList_madeCells_one] at hown
  have HR := Lib.hid hown
  have HB3 := Lib.hid (Below.next HBx.out hb3)
  have HG := Lib.hid HBx.out.size
  obtain ⟨g0, hg0⟩ : ∃ g0, w2.heap.size = g0 := ⟨_, rfl⟩
  rw [hg0] at HR HG ⊢
  clear hown hb3 hgrow hg0
  go_wp2_with fail
  go_loopw [30] (fun i wr => SlMk N S g0 w i wr) (fun i _ => S - (intOf i).toNat)
  case atStart => exact ⟨0, [], Nat.zero_le _, rfl, rfl, (fun _ h => by cases h), by simpa using HR.out, by simp [ssC, OwnL], by simp [ssC, blL], HB3.out⟩
  case round =>
    obtain ⟨k, ys, hk, rfl, hy, hz, hr, ho, hnd, hl⟩ := hrel
    have HY := Lib.hid hy
    have HZ := Lib.hid hz
    have HRW := Lib.hid hr
    have HO := Lib.hid ho
    have HND := Lib.hid hnd
    have HL := Lib.hid hl
    have hk0 : (0 : Int) ≤ (k : Int) := by omega
    clear hy hz hr ho hnd hl
    by_cases hlt : k < S
    · have hlt' : (k : Int) < (S : Int) := by omega
      go_wp2_with (at_make; refine wpList_make_full _ rfl _ _ 25 rfl wr.heap.size 22 i0 (.float .f32 0) 1 Try.underlying25 HI.out HZ0.out HZ1.out _ _ _ _ N rfl rfl rfl rfl ?d1 ?d2 ?d3 ?_)
      case d1 => rw [HZ2.out]; omega
      case d2 => unfold maxLen; omega
      case d3 => exact Nat.le_refl _
      intro w4 hown hgrow
      have hb4 : Below wr.heap.size wr w4 := (Below.refl _ _).grown hgrow (Nat.le_refl _) (fun k h => by cases h)
      rw [toList_madeCells_one] at hown
      have HM := Lib.hid (made_zeros hown)
      have HB4 := Lib.hid hb4
      have hr4 := ownsRow_in HRW.out (GrownIn.of_below hb4 []) (fun _ _ h => by cases h)
      have hfz := hr4.frozenAt k
      obtain ⟨v0, hv0⟩ : ∃ v, w4.cell? ⟨g0, k, none⟩ = some v := by
        rw [hr4.cellAt k (by omega)]
        exact ⟨_, List.getElem?_eq_getElem (by rw [hr4.1]; omega)⟩
      clear hown hb4 hgrow hr4
      go_wp2_with fail
      go_roundw
      case rel => exact sm_next hlt HY.out HZ.out HRW.out HO.out HND.out HL.out HB4.out HM.out
      case measure => simp [intOf]; omega
    · obtain rfl : k = S := by omega
      go_wp2_with fail
      go_ret2
      exact sm_end HG.out HY.out HZ.out HRW.out HO.out HND.out HL.out
theorem meth2 (r b1 b2 ep : Nat) (w : World) : (method 399 234 (.agg #[.int .i64 2, .float .f32 r, .float .f32 b1, .float .f32 b2, .float .f32 ep]) "loop.example/g01157/impl.slotCount").run Try.prog w = .ok (240, .agg #[]) w := by kernel_rfl
set_option maxRecDepth 20000 in
set_option maxHeartbeats 4000000 in
theorem t_iEmpty2 (r b1 b2 ep : Nat) (N S : Nat) (hS : 1 = S) (w : World) (hN : N ≤ 256) :
    Calls Try.prog 137 #[optV 2 r b1 b2 ep, .int .i64 N] w (RetSS true (List.replicate S (List.replicate N 0)) w) := by
  have HC := Lib.hid (show ∀ w, Calls Try.prog 240 #[.agg #[]] w fun e w' => e = .returned (.int .i64 (S : Int)) ∧ Below w.heap.size w w' by intro w; subst hS; exact c_cntO w)
  have hS2 : S ≤ 2 := by omega
  clear hS
  have HS := Lib.hid (fun w => c_stepKindOf 2 r b1 b2 ep w (by decide))
  rw [show kindV 2 (optV 2 r b1 b2 ep) = .iface 234 (optV 2 r b1 b2 ep) from rfl, show isKind 2 = true from rfl] at HS
  unfold optV at HS ⊢
  have B0 := Lib.hid ((Below.refl w.heap.size w).alloc (Nat.le_refl _) (.cells #[.int .i64 2, .float .f32 r, .float .f32 b1, .float .f32 b2, .float .f32 ep] 40))
  have HME := meth2 r b1 b2 ep
  have hN0 : (N : Int) ≤ 256 := by omega
  obtain ⟨i0, hi, hz0, hz1, hz2⟩ := info_parts info_f32
  have HI := Lib.hid hi
  have HZ0 := Lib.hid hz0
  have HZ1 := Lib.hid hz1
  have HZ2 := Lib.hid hz2
  obtain ⟨j0, ji, jz0, jz1, jz2⟩ := info_parts info_sl
  have JI := Lib.hid ji
  have JZ0 := Lib.hid jz0
  have JZ1 := Lib.hid jz1
  have JZ2 := Lib.hid jz2
  clear hi hz0 hz1 hz2 ji jz0 jz1 jz2
  go_enter Try.func137, Try.ntmps137
  go_wp2_with fail
  refine (HS.out _).mono ?_
  rintro e w1 ⟨rfl, hb⟩
  have HB := Lib.hid (Below.next B0.out hb)
  clear hb
  go_wp2_with fail
  refine (HC.out _).mono ?_
  rintro e w2 ⟨rfl, hb⟩
  have HBx := Lib.hid (Below.next HB.out hb)
  clear HME hb HB
  go_wp2_with (at_make; refine wpList_make_full _ rfl _ _ 33 rfl w.heap.size 25 j0 (.slice none 0 0) 1 Try.underlying33 JI.out JZ0.out JZ1.out _ _ _ _ S rfl rfl rfl rfl ?c1 ?c2 ?c3 ?_)
  case c1 => rw [JZ2.out]; omega
  case c2 => unfold maxLen; omega
  case c3 => exact HBx.out.size
  intro w3 hown hgrow
  have hb3 : Below w2.heap.size w2 w3 := (Below.refl _ _).grown hgrow (Nat.le_refl _) (fun k h => by cases h)
  rw [toList_madeCells_one] at hown
  have HR := Lib.hid hown
  have HB3 := Lib.hid (Below.next HBx.out hb3)
  have HG := Lib.hid HBx.out.size
  obtain ⟨g0, hg0⟩ : ∃ g0, w2.heap.size = g0 := ⟨_, rfl⟩
  rw [hg0] at HR HG ⊢
  clear hown hb3 hgrow hg0
  go_wp2_with fail
  go_loopw [30] (fun i wr => SlMk N S g0 w i wr) (fun i _ => S - (intOf i).toNat)
  case atStart => exact ⟨0, [], Nat.zero_le _, rfl, rfl, (fun _ h => by cases h), by simpa using HR.out, by simp [ssC, OwnL], by simp [ssC, blL], HB3.out⟩
  case round =>
    obtain ⟨k, ys, hk, rfl, hy, hz, hr, ho, hnd, hl⟩ := hrel
    have HY := Lib.hid hy
    have HZ := Lib.hid hz
    have HRW := Lib.hid hr
    have HO := Lib.hid ho
    have HND := Lib.hid hnd
    have HL := Lib.hid hl
    have hk0 : (0 : Int) ≤ (k : Int) := by omega
    clear hy hz hr ho hnd hl
    by_cases hlt : k < S
    · have hlt' : (k : Int) < (S : Int) := by omega
      go_wp2_with (at_make; refine wpList_make_full _ rfl _ _ 25 rfl wr.heap.size 22 i0 (.float .f32 0) 1 Try.underlying25 HI.out HZ0.out HZ1.out _ _ _ _ N rfl rfl rfl rfl ?d1 ?d2 ?d3 ?_)
      case d1 => rw [HZ2.out]; omega
      case d2 => unfold maxLen; omega
      case d3 => exact Nat.le_refl _
      intro w4 hown hgrow
      have hb4 : Below wr.heap.size wr w4 := (Below.refl _ _).grown hgrow (Nat.le_refl _) (fun k h => by cases h)
      rw [toList_madeCells_one] at hown
      have HM := Lib.hid (made_zeros hown)
      have HB4 := Lib.hid hb4
      have hr4 := ownsRow_in HRW.out (GrownIn.of_below hb4 []) (fun _ _ h => by cases h)
      have hfz := hr4.frozenAt k
      obtain ⟨v0, hv0⟩ : ∃ v, w4.cell? ⟨g0, k, none⟩ = some v := by
        rw [hr4.cellAt k (by omega)]
        exact ⟨_, List.getElem?_eq_getElem (by rw [hr4.1]; omega)⟩
      clear hown hb4 hgrow hr4
      go_wp2_with fail
      go_roundw
      case rel => exact sm_next hlt HY.out HZ.out HRW.out HO.out HND.out HL.out HB4.out HM.out
      case measure => simp [intOf]; omega
    · obtain rfl : k = S := by omega
      go_wp2_with fail
      go_ret2
      exact sm_end HG.out HY.out HZ.out HRW.out HO.out HND.out HL.out
theorem meth3 (r b1 b2 ep : Nat) (w : World) : (method 399 235 (.agg #[.int .i64 3, .float .f32 r, .float .f32 b1, .float .f32 b2, .float .f32 ep]) "loop.example/g01157/impl.slotCount").run Try.prog w = .ok (240, .agg #[]) w := by kernel_rfl
set_option maxRecDepth 20000 in
set_option maxHeartbeats 4000000 in
theorem t_iEmpty3 (r b1 b2 ep : Nat) (N S : Nat) (hS : 1 = S) (w : World) (hN : N ≤ 256) :
    Calls Try.prog 137 #[optV 3 r b1 b2 ep, .int .i64 N] w (RetSS true (List.replicate S (List.replicate N 0)) w) := by
  have HC := Lib.hid (show ∀ w, Calls Try.prog 240 #[.agg #[]] w fun e w' => e = .returned (.int .i64 (S : Int)) ∧ Below w.heap.size w w' by intro w; subst hS; exact c_cntO w)
  have hS2 : S ≤ 2 := by omega
  clear hS
  have HS := Lib.hid (fun w => c_stepKindOf 3 r b1 b2 ep w (by decide))
  rw [show kindV 3 (optV 3 r b1 b2 ep) = .iface 235 (optV 3 r b1 b2 ep) from rfl, show isKind 3 = true from rfl] at HS
  unfold optV at HS ⊢
  have B0 := Lib.hid ((Below.refl w.heap.size w).alloc (Nat.le_refl _) (.cells #[.int .i64 3, .float .f32 r, .float .f32 b1, .float .f32 b2, .float .f32 ep] 40))
  have HME := meth3 r b1 b2 ep
  have hN0 : (N : Int) ≤ 256 := by omega
  obtain ⟨i0, hi, hz0, hz1, hz2⟩ := info_parts info_f32
  have HI := Lib.hid hi
  have HZ0 := Lib.hid hz0
  have HZ1 := Lib.hid hz1
  have HZ2 := Lib.hid hz2
  obtain ⟨j0, ji, jz0, jz1, jz2⟩ := info_parts info_sl
  have JI := Lib.hid ji
  have JZ0 := Lib.hid jz0
  have JZ1 := Lib.hid jz1
  have JZ2 := Lib.hid jz2
  clear hi hz0 hz1 hz2 ji jz0 jz1 jz2
  go_enter Try.func137, Try.ntmps137
  go_wp2_with fail
  refine (HS.out _).mono ?_
  rintro e w1 ⟨rfl, hb⟩
  have HB := Lib.hid (Below.next B0.out hb)
  clear hb
  go_wp2_with fail
  refine (HC.out _).mono ?_
  rintro e w2 ⟨rfl, hb⟩
  have HBx := Lib.hid (Below.next HB.out hb)
  clear HME hb HB
  go_wp2_with (at_make; refine wpList_make_full _ rfl _ _ 33 rfl w.heap.size 25 j0 (.slice none 0 0) 1 Try.underlying33 JI.out JZ0.out JZ1.out _ _ _ _ S rfl rfl rfl rfl ?c1 ?c2 ?c3 ?_)
  case c1 => rw [JZ2.out]; omega
  case c2 => unfold maxLen; omega
  case c3 => exact HBx.out.size
  intro w3 hown hgrow
  have hb3 : Below w2.heap.size w2 w3 := (Below.refl _ _).grown hgrow (Nat.le_refl _) (fun k h => by cases h)
  rw [toList_madeCells_one] at hown
  have HR := Lib.hid hown
  have HB3 := Lib.hid (Below.next HBx.out hb3)
  have HG := Lib.hid HBx.out.size
  obtain ⟨g0, hg0⟩ : ∃ g0, w2.heap.size = g0 := ⟨_, rfl⟩
  rw [hg0] at HR HG ⊢
  clear hown hb3 hgrow hg0
  go_wp2_with fail
  go_loopw [30] (fun i wr => SlMk N S g0 w i wr) (fun i _ => S - (intOf i).toNat)
  case atStart => exact ⟨0, [], Nat.zero_le _, rfl, rfl, (fun _ h => by cases h), by simpa using HR.out, by simp [ssC, OwnL], by simp [ssC, blL], HB3.out⟩
  case round =>
    obtain ⟨k, ys, hk, rfl, hy, hz, hr, ho, hnd, hl⟩ := hrel
    have HY := Lib.hid hy
    have HZ := Lib.hid hz
    have HRW := Lib.hid hr
    have HO := Lib.hid ho
    have HND := Lib.hid hnd
    have HL := Lib.hid hl
    have hk0 : (0 : Int) ≤ (k : Int) := by omega
    clear hy hz hr ho hnd hl
    by_cases hlt : k < S
    · have hlt' : (k : Int) < (S : Int) := by omega
      go_wp2_with (at_make; refine wpList_make_full _ rfl _ _ 25 rfl wr.heap.size 22 i0 (.float .f32 0) 1 Try.underlying25 HI.out HZ0.out HZ1.out _ _ _ _ N rfl rfl rfl rfl ?d1 ?d2 ?d3 ?_)
      case d1 => rw [HZ2.out]; omega
      case d2 => unfold maxLen; omega
      case d3 => exact Nat.le_refl _
      intro w4 hown hgrow
      have hb4 : Below wr.heap.size wr w4 := (Below.refl _ _).grown hgrow (Nat.le_refl _) (fun k h => by cases h)
      rw [toList_madeCells_one] at hown
      have HM := Lib.hid (made_zeros hown)
      have HB4 := Lib.hid hb4
      have hr4 := ownsRow_in HRW.out (GrownIn.of_below hb4 []) (fun _ _ h => by cases h)
      have hfz := hr4.frozenAt k
      obtain ⟨v0, hv0⟩ : ∃ v, w4.cell? ⟨g0, k, none⟩ = some v := by
        rw [hr4.cellAt k (by omega)]
        exact ⟨_, List.getElem?_eq_getElem (by rw [hr4.1]; omega)⟩
      clear hown hb4 hgrow hr4
      go_wp2_with fail
      go_roundw
      case rel => exact sm_next hlt HY.out HZ.out HRW.out HO.out HND.out HL.out HB4.out HM.out
      case measure => simp [intOf]; omega
    · obtain rfl : k = S := by omega
      go_wp2_with fail
      go_ret2
      exact sm_end HG.out HY.out HZ.out HRW.out HO.out HND.out HL.out
theorem meth4 (r b1 b2 ep : Nat) (w : World) : (method 399 238 (.agg #[.int .i64 4, .float .f32 r, .float .f32 b1, .float .f32 b2, .float .f32 ep]) "loop.example/g01157/impl.slotCount").run Try.prog w = .ok (244, .agg #[]) w := by kernel_rfl
set_option maxRecDepth 20000 in
set_option maxHeartbeats 4000000 in
theorem t_iEmpty4 (r b1 b2 ep : Nat) (N S : Nat) (hS : 2 = S) (w : World) (hN : N ≤ 256) :
    Calls Try.prog 137 #[optV 4 r b1 b2 ep, .int .i64 N] w (RetSS true (List.replicate S (List.replicate N 0)) w) := by
  have HC := Lib.hid (show ∀ w, Calls Try.prog 244 #[.agg #[]] w fun e w' => e = .returned (.int .i64 (S : Int)) ∧ Below w.heap.size w w' by intro w; subst hS; exact c_cntT w)
  have hS2 : S ≤ 2 := by omega
  clear hS
  have HS := Lib.hid (fun w => c_stepKindOf 4 r b1 b2 ep w (by decide))
  rw [show kindV 4 (optV 4 r b1 b2 ep) = .iface 238 (optV 4 r b1 b2 ep) from rfl, show isKind 4 = true from rfl] at HS
  unfold optV at HS ⊢
  have B0 := Lib.hid ((Below.refl w.heap.size w).alloc (Nat.le_refl _) (.cells #[.int .i64 4, .float .f32 r, .float .f32 b1, .float .f32 b2, .float .f32 ep] 40))
  have HME := meth4 r b1 b2 ep
  have hN0 : (N : Int) ≤ 256 := by omega
  obtain ⟨i0, hi, hz0, hz1, hz2⟩ := info_parts info_f32
  have HI := Lib.hid hi
  have HZ0 := Lib.hid hz0
  have HZ1 := Lib.hid hz1
  have HZ2 := Lib.hid hz2
  obtain ⟨j0, ji, jz0, jz1, jz2⟩ := info_parts info_sl
  have JI := Lib.hid ji
  have JZ0 := Lib.hid jz0
  have JZ1 := Lib.hid jz1
  have JZ2 := Lib.hid jz2
  clear hi hz0 hz1 hz2 ji jz0 jz1 jz2
  go_enter Try.func137, Try.ntmps137
  go_wp2_with fail
  refine (HS.out _).mono ?_
  rintro e w1 ⟨rfl, hb⟩
  have HB := Lib.hid (Below.next B0.out hb)
  clear hb
  go_wp2_with fail
  refine (HC.out _).mono ?_
  rintro e w2 ⟨rfl, hb⟩
  have HBx := Lib.hid (Below.next HB.out hb)
  clear HME hb HB
  go_wp2_with (at_make; refine wpList_make_full _ rfl _ _ 33 rfl w.heap.size 25 j0 (.slice none 0 0) 1 Try.underlying33 JI.out JZ0.out JZ1.out _ _ _ _ S rfl rfl rfl rfl ?c1 ?c2 ?c3 ?_)
  case c1 => rw [JZ2.out]; omega
  case c2 => unfold maxLen; omega
  case c3 => exact HBx.out.size
  intro w3 hown hgrow
  have hb3 : Below w2.heap.size w2 w3 := (Below.refl _ _).grown hgrow (Nat.le_refl _) (fun k h => by cases h)
  rw [toList_madeCells_one] at hown
  have HR := Lib.hid hown
  have HB3 := Lib.hid (Below.next HBx.out hb3)
  have HG := Lib.hid HBx.out.size
  obtain ⟨g0, hg0⟩ : ∃ g0, w2.heap.size = g0 := ⟨_, rfl⟩
  rw [hg0] at HR HG ⊢
  clear hown hb3 hgrow hg0
  go_wp2_with fail
  go_loopw [30] (fun i wr => SlMk N S g0 w i wr) (fun i _ => S - (intOf i).toNat)
  case atStart => exact ⟨0, [], Nat.zero_le _, rfl, rfl, (fun _ h => by cases h), by simpa using HR.out, by simp [ssC, OwnL], by simp [ssC, blL], HB3.out⟩
  case round =>
    obtain ⟨k, ys, hk, rfl, hy, hz, hr, ho, hnd, hl⟩ := hrel
    have HY := Lib.hid hy
    have HZ := Lib.hid hz
    have HRW := Lib.hid hr
    have HO := Lib.hid ho
    have HND := Lib.hid hnd
    have HL := Lib.hid hl
    have hk0 : (0 : Int) ≤ (k : Int) := by omega
    clear hy hz hr ho hnd hl
    by_cases hlt : k < S
    · have hlt' : (k : Int) < (S : Int) := by omega
      go_wp2_with (at_make; refine wpList_make_full _ rfl _ _ 25 rfl wr.heap.size 22 i0 (.float .f32 0) 1 Try.underlying25 HI.out HZ0.out HZ1.out _ _ _ _ N rfl rfl rfl rfl ?d1 ?d2 ?d3 ?_)
      case d1 => rw [HZ2.out]; omega
      case d2 => unfold maxLen; omega
      case d3 => exact Nat.le_refl _
      intro w4 hown hgrow
      have hb4 : Below wr.heap.size wr w4 := (Below.refl _ _).grown hgrow (Nat.le_refl _) (fun k h => by cases h)
      rw [toList_madeCells_one] at hown
      have HM := Lib.hid (made_zeros hown)
      have HB4 := Lib.hid hb4
      have hr4 := ownsRow_in HRW.out (GrownIn.of_below hb4 []) (fun _ _ h => by cases h)
      have hfz := hr4.frozenAt k
      obtain ⟨v0, hv0⟩ : ∃ v, w4.cell? ⟨g0, k, none⟩ = some v := by
        rw [hr4.cellAt k (by omega)]
        exact ⟨_, List.getElem?_eq_getElem (by rw [hr4.1]; omega)⟩
      clear hown hb4 hgrow hr4
      go_wp2_with fail
      go_roundw
      case rel => exact sm_next hlt HY.out HZ.out HRW.out HO.out HND.out HL.out HB4.out HM.out
      case measure => simp [intOf]; omega
    · obtain rfl : k = S := by omega
      go_wp2_with fail
      go_ret2
      exact sm_end HG.out HY.out HZ.out HRW.out HO.out HND.out HL.out
theorem t_iEmptySlots (k : Int) (r b1 b2 ep : Nat) (n : Int) (w : World) (hk : (Lit.int .i64 k).wf = true) : Calls Try.prog 137 #[optV k r b1 b2 ep, .int .i64 n] w (RetSS (vEmptySlots k n).1 (vEmptySlots k n).2 w) := by
  cases hok : okSlots k n with
  | true =>
    rw [vEmpty_yes hok]
    rw [okSlots, Bool.and_eq_true] at hok
    obtain ⟨h1, h2⟩ := hok
    simp only [Bool.and_eq_true, decide_eq_true_eq] at h2
    simp only [isKind, Bool.and_eq_true, decide_eq_true_eq] at h1
    obtain ⟨N, rfl⟩ : ∃ N : Nat, n = N := ⟨n.toNat, by omega⟩
    have hN : N ≤ 256 := by omega
    rw [Int.toNat_natCast]
    have h5 : k = 0 ∨ k = 1 ∨ k = 2 ∨ k = 3 ∨ k = 4 := by omega
    rcases h5 with rfl | rfl | rfl | rfl | rfl
    · exact t_iEmpty0 r b1 b2 ep N _ rfl w hN
    · exact t_iEmpty1 r b1 b2 ep N _ rfl w hN
    · exact t_iEmpty2 r b1 b2 ep N _ rfl w hN
    · exact t_iEmpty3 r b1 b2 ep N _ rfl w hN
    · exact t_iEmpty4 r b1 b2 ep N _ rfl w hN
  | false =>
    rw [vEmpty_no hok]
    have HS := Lib.hid (fun w => c_stepKindOf k r b1 b2 ep w hk)
    obtain ⟨u, hu⟩ : ∃ u, kindV k (optV k r b1 b2 ep) = u := ⟨_, rfl⟩
    rw [hu] at HS
    clear hu
    unfold optV at HS ⊢
    have B0 := Lib.hid ((Below.refl w.heap.size w).alloc (Nat.le_refl _) (.cells #[.int .i64 k, .float .f32 r, .float .f32 b1, .float .f32 b2, .float .f32 ep] 40))
    cases h1 : isKind k with
    | false =>
      rw [h1] at HS
      clear hok h1 hk
      go_enter Try.func137, Try.ntmps137
      go_wp2_with fail
      refine (HS.out _).mono ?_
      rintro e w1 ⟨rfl, hb⟩
      have HB := Lib.hid (Below.next B0.out hb)
      clear hb
      go_wp2_with fail
      go_ret2
      exact retSS_no HB.out
    | true =>
      rw [h1] at HS
      have hin : n < 0 ∨ 256 < n := by
        rw [okSlots, h1, Bool.true_and, Bool.and_eq_false_iff, decide_eq_false_iff_not, decide_eq_false_iff_not] at hok
        omega
      clear hok h1 hk
      rcases hin with h2 | h2
      · have h3 : n ≤ -1 := by omega
        clear h2
        go_enter Try.func137, Try.ntmps137
        go_wp2_with fail
        refine (HS.out _).mono ?_
        rintro e w1 ⟨rfl, hb⟩
        have HB := Lib.hid (Below.next B0.out hb)
        clear hb
        go_wp2_with fail
        go_ret2
        exact retSS_no HB.out
      · have h3 : 257 ≤ n := by omega
        clear h2
        go_enter Try.func137, Try.ntmps137
        go_wp2_with fail
        refine (HS.out _).mono ?_
        rintro e w1 ⟨rfl, hb⟩
        have HB := Lib.hid (Below.next B0.out hb)
        clear hb
        go_wp2_with fail
        go_ret2
        exact retSS_no HB.out
theorem cnt_of {ys : List FlA} {zs : List (List Nat)} (h : ys.map (fun x => x.z.map (canon .f32)) = zs) : cntSS ys = ssN zs := by
  subst h
  simp [cntSS, ssN, List.map_map, Function.comp_def]
theorem ssN_vEmpty (k n : Int) : ssN (vEmptySlots k n).2 ≤ 512 := by
  cases hok : okSlots k n with
  | false => rw [vEmpty_no hok]; simp [ssN]
  | true =>
    rw [vEmpty_yes hok]
    rw [okSlots, Bool.and_eq_true] at hok
    obtain ⟨_, h2⟩ := hok
    simp only [Bool.and_eq_true, decide_eq_true_eq] at h2
    have hs := slots_le k
    have hn : n.toNat ≤ 256 := by omega
    have h3 : slotsOf k = 0 ∨ slotsOf k = 1 ∨ slotsOf k = 2 := by omega
    rcases h3 with h | h | h <;> rw [h] <;> simp [ssN, List.replicate] <;> omega
theorem len_vEmpty (k n : Int) : (vEmptySlots k n).2.length ≤ 2 := by
  cases hok : okSlots k n with
  | false => rw [vEmpty_no hok]; simp
  | true => rw [vEmpty_yes hok]; simpa using slots_le k
theorem c_eqSS' (g g' : Option Addr) (c c' B B' : Nat) (ys xs : List FlA) (w : World) (h : OwnL w B [.sl 25 1 ys.length g c (ssC ys)]) (h' : OwnL w B' [.sl 25 1 xs.length g' c' (ssC xs)]) (hp : ys.map (fun x => x.z.map (canon .f32)) = xs.map (fun x => x.z.map (canon .f32))) :
    Calls Try.prog 135 #[.slice g ys.length c, .slice g' xs.length c'] w fun e w' => e = .returned (.bool true) ∧ Below w.heap.size w w' := by
  have hl : ys.length = xs.length := by have := congrArg List.length hp; simpa using this
  have h1 := ssAt_own h
  have h2 := ssAt_own h'
  rw [← hl] at h2 ⊢
  exact c_eqSS g g' c c' ys.length ys xs w h1 h2 hp
theorem ssAt_mk {w : World} {B : Nat} {t : TypeId} {g : Option Addr} {c n k : Nat} {ys : List FlA} (hn : ys.length = n) (h : OwnL w B [.sl t 1 n g c (ssC (mkSS k ys))]) : SSAt w g n c (mkSS k ys) := by
  subst hn
  have h2 := h
  rw [← mkSS_length k ys] at h2
  have h3 := ssAt_own h2
  rw [mkSS_length] at h3
  exact h3
end Go.Proofs.Ytaipegkkpkagnaa
