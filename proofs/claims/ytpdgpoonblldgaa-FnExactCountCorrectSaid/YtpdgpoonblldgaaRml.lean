/-
  What the model makes of numbers with a layer, and RunLayer, as the model answers. Conditions: the numbers can be read.
-/
import Derived.Test.YtpdgpoonblldgaaRsm
import Derived.Test.YtpdgpoonblldgaaRni
namespace Go.Proofs.Ytpdgpoonblldgaa
open Go.RowKit Go.Deep Go.WideShapes Go.ChangeShapes
set_option linter.unusedVariables false
set_option linter.unusedSimpArgs false

theorem c_l03ReluL (x : Nat) (hx : x < 4294967296) (w : World) : Calls Try.prog 148 #[.float .f32 x] w (RetF .f32 (creluL x) w) := by
  have hself := order_self_ne .f32 x
  cases hn : isNan .f32 x with
  | true =>
    rw [hn] at hself
    have ho : (FloatKind.f32.format.order x 0 == some .gt) = false := by rw [order_isNan_l _ hn]; rfl
    have hc := Lib.hid (creluL_keep (x := x) (by rw [order_isNan_l _ hn]; rfl))
    clear hn
    go_enter Try.func148, Try.ntmps148
    go_wp2
    go_ret
    exact ⟨x, 0, hc.out, hx, rfl, rfl⟩
  | false =>
    rw [hn] at hself
    have hor := order_zero hx hn
    by_cases hgt : (FloatKind.f32.format.order x 0 == some .gt) = true
    · have hc := Lib.hid (creluL_keep (x := x) (by have e : FloatKind.f32.format.order x 0 = some .gt := (by simpa using hgt); rw [e]; rfl))
      clear hn hor
      go_enter Try.func148, Try.ntmps148
      go_wp2
      go_ret
      exact ⟨x, 0, hc.out, hx, rfl, rfl⟩
    · have hgt : (FloatKind.f32.format.order x 0 == some .gt) = false := by simpa using hgt
      have hc := Lib.hid (creluL_zero (x := x) (by
        rw [hor] at hgt ⊢
        split at hgt
        · rename_i h; rw [if_pos h]; rfl
        · rename_i h
          rw [if_neg h]
          split at hgt
          · cases hgt
          · rename_i h2; rw [if_neg h2]; rfl))
      clear hn hor
      go_enter Try.func148, Try.ntmps148
      go_wp2
      go_ret
      exact ⟨0, 0, hc.out, by decide, rfl, rfl⟩
theorem run_one {i o j : Nat} {ws z : List Nat} (hj : j < o) (hw : ws.length = o * i) : ((ws.drop (j * i)).take i).length = i ∧ ∀ q, q < i → ((ws.drop (j * i)).take i).getD q 0 = ws.getD (j * i + q) 0 ∧ j * i + q < ws.length := by
  have hjo : (j + 1) * i ≤ o * i := Nat.mul_le_mul_right i hj
  rw [Nat.succ_mul] at hjo
  refine ⟨by rw [List.length_take, List.length_drop, hw]; omega, fun q hq => ⟨?_, by omega⟩⟩
  unfold List.getD
  rw [List.getElem?_take_of_lt hq, List.getElem?_drop]

set_option maxRecDepth 20000 in
set_option maxHeartbeats 4000000 in
theorem c_run0 (g off : Nat) (a b x : Option Addr) (c d cap o : Nat) (ws bs z : List Nat) (w : World) (hp : LayPtr w g off 0 z.length o a b ws.length bs.length c d) (ha : IsFloats .f32 w a ws.length c ws) (hb' : IsFloats .f32 w b bs.length d bs) (h : IsFloats .f32 w x z.length cap z) (h1 : 1 ≤ z.length) (h8 : z.length ≤ 8) (ho : 1 ≤ o ∧ o ≤ 8) (hw : ws.length = o * z.length) (hbl : bs.length = o) :
    Calls Try.prog 104 #[.pointer (some ⟨g, off, none⟩), .slice x z.length cap] w (RetLs (denseV z.length o ws bs z) w) := by
  have HP := Lib.hid hp
  have n1 : (1 : Int) ≤ (z.length : Int) := by omega
  have n8 : (z.length : Int) ≤ 8 := by omega
  rcases h.2.2.2.2 with h0 | ⟨xb, xo, rfl, hxb, hxc⟩
  · omega
  have HXC := Lib.hid hxc
  have HXB := Lib.hid hxb
  have HXL := Lib.hid (show ∀ y ∈ z, y < 4294967296 from h.2.2.2.1)
  obtain ⟨i0, hi, hz0, hz1, hz2⟩ := info_parts info_f32
  have HI := Lib.hid hi
  have HZ0 := Lib.hid hz0
  have HZ1 := Lib.hid hz1
  have HZ2 := Lib.hid hz2
  rcases ha.2.2.2.2 with h0 | ⟨ab, ao, rfl, hab, hac⟩
  · rw [hw] at h0; have := Nat.mul_pos ho.1 h1; omega
  have HAC := Lib.hid hac
  have HAB := Lib.hid hab
  have HW := Lib.hid hw
  rcases hb'.2.2.2.2 with h0 | ⟨bb, bo, rfl, hbb, hbc⟩
  · omega
  have HBC := Lib.hid hbc
  have HBB := Lib.hid hbb
  have HBL := Lib.hid hbl
  have o1 : (1 : Int) ≤ (o : Int) := by omega
  have o8 : (o : Int) ≤ 8 := by omega
  have HO8 := Lib.hid ho
  obtain ⟨p0, p1, p2, p3, p4, p5⟩ := hp
  clear h ha hb' hxc hxb hi hz0 hz1 hz2 hw hbl ho hab hac hbb hbc
  go_enter Try.func104, Try.ntmps104
  go_wp2_with fail
  go_loopw [5, 6] (fun s i wr => GrowRel (fun q => cop .add .f32 (cdot ((ws.drop (q * z.length)).take z.length) z) (canon .f32 (bs.getD q 0))) o w.heap.size w s i wr) (fun _ i _ => o - (intOf i).toNat)
  case atStart => exact grow_first (Nat.le_refl _) rfl (Below.refl _ _) (Nat.le_refl _)
  case round =>
    obtain ⟨j, p, cp, xs, hj, rfl, rfl, hy, ho_, he, hl⟩ := hrel
    have HY := Lib.hid hy
    have HO := Lib.hid ho_
    have HE := Lib.hid he
    have HL := Lib.hid hl
    have hj0 : (0 : Int) ≤ (j : Int) := by omega
    clear hy ho_ he hl p0 p1 p2 p3 p4 p5
    obtain ⟨p0, p1, p2, p3, p4, p5⟩ := HP.out.kept HL.out
    by_cases hlt : j < o
    · have hlt' : (j : Int) < (o : Int) := by omega
      have A1 := Lib.hid (show xs.length + 1 ≤ maxLen by have := HY.out; unfold maxLen; omega)
      have A2 := Lib.hid (show (xs.length + 1) * 4 ≤ 140737488355328 by have := HY.out; omega)
      have A3 := Lib.hid HL.out.size
      have hro := run_one (z := z) hlt HW.out
      obtain ⟨row, hrow⟩ : ∃ l, (ws.drop (j * z.length)).take z.length = l := ⟨_, rfl⟩
      rw [hrow] at hro
      have HROW := Lib.hid hrow
      have HRO := Lib.hid hro
      have hjb : j < bs.length := by have := HBL.out; omega
      have hjb' : (j : Int) < (bs.length : Int) := by omega
      have cbj := (HL.out.cell (p := ⟨bb, bo + j, none⟩) HBB.out).trans (HBC.out j hjb)
      have hwm : ws.length ≤ 64 := by rw [HW.out]; exact Nat.le_trans (Nat.mul_le_mul HO8.out.2 h8) (by decide)
      have hwm' : (ws.length : Int) ≤ 64 := by omega
      obtain ⟨P, hP⟩ : ∃ P, j * z.length = P := ⟨_, rfl⟩
      have hPI : (j : Int) * (z.length : Int) = (P : Int) := by rw [← hP]; exact (Int.natCast_mul j z.length).symm
      rw [hP] at hro
      have HRO2 := Lib.hid hro
      have hP64 : P ≤ 64 := by rw [← hP]; exact Nat.le_trans (Nat.mul_le_mul (Nat.le_of_lt hlt) (Nat.le_refl _)) (by rw [← HW.out]; exact hwm)
      have hPw : IntKind.i64.wrap ((j : Int) * (z.length : Int)) = (P : Int) := by rw [hPI]; exact IntWalk.i64_in _ (by omega)
      have hP0 : (0 : Int) ≤ (P : Int) := by omega
      have hP1 : (P : Int) ≤ 64 := by omega
      have HWR := Lib.hid HL.out
      clear hrow hro hP hPI hjb
      go_wp2_with fail
      go_loopw [7, 8] (fun s i wq => DotRel row z wr s i wq) (fun _ i _ => z.length - (intOf i).toNat)
      case atStart => exact ⟨0, 0, 0, Nat.zero_le _, rfl, rfl, by rw [canon_zero]; rfl, by decide, rfl⟩
      case round =>
        obtain ⟨q, r, m, hq, rfl, rfl, hr, hr2, rfl⟩ := hrel
        have HR := Lib.hid hr
        have HR2 := Lib.hid hr2
        rw [HRO.out.1] at hq
        have hq0 : (0 : Int) ≤ (q : Int) := by omega
        clear hr hr2
        by_cases hql : q < z.length
        · have hql' : (q : Int) < (z.length : Int) := by omega
          have hx : wr.cell? ⟨xb, xo + q, none⟩ = some (.float .f32 (z.getD q 0)) := (HL.out.cell (p := ⟨xb, xo + q, none⟩) HXB.out).trans (HXC.out q hql)
          obtain ⟨e1, e2⟩ := HRO2.out.2 q hql
          have cw := (HL.out.cell (p := ⟨ab, ao + (P + q), none⟩) HAB.out).trans (HAC.out (P + q) e2)
          rw [← e1] at cw
          have e3 : ((P : Int) + (q : Int)) < (ws.length : Int) := by omega
          have e4 : ((P : Int) + (q : Int)).toNat = P + q := by omega
          have HOO := Lib.hid (cdot_one (xs := row) (ys := z) (show q < row.length by rw [HRO.out.1]; exact hql) hql HR.out)
          obtain ⟨xq, hxq⟩ : ∃ x, z.getD q 0 = x := ⟨_, rfl⟩
          obtain ⟨uq, huq⟩ : ∃ x, row.getD q 0 = x := ⟨_, rfl⟩
          rw [hxq] at hx HOO
          rw [huq] at cw HOO
          clear e1 e2 hxq huq
          go_wp2_with fail
          go_region
          all_goals
            go_wp2_with fail
            go_roundw
            case rel =>
              exact ⟨q + 1, _, _, by rw [HRO.out.1]; omega, by go_num, rfl, HOO.out _ _, fval_lt .add .f32 _ _ _, rfl⟩
            case measure => simp [intOf]; omega
        · obtain rfl : q = z.length := by omega
          have HRF := Lib.hid (show ∀ w1, canon .f32 (fval .add .f32 r (bs.getD j 0) w1) = (fun q => cop .add .f32 (cdot ((ws.drop (q * z.length)).take z.length) z) (canon .f32 (bs.getD q 0))) j from fun w1 => by
            rw [canon_fval, HR.out, List.take_of_length_le (by rw [HRO.out.1]; omega), List.take_of_length_le (Nat.le_refl _), ← HROW.out])
          obtain ⟨u, hu⟩ : ∃ x, bs.getD j 0 = x := ⟨_, rfl⟩
          rw [hu] at cbj HRF
          clear hu
          go_wp2_with (at_builtin; refine wpList_append_any _ rfl (.tmp 101) (.tmp 103) 25 rfl w.heap.size 67 i0 (.float .f32 0) 1 4 Try.underlying25 HI.out HZ0.out HZ1.out HZ2.out rfl Nat.one_pos (.slice p xs.length cp) xs.length (xs.map (Value.float .f32)) rfl (grow_own HO.out) (wr.heap.size + 1) (some ⟨wr.heap.size, 0, none⟩) 1 1 [.float .f32 (fval .add .f32 r u (wr.drewN m))] rfl grow_reads (one_f32 _) A1.out A2.out (grow_base A3.out) ?_; intro v' w' hown hgr hat; obtain ⟨a', c', rfl⟩ := ownsRow_slice hown; have HMD := Lib.hid (grow_next (n := o) hlt HO.out (Nat.le_refl _) HL.out HE.out HY.out (fval_lt .add .f32 _ _ _) (HRF.out _) hown hgr); clear hown hgr hat)
          go_roundw
          case rel => exact HMD.out
          case measure => simp [intOf]; omega
    · obtain rfl : j = o := by omega
      have HYY := Lib.hid HY.out
      have HEE := Lib.hid (show xs.map (canon .f32) = denseV z.length j ws bs z from HE.out.trans (rfl))
      go_wp2_with fail
      go_ret
      exact ⟨p, cp, xs, by first | rfl | (rw [HYY.out]; rfl), HO.out, HEE.out, HL.out⟩
set_option maxRecDepth 20000 in
set_option maxHeartbeats 4000000 in
theorem c_run1 (g off : Nat) (a b x : Option Addr) (c d cap : Nat) (ws bs z : List Nat) (w : World) (hp : LayPtr w g off 1 z.length z.length a b ws.length bs.length c d) (ha : IsFloats .f32 w a ws.length c ws) (hb' : IsFloats .f32 w b bs.length d bs) (h : IsFloats .f32 w x z.length cap z) (h1 : 1 ≤ z.length) (h8 : z.length ≤ 8)  :
    Calls Try.prog 104 #[.pointer (some ⟨g, off, none⟩), .slice x z.length cap] w (RetLs (z.map creluL) w) := by
  have HP := Lib.hid hp
  have n1 : (1 : Int) ≤ (z.length : Int) := by omega
  have n8 : (z.length : Int) ≤ 8 := by omega
  rcases h.2.2.2.2 with h0 | ⟨xb, xo, rfl, hxb, hxc⟩
  · omega
  have HXC := Lib.hid hxc
  have HXB := Lib.hid hxb
  have HXL := Lib.hid (show ∀ y ∈ z, y < 4294967296 from h.2.2.2.1)
  obtain ⟨i0, hi, hz0, hz1, hz2⟩ := info_parts info_f32
  have HI := Lib.hid hi
  have HZ0 := Lib.hid hz0
  have HZ1 := Lib.hid hz1
  have HZ2 := Lib.hid hz2
  obtain ⟨p0, p1, p2, p3, p4, p5⟩ := hp
  clear h ha hb' hxc hxb hi hz0 hz1 hz2
  go_enter Try.func104, Try.ntmps104
  go_wp2_with fail
  go_loopw [5, 6] (fun s i wr => GrowRel (fun i => creluL (z.getD i 0)) z.length w.heap.size w s i wr) (fun _ i _ => z.length - (intOf i).toNat)
  case atStart => exact grow_first (Nat.le_refl _) rfl (Below.refl _ _) (Nat.le_refl _)
  case round =>
    obtain ⟨j, p, cp, xs, hj, rfl, rfl, hy, ho_, he, hl⟩ := hrel
    have HY := Lib.hid hy
    have HO := Lib.hid ho_
    have HE := Lib.hid he
    have HL := Lib.hid hl
    have hj0 : (0 : Int) ≤ (j : Int) := by omega
    clear hy ho_ he hl p0 p1 p2 p3 p4 p5
    obtain ⟨p0, p1, p2, p3, p4, p5⟩ := HP.out.kept HL.out
    by_cases hlt : j < z.length
    · have hlt' : (j : Int) < (z.length : Int) := by omega
      have A1 := Lib.hid (show xs.length + 1 ≤ maxLen by have := HY.out; unfold maxLen; omega)
      have A2 := Lib.hid (show (xs.length + 1) * 4 ≤ 140737488355328 by have := HY.out; omega)
      have A3 := Lib.hid HL.out.size
      have hx : wr.cell? ⟨xb, xo + j, none⟩ = some (.float .f32 (z.getD j 0)) := (HL.out.cell (p := ⟨xb, xo + j, none⟩) HXB.out).trans (HXC.out j hlt)
      have HXX := Lib.hid (HXL.out _ (getD_mem hlt))
      have HFV := Lib.hid (show (fun i => creluL (z.getD i 0)) j = creluL (z.getD j 0) from rfl)
      obtain ⟨y, hy⟩ : ∃ x, z.getD j 0 = x := ⟨_, rfl⟩
      rw [hy] at hx HXX HFV
      clear hy
      go_wp2_with fail
      refine (c_l03ReluL _ HXX.out _).mono ?_
      rintro e w' ⟨r, n, hr, hrl, rfl, rfl⟩
      have HR := Lib.hid (hr.trans HFV.out.symm)
      have HRL := Lib.hid hrl
      clear hr hrl HFV
      go_wp2_with (at_builtin; refine wpList_append_any _ rfl (.tmp 101) (.tmp 103) 25 rfl w.heap.size 67 i0 (.float .f32 0) 1 4 Try.underlying25 HI.out HZ0.out HZ1.out HZ2.out rfl Nat.one_pos (.slice p xs.length cp) xs.length (xs.map (Value.float .f32)) rfl (grow_own HO.out) (wr.heap.size + 1) (some ⟨wr.heap.size, 0, none⟩) 1 1 [.float .f32 (r)] rfl grow_reads (one_f32 _) A1.out A2.out (grow_base A3.out) ?_; intro v' w' hown hgr hat; obtain ⟨a', c', rfl⟩ := ownsRow_slice hown; have HMD := Lib.hid (grow_next (n := z.length) hlt HO.out (Nat.le_refl _) HL.out HE.out HY.out HRL.out HR.out hown hgr); clear hown hgr hat)
      go_roundw
      case rel => exact HMD.out
      case measure => simp [intOf]; omega
    · obtain rfl : j = z.length := by omega
      have HYY := Lib.hid HY.out
      have HEE := Lib.hid (show xs.map (canon .f32) = z.map creluL from HE.out.trans (map_range z creluL))
      go_wp2_with fail
      go_ret
      exact ⟨p, cp, xs, by first | rfl | (rw [HYY.out]; rfl), HO.out, HEE.out, HL.out⟩
set_option maxRecDepth 20000 in
set_option maxHeartbeats 4000000 in
theorem c_run2 (g off : Nat) (a b x : Option Addr) (c d cap : Nat) (ws bs z : List Nat) (w : World) (hp : LayPtr w g off 2 z.length z.length a b ws.length bs.length c d) (ha : IsFloats .f32 w a ws.length c ws) (hb' : IsFloats .f32 w b bs.length d bs) (h : IsFloats .f32 w x z.length cap z) (h1 : 1 ≤ z.length) (h8 : z.length ≤ 8) (hw : ws.length = z.length) :
    Calls Try.prog 104 #[.pointer (some ⟨g, off, none⟩), .slice x z.length cap] w (RetLs (scaleV ws z) w) := by
  have HP := Lib.hid hp
  have n1 : (1 : Int) ≤ (z.length : Int) := by omega
  have n8 : (z.length : Int) ≤ 8 := by omega
  rcases h.2.2.2.2 with h0 | ⟨xb, xo, rfl, hxb, hxc⟩
  · omega
  have HXC := Lib.hid hxc
  have HXB := Lib.hid hxb
  have HXL := Lib.hid (show ∀ y ∈ z, y < 4294967296 from h.2.2.2.1)
  obtain ⟨i0, hi, hz0, hz1, hz2⟩ := info_parts info_f32
  have HI := Lib.hid hi
  have HZ0 := Lib.hid hz0
  have HZ1 := Lib.hid hz1
  have HZ2 := Lib.hid hz2
  rcases ha.2.2.2.2 with h0 | ⟨ab, ao, rfl, hab, hac⟩
  · omega
  have HAC := Lib.hid hac
  have HAB := Lib.hid hab
  have HW := Lib.hid hw
  obtain ⟨p0, p1, p2, p3, p4, p5⟩ := hp
  clear h ha hb' hxc hxb hi hz0 hz1 hz2 hw hab hac
  go_enter Try.func104, Try.ntmps104
  go_wp2_with fail
  go_loopw [5, 6] (fun s i wr => GrowRel (fun q => cop .mul .f32 (canon .f32 (z.getD q 0)) (canon .f32 (ws.getD q 0))) z.length w.heap.size w s i wr) (fun _ i _ => z.length - (intOf i).toNat)
  case atStart => exact grow_first (Nat.le_refl _) rfl (Below.refl _ _) (Nat.le_refl _)
  case round =>
    obtain ⟨j, p, cp, xs, hj, rfl, rfl, hy, ho_, he, hl⟩ := hrel
    have HY := Lib.hid hy
    have HO := Lib.hid ho_
    have HE := Lib.hid he
    have HL := Lib.hid hl
    have hj0 : (0 : Int) ≤ (j : Int) := by omega
    clear hy ho_ he hl p0 p1 p2 p3 p4 p5
    obtain ⟨p0, p1, p2, p3, p4, p5⟩ := HP.out.kept HL.out
    by_cases hlt : j < z.length
    · have hlt' : (j : Int) < (z.length : Int) := by omega
      have A1 := Lib.hid (show xs.length + 1 ≤ maxLen by have := HY.out; unfold maxLen; omega)
      have A2 := Lib.hid (show (xs.length + 1) * 4 ≤ 140737488355328 by have := HY.out; omega)
      have A3 := Lib.hid HL.out.size
      have hx : wr.cell? ⟨xb, xo + j, none⟩ = some (.float .f32 (z.getD j 0)) := (HL.out.cell (p := ⟨xb, xo + j, none⟩) HXB.out).trans (HXC.out j hlt)
      have hjw : j < ws.length := by have := HW.out; omega
      have hjw' : (j : Int) < (ws.length : Int) := by omega
      have cw := (HL.out.cell (p := ⟨ab, ao + j, none⟩) HAB.out).trans (HAC.out j hjw)
      have HV := Lib.hid (show ∀ w1, canon .f32 (fval .mul .f32 (ws.getD j 0) (z.getD j 0) w1) = (fun q => cop .mul .f32 (canon .f32 (z.getD q 0)) (canon .f32 (ws.getD q 0))) j from fun w1 => by rw [canon_fval]; exact cop_mul_comm _ _)
      obtain ⟨y, hy⟩ : ∃ x, z.getD j 0 = x := ⟨_, rfl⟩
      obtain ⟨u, hu⟩ : ∃ x, ws.getD j 0 = x := ⟨_, rfl⟩
      rw [hy] at hx HV
      rw [hu] at cw HV
      clear hy hu hjw
      go_upto_region 22 with fail
      go_region
      all_goals
        go_wp2_with (at_builtin; refine wpList_append_any _ rfl (.tmp 101) (.tmp 103) 25 rfl w.heap.size 67 i0 (.float .f32 0) 1 4 Try.underlying25 HI.out HZ0.out HZ1.out HZ2.out rfl Nat.one_pos (.slice p xs.length cp) xs.length (xs.map (Value.float .f32)) rfl (grow_own HO.out) (wr.heap.size + 1) (some ⟨wr.heap.size, 0, none⟩) 1 1 [.float .f32 (fval .mul .f32 u y wr.drew)] rfl grow_reads (one_f32 _) A1.out A2.out (grow_base A3.out) ?_; intro v' w' hown hgr hat; obtain ⟨a', c', rfl⟩ := ownsRow_slice hown; have HMD := Lib.hid (grow_next (n := z.length) hlt HO.out (Nat.le_refl _) HL.out HE.out HY.out (fval_lt .mul .f32 _ _ _) (HV.out _) hown hgr); clear hown hgr hat)
        go_roundw
        case rel => exact HMD.out
        case measure => simp [intOf]; omega
    · obtain rfl : j = z.length := by omega
      have HYY := Lib.hid HY.out
      have HEE := Lib.hid (show xs.map (canon .f32) = scaleV ws z from HE.out.trans (rfl))
      go_wp2_with fail
      go_ret
      exact ⟨p, cp, xs, by first | rfl | (rw [HYY.out]; rfl), HO.out, HEE.out, HL.out⟩
set_option maxRecDepth 20000 in
set_option maxHeartbeats 4000000 in
theorem c_run3 (g off : Nat) (a b x : Option Addr) (c d cap : Nat) (ws bs z : List Nat) (w : World) (hp : LayPtr w g off 3 z.length z.length a b ws.length bs.length c d) (ha : IsFloats .f32 w a ws.length c ws) (hb' : IsFloats .f32 w b bs.length d bs) (h : IsFloats .f32 w x z.length cap z) (h1 : 1 ≤ z.length) (h8 : z.length ≤ 8)  :
    Calls Try.prog 104 #[.pointer (some ⟨g, off, none⟩), .slice x z.length cap] w (RetLs (z.map ctanh) w) := by
  have HP := Lib.hid hp
  have n1 : (1 : Int) ≤ (z.length : Int) := by omega
  have n8 : (z.length : Int) ≤ 8 := by omega
  rcases h.2.2.2.2 with h0 | ⟨xb, xo, rfl, hxb, hxc⟩
  · omega
  have HXC := Lib.hid hxc
  have HXB := Lib.hid hxb
  have HXL := Lib.hid (show ∀ y ∈ z, y < 4294967296 from h.2.2.2.1)
  obtain ⟨i0, hi, hz0, hz1, hz2⟩ := info_parts info_f32
  have HI := Lib.hid hi
  have HZ0 := Lib.hid hz0
  have HZ1 := Lib.hid hz1
  have HZ2 := Lib.hid hz2
  obtain ⟨p0, p1, p2, p3, p4, p5⟩ := hp
  clear h ha hb' hxc hxb hi hz0 hz1 hz2
  go_enter Try.func104, Try.ntmps104
  go_wp2_with fail
  go_loopw [5, 6] (fun s i wr => GrowRel (fun i => ctanh (z.getD i 0)) z.length w.heap.size w s i wr) (fun _ i _ => z.length - (intOf i).toNat)
  case atStart => exact grow_first (Nat.le_refl _) rfl (Below.refl _ _) (Nat.le_refl _)
  case round =>
    obtain ⟨j, p, cp, xs, hj, rfl, rfl, hy, ho_, he, hl⟩ := hrel
    have HY := Lib.hid hy
    have HO := Lib.hid ho_
    have HE := Lib.hid he
    have HL := Lib.hid hl
    have hj0 : (0 : Int) ≤ (j : Int) := by omega
    clear hy ho_ he hl p0 p1 p2 p3 p4 p5
    obtain ⟨p0, p1, p2, p3, p4, p5⟩ := HP.out.kept HL.out
    by_cases hlt : j < z.length
    · have hlt' : (j : Int) < (z.length : Int) := by omega
      have A1 := Lib.hid (show xs.length + 1 ≤ maxLen by have := HY.out; unfold maxLen; omega)
      have A2 := Lib.hid (show (xs.length + 1) * 4 ≤ 140737488355328 by have := HY.out; omega)
      have A3 := Lib.hid HL.out.size
      have hx : wr.cell? ⟨xb, xo + j, none⟩ = some (.float .f32 (z.getD j 0)) := (HL.out.cell (p := ⟨xb, xo + j, none⟩) HXB.out).trans (HXC.out j hlt)
      have HXX := Lib.hid (HXL.out _ (getD_mem hlt))
      have HFV := Lib.hid (show (fun i => ctanh (z.getD i 0)) j = ctanh (z.getD j 0) from rfl)
      obtain ⟨y, hy⟩ : ∃ x, z.getD j 0 = x := ⟨_, rfl⟩
      rw [hy] at hx HXX HFV
      clear hy
      go_wp2_with fail
      refine (c_l01Tanh _ _).mono ?_
      rintro e w' ⟨r, n, hr, hrl, rfl, rfl⟩
      have HR := Lib.hid (hr.trans HFV.out.symm)
      have HRL := Lib.hid hrl
      clear hr hrl HFV
      go_wp2_with (at_builtin; refine wpList_append_any _ rfl (.tmp 101) (.tmp 103) 25 rfl w.heap.size 67 i0 (.float .f32 0) 1 4 Try.underlying25 HI.out HZ0.out HZ1.out HZ2.out rfl Nat.one_pos (.slice p xs.length cp) xs.length (xs.map (Value.float .f32)) rfl (grow_own HO.out) (wr.heap.size + 1) (some ⟨wr.heap.size, 0, none⟩) 1 1 [.float .f32 (r)] rfl grow_reads (one_f32 _) A1.out A2.out (grow_base A3.out) ?_; intro v' w' hown hgr hat; obtain ⟨a', c', rfl⟩ := ownsRow_slice hown; have HMD := Lib.hid (grow_next (n := z.length) hlt HO.out (Nat.le_refl _) HL.out HE.out HY.out HRL.out HR.out hown hgr); clear hown hgr hat)
      go_roundw
      case rel => exact HMD.out
      case measure => simp [intOf]; omega
    · obtain rfl : j = z.length := by omega
      have HYY := Lib.hid HY.out
      have HEE := Lib.hid (show xs.map (canon .f32) = z.map ctanh from HE.out.trans (map_range z ctanh))
      go_wp2_with fail
      go_ret
      exact ⟨p, cp, xs, by first | rfl | (rw [HYY.out]; rfl), HO.out, HEE.out, HL.out⟩
theorem c_run4 (g off : Nat) (a b x : Option Addr) (c d cap : Nat) (ws bs z : List Nat) (w : World) (hp : LayPtr w g off 4 z.length z.length a b ws.length bs.length c d) (h : IsFloats .f32 w x z.length cap z) (h1 : 1 ≤ z.length) (h8 : z.length ≤ 8) :
    Calls Try.prog 104 #[.pointer (some ⟨g, off, none⟩), .slice x z.length cap] w (RetLs (z.map (cShare z)) w) := by
  have HS := Lib.hid (c_l03Softmax x cap z w h h1 h8)
  obtain ⟨p0, p1, p2, p3, p4, p5⟩ := hp
  clear h
  go_enter Try.func104, Try.ntmps104
  go_wp2_with fail
  refine HS.out.mono ?_
  intro e w' hr
  have HR := Lib.hid hr
  obtain ⟨b', c', ys, rfl, ho, he, hb⟩ := hr
  clear ho he hb
  go_wp2_with fail
  go_ret
  exact HR.out
theorem c_run5 (g off : Nat) (a b x : Option Addr) (c d cap : Nat) (ws bs z : List Nat) (w : World) (hp : LayPtr w g off 5 z.length z.length a b ws.length bs.length c d) (ha : IsFloats .f32 w a ws.length c ws) (hb' : IsFloats .f32 w b bs.length d bs) (h : IsFloats .f32 w x z.length cap z) (h1 : 1 ≤ z.length) (h8 : z.length ≤ 8) (hw : ws.length = z.length) (hbl : bs.length = z.length) :
    Calls Try.prog 104 #[.pointer (some ⟨g, off, none⟩), .slice x z.length cap] w (RetLs (normV ws bs z) w) := by
  have HS := Lib.hid (c_l03Norm g off 5 a b x c d cap ws bs z w hp ha hb' h h1 h8 hw hbl)
  obtain ⟨p0, p1, p2, p3, p4, p5⟩ := hp
  clear h ha hb' hw hbl
  go_enter Try.func104, Try.ntmps104
  go_wp2_with fail
  refine HS.out.mono ?_
  intro e w' hr
  have HR := Lib.hid hr
  obtain ⟨b', c', ys, rfl, ho, he, hb⟩ := hr
  clear ho he hb
  go_wp2_with fail
  go_ret
  exact HR.out
/-- a valid layer -/
theorem c_l03Run (g off : Nat) (k : Int) (i o : Nat) (a b x : Option Addr) (c d cap : Nat) (ws bs z : List Nat) (w : World) (hv : vLay k i o ws.length bs.length = true) (hp : LayPtr w g off k i o a b ws.length bs.length c d) (ha : IsFloats .f32 w a ws.length c ws) (hb : IsFloats .f32 w b bs.length d bs) (h : IsFloats .f32 w x z.length cap z) (hz : z.length = i) :
    Calls Try.prog 104 #[.pointer (some ⟨g, off, none⟩), .slice x z.length cap] w (RetLs (runV k i o ws bs z) w) := by
  obtain ⟨i', o', hi', ho', h1, h2, hk⟩ := lay_nat hv
  obtain rfl : i = i' := by omega
  obtain rfl : o = o' := by omega
  subst hz
  rcases hk with ⟨rfl, hn, hm⟩ | ⟨rfl, ho⟩ | ⟨rfl, ho, hn⟩ | ⟨rfl, ho⟩ | ⟨rfl, ho⟩ | ⟨rfl, ho, hn, hm⟩
  · exact c_run0 g off a b x c d cap o ws bs z w hp ha hb h h1.1 h1.2 h2 hn hm
  · subst ho; exact c_run1 g off a b x c d cap ws bs z w hp ha hb h h1.1 h1.2
  · subst ho; exact c_run2 g off a b x c d cap ws bs z w hp ha hb h h1.1 h1.2 hn
  · subst ho; exact c_run3 g off a b x c d cap ws bs z w hp ha hb h h1.1 h1.2
  · subst ho; exact c_run4 g off a b x c d cap ws bs z w hp h h1.1 h1.2
  · subst ho; exact c_run5 g off a b x c d cap ws bs z w hp ha hb h h1.1 h1.2 hn hm
end Go.Proofs.Ytpdgpoonblldgaa
