/-
  The model's shares of exponentials, and normed numbers. Conditions: the numbers can be read.
-/
import Derived.Test.YtpdgpoonblldgaaRvl
import Derived.Deep.Cut
import Derived.Deep.DeepCutAuto
namespace Go.Proofs.Ytpdgpoonblldgaa
open Go.RowKit Go.Deep Go.WideShapes Go.ChangeShapes
set_option linter.unusedVariables false
set_option linter.unusedSimpArgs false

def GmRel (z : List Nat) (w : World) (s i : Value) (wr : World) : Prop := ∃ k : Nat, 1 ≤ k ∧ k ≤ z.length ∧ i = .int .i64 k ∧ s = .float .f32 (z.getD (gixF (fun j => z.getD j 0) k) 0) ∧ w = wr
set_option maxRecDepth 20000 in
set_option maxHeartbeats 4000000 in
theorem c_l03Softmax (a : Option Addr) (cap : Nat) (z : List Nat) (w : World) (h : IsFloats .f32 w a z.length cap z) (h1 : 1 ≤ z.length) (h8 : z.length ≤ 8) :
    Calls Try.prog 146 #[.slice a z.length cap] w (RetLs (z.map (cShare z)) w) := by
  have HF := Lib.hid h
  have HM := Lib.hid (fun x hx => gmax_not z (x := x) hx)
  have n1 : (1 : Int) ≤ (z.length : Int) := by omega
  have n8 : (z.length : Int) ≤ 8 := by omega
  rcases h.2.2.2.2 with h0 | ⟨b, off, rfl, hb, hc⟩
  · omega
  have HCA := Lib.hid hc
  have HBK := Lib.hid hb
  have hc0 := hc 0 (by omega)
  rw [Nat.add_zero] at hc0
  obtain ⟨i0, hi, hz0, hz1, hz2⟩ := info_parts info_f32
  have HI := Lib.hid hi
  have HZ0 := Lib.hid hz0
  have HZ1 := Lib.hid hz1
  have HZ2 := Lib.hid hz2
  have HG1 := Lib.hid (gixF_one (fun j => z.getD j 0))
  obtain ⟨x0, hx0⟩ : ∃ x, z.getD 0 0 = x := ⟨_, rfl⟩
  rw [hx0] at hc0
  have HX0 := Lib.hid hx0
  clear h hc hb hi hz0 hz1 hz2 hx0
  go_enter Try.func146, Try.ntmps146
  go_wp2_with fail
  go_loopw [3, 4] (fun s i wr => GmRel z w s i wr) (fun _ i _ => z.length - (intOf i).toNat)
  case atStart => exact ⟨1, Nat.le_refl _, by omega, rfl, by rw [HG1.out, HX0.out], rfl⟩
  case round =>
    obtain ⟨k, hk1, hk, rfl, rfl, rfl⟩ := hrel
    have HY := fun h => gixF_yes (f := fun j => z.getD j 0) (k := k) h
    have HN := fun h => gixF_no (f := fun j => z.getD j 0) (k := k) h
    have hk0 : (0 : Int) ≤ (k : Int) := by omega
    by_cases hlt : k < z.length
    · have hlt' : (k : Int) < (z.length : Int) := by omega
      have c1 := HCA.out k hlt
      clear hc0
      cases hgt : (FloatKind.f32.format.order (z.getD k 0) (z.getD (gixF (fun j => z.getD j 0) k) 0) == some .gt) with
      | true =>
        have HG := Lib.hid (HY hgt)
        clear HY HN
        obtain ⟨y, hy⟩ : ∃ x, z.getD (gixF (fun j => z.getD j 0) k) 0 = x := ⟨_, rfl⟩
        rw [hy] at hgt ⊢
        obtain ⟨x, hx⟩ : ∃ x, z.getD k 0 = x := ⟨_, rfl⟩
        have HX := Lib.hid hx
        rw [hx] at c1 hgt
        clear hx hy
        go_wp2_with fail
        go_roundw
        case rel => exact ⟨k + 1, by omega, hlt, by go_num, by rw [HG.out, HX.out], rfl⟩
        case measure => simp [intOf]; omega
      | false =>
        have HG := Lib.hid (HN hgt)
        clear HY HN
        obtain ⟨y, hy⟩ : ∃ x, z.getD (gixF (fun j => z.getD j 0) k) 0 = x := ⟨_, rfl⟩
        have HYY := Lib.hid hy
        rw [hy] at hgt ⊢
        obtain ⟨x, hx⟩ : ∃ x, z.getD k 0 = x := ⟨_, rfl⟩
        rw [hx] at c1 hgt
        clear hx hy
        go_wp2_with fail
        go_roundw
        case rel => exact ⟨k + 1, by omega, hlt, by go_num, by rw [HG.out, HYY.out], rfl⟩
        case measure => simp [intOf]; omega
    · obtain rfl : k = z.length := by omega
      clear HY HN hc0
      obtain ⟨gm, hgm2⟩ : ∃ gm, gmax z = gm := ⟨_, rfl⟩
      have HGM := Lib.hid hgm2
      rw [show z.getD (gixF (fun j => z.getD j 0) z.length) 0 = gm from hgm2]
      rw [hgm2] at HM
      clear hgm2
      go_wp2_with fail
      go_loopw [5, 6] (fun s i wr => GrowRel (fun i => cE gm (z.getD i 0)) z.length w.heap.size w s i wr) (fun _ i _ => z.length - (intOf i).toNat)
      case atStart => exact grow_first (Nat.le_refl _) rfl (Below.refl _ _) (Nat.le_refl _)
      case round =>
        obtain ⟨j, p, cp, xs, hj, rfl, rfl, hy, ho, he, hl⟩ := hrel
        have HY := Lib.hid hy
        have HO := Lib.hid ho
        have HE := Lib.hid he
        have HL := Lib.hid hl
        have hj0 : (0 : Int) ≤ (j : Int) := by omega
        clear hy ho he hl
        by_cases hlt : j < z.length
        · have hlt' : (j : Int) < (z.length : Int) := by omega
          have hx : wr.cell? ⟨b, off + j, none⟩ = some (.float .f32 (z.getD j 0)) := (HL.out.cell (p := ⟨b, off + j, none⟩) HBK.out).trans (HCA.out j hlt)
          have HN := Lib.hid (HM.out _ (getD_mem hlt))
          have HG := Lib.hid (show ∀ x w1, z.getD j 0 = x → cexp32 (canon .f32 (fval .sub .f32 x gm w1)) = cE gm (z.getD j 0) by intro x w1 h1; rw [canon_fval, ← h1]; rfl)
          obtain ⟨x, hxx⟩ : ∃ x, z.getD j 0 = x := ⟨_, rfl⟩
          rw [hxx] at hx HN
          have HG2 := Lib.hid (fun w1 => HG.out x w1 hxx)
          have HE1 := Lib.hid (fun w1 w2 => c_l01ExpN (fval .sub .f32 x gm w1) w2 (sub_neg w1 HN.out) (fval_lt .sub .f32 x gm w1))
          clear hxx HG HN
          have A1 := Lib.hid (show xs.length + 1 ≤ maxLen by have := HY.out; unfold maxLen; omega)
          have A2 := Lib.hid (show (xs.length + 1) * 4 ≤ 140737488355328 by have := HY.out; omega)
          have A3 := Lib.hid HL.out.size
          go_wp2_with fail
          refine (HE1.out _ _).mono ?_
          rintro e w' ⟨r, d, hr, hrl, rfl, rfl⟩
          have HR := Lib.hid (hr.trans (HG2.out _))
          have HRL := Lib.hid hrl
          clear hr hrl HG2 HE1
          go_wp2_with (at_builtin; refine wpList_append_any _ rfl (.tmp 35) (.tmp 43) 25 rfl w.heap.size 67 i0 (.float .f32 0) 1 4 Try.underlying25 HI.out HZ0.out HZ1.out HZ2.out rfl Nat.one_pos (.slice p xs.length cp) xs.length (xs.map (Value.float .f32)) rfl (grow_own HO.out) (wr.heap.size + 1) (some ⟨wr.heap.size, 0, none⟩) 1 1 [.float .f32 r] rfl grow_reads (one_f32 _) A1.out A2.out (grow_base A3.out) ?_; intro v' w' hown hgr hat; obtain ⟨a', c', rfl⟩ := ownsRow_slice hown; have HMD := Lib.hid (grow_next (n := z.length) hlt HO.out (Nat.le_refl _) HL.out HE.out HY.out HRL.out HR.out hown hgr); clear hown hgr hat)
          go_roundw
          case rel => exact HMD.out
          case measure => simp [intOf]; omega
        · obtain rfl : j = z.length := by omega
          have HE2 := Lib.hid (show xs.map (canon .f32) = z.map (cE gm) from HE.out.trans (map_range z (cE gm)))
          have HYL := Lib.hid HY.out
          have HE0 := Lib.hid HE.out
          clear HY HE
          go_wp2_with fail
          refine (c_l01Sum _ _ _ xs _ HO.out.isFloats).mono ?_
          rintro e w' ⟨s, d, hs, hsl, rfl, rfl⟩
          have HS := Lib.hid (show canon .f32 s = csum (z.map (cE gm)) by rw [hs, ← HE2.out, csum_can])
          have HB3 := Lib.hid (below_drewN HL.out d)
          have HO3 := Lib.hid (HO.out.drewN d)
          have hxl : xs.length ≤ 256 := by have := HYL.out; omega
          generalize wr.drewN d = w4 at HB3 HO3 ⊢
          clear hs hsl HL HO
          go_wp2_with fail
          go_loopw [49] (fun i wr => UpdRel (fun i => cop .quo .f32 (cE gm (z.getD i 0)) (canon .f32 s)) xs w.heap.size p cp w i wr) (fun i _ => xs.length - (intOf i).toNat)
          case atStart => exact upd_first HO3.out HB3.out
          case round =>
            obtain ⟨j, ys, hj2, rfl, hy, ho, he, hb⟩ := hrel
            have HY := Lib.hid hy
            have HO := Lib.hid ho
            have HE3 := Lib.hid he
            have HB := Lib.hid hb
            have hj0 : (0 : Int) ≤ (j : Int) := by omega
            clear hy ho he hb HB3 HO3
            by_cases hlt2 : j < xs.length
            · have hlt' : (j : Int) < (xs.length : Int) := by omega
              obtain ⟨g, rfl, hg, hg2⟩ := own_some HO.out (by rw [upd_length hj2 HY.out]; omega)
              obtain ⟨hc, hf⟩ := own_cell (k := j) HO.out (by rw [upd_length hj2 HY.out]; omega)
              rw [upd_at HY.out] at hc
              have HC := Lib.hid (canon_getD HE0.out (show j < z.length by rw [← HYL.out]; exact hlt2))
              obtain ⟨y, hy⟩ : ∃ y, xs.getD j 0 = y := ⟨_, rfl⟩
              rw [hy] at hc HC
              clear hy
              go_wp2_with fail
              go_roundw
              case rel => exact upd_next hlt2 HY.out HO.out HE3.out HB.out (below_drewN (Below.refl _ _) _) HB.out.size (fval_lt .quo .f32 _ _ _) (by rw [canon_fval, HC.out])
              case measure => simp [intOf]; omega
            · obtain rfl : j = xs.length := by omega
              have HO4 := Lib.hid (upd_end HY.out HO.out)
              have HE4 := Lib.hid (show ys.map (canon .f32) = z.map (cShare z) by
                rw [HE3.out, HYL.out, map_range z (fun x => cop .quo .f32 (cE gm x) (canon .f32 s)), HS.out, ← HGM.out]; rfl)
              have HYY := Lib.hid HY.out
              go_wp2_with fail
              go_ret
              exact ⟨p, cp, ys, by rw [HYY.out]; rfl, HO4.out, HE4.out, HB.out⟩
/-- a layer lies at g, off -/
def LayPtr (w : World) (g off : Nat) (k i o : Int) (a b : Option Addr) (n m c d : Nat) : Prop :=
  g < w.heap.size ∧ w.cell? ⟨g, off, none⟩ = some (.int .i64 k) ∧ w.cell? ⟨g, off + 1, none⟩ = some (.int .i64 i) ∧ w.cell? ⟨g, off + 2, none⟩ = some (.int .i64 o) ∧ w.cell? ⟨g, off + 3, none⟩ = some (.slice a n c) ∧ w.cell? ⟨g, off + 4, none⟩ = some (.slice b m d)
theorem LayPtr.kept {w w' : World} {g off : Nat} {k i o : Int} {a b : Option Addr} {n m c d : Nat} (h : LayPtr w g off k i o a b n m c d) (hb : Below w.heap.size w w') : LayPtr w' g off k i o a b n m c d := by
  obtain ⟨h0, h1, h2, h3, h4, h5⟩ := h
  exact ⟨Nat.lt_of_lt_of_le h0 hb.size, (hb.cell (p := ⟨g, _, none⟩) h0).trans h1, (hb.cell (p := ⟨g, _, none⟩) h0).trans h2, (hb.cell (p := ⟨g, _, none⟩) h0).trans h3, (hb.cell (p := ⟨g, _, none⟩) h0).trans h4, (hb.cell (p := ⟨g, _, none⟩) h0).trans h5⟩
theorem LayPtr.of_blk {w : World} {g : Nat} {t : TypeId} {k i o : Int} {a b : Option Addr} {n m c d : Nat} (h : Blk w g t #[.int .i64 k, .int .i64 i, .int .i64 o, .slice a n c, .slice b m d]) : LayPtr w g 0 k i o a b n m c d :=
  ⟨h.lt, h.cell 0, h.cell 1, h.cell 2, h.cell 3, h.cell 4⟩
theorem cdot_sameM {xs ys xs' ys' : List Nat} (h1 : xs.map (canon .f32) = xs'.map (canon .f32)) (h2 : ys.map (canon .f32) = ys'.map (canon .f32)) : cdot xs ys = cdot xs' ys' := by
  have e : ∀ xs ys : List Nat, cdot xs ys = cdot (xs.map (canon .f32)) (ys.map (canon .f32)) := by
    intro xs ys
    unfold cdot
    rw [List.zip_map, List.foldl_map]
    simp only [Prod.map, canon_canon]
  rw [e xs ys, e xs' ys', h1, h2]
theorem normG_canonM (z : List Nat) : (normG z).map (canon .f32) = normG z := by
  unfold normG
  rw [List.map_map]
  exact List.map_congr_left fun y _ => cop_canon .sub .f32 _ _
theorem canon_spreadM : canon .f32 981467136 = 981467136 := by decide +kernel
theorem normR_ofM {z : List Nat} {sp : Nat} {w : World} (h : canon .f32 sp = cop .quo .f32 (cdot (normG z) (normG z)) (fN z.length)) : cnarrow (csq (cwide (canon .f32 (fval .add .f32 sp 981467136 w)))) = normR z := by
  rw [canon_fval, h, canon_spreadM]
  rfl
theorem normv_eq {ws bs z : List Nat} {i : Nat} (h : i < z.length) {gs : List Nat} (hg : gs.map (canon .f32) = normG z) {r : Nat} (hr : canon .f32 r = normR z) (w1 w2 w3 : World) :
    canon .f32 (fval .add .f32 (fval .mul .f32 (fval .quo .f32 (gs.getD i 0) r w1) (ws.getD i 0) w2) (bs.getD i 0) w3) = (fun q => cop .add .f32 (cop .mul .f32 (cop .quo .f32 ((normG z).getD q 0) (normR z)) (canon .f32 (ws.getD q 0))) (canon .f32 (bs.getD q 0))) i := by
  rw [canon_fval, canon_fval, canon_fval, hr, ← getD_can gs, hg]
set_option maxRecDepth 20000 in
set_option maxHeartbeats 4000000 in
theorem c_l03Norm (g off : Nat) (k : Int) (a b x : Option Addr) (c d cap : Nat) (ws bs z : List Nat) (w : World) (hp : LayPtr w g off k z.length z.length a b ws.length bs.length c d) (ha : IsFloats .f32 w a ws.length c ws) (hb' : IsFloats .f32 w b bs.length d bs) (h : IsFloats .f32 w x z.length cap z)
    (h1 : 1 ≤ z.length) (h8 : z.length ≤ 8) (hw : ws.length = z.length) (hbl : bs.length = z.length) :
    Calls Try.prog 147 #[.pointer (some ⟨g, off, none⟩), .slice x z.length cap] w (RetLs (normV ws bs z) w) := by
  have HP := Lib.hid hp
  have HA := Lib.hid ha
  have HB := Lib.hid hb'
  have HF := Lib.hid h
  have HW := Lib.hid hw
  have HBL := Lib.hid hbl
  have n1 : (1 : Int) ≤ (z.length : Int) := by omega
  have n8 : (z.length : Int) ≤ 8 := by omega
  rcases h.2.2.2.2 with h0 | ⟨xb, xo, rfl, hxb, hxc⟩
  · omega
  rcases ha.2.2.2.2 with h0 | ⟨ab, ao, rfl, hab, hac⟩
  · omega
  rcases hb'.2.2.2.2 with h0 | ⟨bb, bo, rfl, hbb, hbc⟩
  · omega
  have HXC := Lib.hid hxc
  have HXB := Lib.hid hxb
  have HAC := Lib.hid hac
  have HAB := Lib.hid hab
  have HBC := Lib.hid hbc
  have HBB := Lib.hid hbb
  obtain ⟨i0, hi, hz0, hz1, hz2⟩ := info_parts info_f32
  have HI := Lib.hid hi
  have HZ0 := Lib.hid hz0
  have HZ1 := Lib.hid hz1
  have HZ2 := Lib.hid hz2
  obtain ⟨q0, q1, q2, q3, q4, q5⟩ := hp
  clear h ha hb' hw hbl hxc hxb hac hab hbc hbb hi hz0 hz1 hz2 q1 q3 q4 q5
  go_enter Try.func147, Try.ntmps147
  go_wp2_with fail
  refine (c_l01Sum _ _ _ z _ HF.out).mono ?_
  rintro e w1 ⟨sr, n1', hs, hsl, rfl, rfl⟩
  have B1 := Lib.hid (below_drewN (Below.refl w.heap.size w) n1')
  have HS := Lib.hid hs
  clear hs hsl
  generalize w.drewN n1' = w1 at B1 ⊢
  go_upto_region 3 with fail
  obtain ⟨mr, hmr⟩ : ∃ m, fval .quo .f32 sr (floatOfInt .f32 (z.length : Int)) w1 = m := ⟨_, rfl⟩
  have HM := Lib.hid (show canon .f32 mr = normA z by rw [← hmr, canon_fval, canon_fN, HS.out]; rfl)
  rw [hmr]
  have B2 := Lib.hid (below_drewN B1.out (fdr .quo .f32 sr (floatOfInt .f32 (z.length : Int))))
  clear hmr B1
  generalize w1.drewN (fdr .quo .f32 sr (floatOfInt .f32 (z.length : Int))) = w2 at B2 ⊢
  go_wp2_with fail
  go_loopw [7, 8] (fun s i wr => GrowRel (fun i => cop .sub .f32 (canon .f32 (z.getD i 0)) (canon .f32 mr)) z.length w.heap.size w s i wr) (fun _ i _ => z.length - (intOf i).toNat)
  case atStart => exact grow_first B2.out.size rfl B2.out B2.out.size
  case round =>
    obtain ⟨j, p, cp, xs, hj, rfl, rfl, hy, ho, he, hl⟩ := hrel
    have HY := Lib.hid hy
    have HO := Lib.hid ho
    have HE := Lib.hid he
    have HL := Lib.hid hl
    have hj0 : (0 : Int) ≤ (j : Int) := by omega
    clear hy ho he hl
    by_cases hlt : j < z.length
    · have hlt' : (j : Int) < (z.length : Int) := by omega
      have hx : wr.cell? ⟨xb, xo + j, none⟩ = some (.float .f32 (z.getD j 0)) := (HL.out.cell (p := ⟨xb, xo + j, none⟩) HXB.out).trans (HXC.out j hlt)
      obtain ⟨y, hy⟩ : ∃ x, z.getD j 0 = x := ⟨_, rfl⟩
      rw [hy] at hx
      have HR := Lib.hid (show ∀ w1, canon .f32 (fval .sub .f32 y mr w1) = (fun i => cop .sub .f32 (canon .f32 (z.getD i 0)) (canon .f32 mr)) j by intro w1; rw [canon_fval, ← hy])
      clear hy
      have A1 := Lib.hid (show xs.length + 1 ≤ maxLen by have := HY.out; unfold maxLen; omega)
      have A2 := Lib.hid (show (xs.length + 1) * 4 ≤ 140737488355328 by have := HY.out; omega)
      have A3 := Lib.hid HL.out.size
      go_wp2_with (at_builtin; refine wpList_append_any _ rfl (.tmp 28) (.tmp 35) 25 rfl w.heap.size 67 i0 (.float .f32 0) 1 4 Try.underlying25 HI.out HZ0.out HZ1.out HZ2.out rfl Nat.one_pos (.slice p xs.length cp) xs.length (xs.map (Value.float .f32)) rfl (grow_own HO.out) (wr.heap.size + 1) (some ⟨wr.heap.size, 0, none⟩) 1 1 [.float .f32 (fval .sub .f32 y mr wr)] rfl grow_reads (one_f32 _) A1.out A2.out (grow_base A3.out) ?_; intro v' w' hown hgr hat; obtain ⟨a', c', rfl⟩ := ownsRow_slice hown; have HMD := Lib.hid (grow_next (n := z.length) hlt HO.out (Nat.le_refl _) HL.out HE.out HY.out (fval_lt .sub .f32 _ _ _) (HR.out _) hown hgr); clear hown hgr hat)
      go_roundw
      case rel => exact HMD.out
      case measure => simp [intOf]; omega
    · obtain rfl : j = z.length := by omega
      have HG := Lib.hid (show xs.map (canon .f32) = normG z by rw [HE.out, map_range z (fun x => cop .sub .f32 (canon .f32 x) (canon .f32 mr)), HM.out]; rfl)
      have HYL := Lib.hid HY.out
      clear HY HE
      go_wp2_with fail
      refine (c_l01Dot p p xs.length cp cp xs xs _ HO.out.isFloats HO.out.isFloats).mono ?_
      rintro e w' ⟨dr, n3, hd, hdl, rfl, rfl⟩
      have HD := Lib.hid hd
      have B3 := Lib.hid (below_drewN HL.out n3)
      have O3 := Lib.hid (HO.out.drewN n3)
      clear hd hdl HL HO
      generalize wr.drewN n3 = w4 at B3 O3 ⊢
      go_upto_region 9 with fail
      obtain ⟨sp, hsp⟩ : ∃ s, fval .quo .f32 dr (floatOfInt .f32 (z.length : Int)) w4 = s := ⟨_, rfl⟩
      have HSP := Lib.hid (show canon .f32 sp = cop .quo .f32 (cdot (normG z) (normG z)) (fN z.length) by
        rw [← hsp, canon_fval, canon_fN, HD.out, cdot_sameM (HG.out.trans (normG_canonM z).symm) (HG.out.trans (normG_canonM z).symm)])
      rw [hsp]
      have B4 := Lib.hid (below_drewN B3.out (fdr .quo .f32 dr (floatOfInt .f32 (z.length : Int))))
      have O4 := Lib.hid (O3.out.drewN (fdr .quo .f32 dr (floatOfInt .f32 (z.length : Int))))
      clear hsp B3 O3
      generalize w4.drewN (fdr .quo .f32 dr (floatOfInt .f32 (z.length : Int))) = w5 at B4 O4 ⊢
      go_wp2_with fail
      refine (c_l01Sqrt _ _).mono ?_
      rintro e w6 ⟨rr, n6, hr, hrl, rfl, rfl⟩
      have HR := Lib.hid (hr.trans (normR_ofM HSP.out))
      have bd := (below_drewN (below_drewN (Below.refl w5.heap.size w5) (fdr .add .f32 sp 981467136)) n6)
      have B6 := Lib.hid (Below.next B4.out bd)
      have O6 := Lib.hid (O4.out.kept bd)
      clear hr hrl bd B4 O4
      generalize (w5.drewN (fdr .add .f32 sp 981467136)).drewN n6 = w6 at B6 O6 ⊢
      have hxl : xs.length ≤ 8 := by have := HYL.out; omega
      go_wp2_with fail
      go_loopw [47] (fun i wr => UpdRel (fun q => cop .add .f32 (cop .mul .f32 (cop .quo .f32 ((normG z).getD q 0) (normR z)) (canon .f32 (ws.getD q 0))) (canon .f32 (bs.getD q 0))) xs w.heap.size p cp w i wr) (fun i _ => xs.length - (intOf i).toNat)
      case atStart => exact upd_first O6.out B6.out
      case round =>
        obtain ⟨j, ys, hj2, rfl, hy, ho, he, hb⟩ := hrel
        have HY := Lib.hid hy
        have HO := Lib.hid ho
        have HE3 := Lib.hid he
        have HB := Lib.hid hb
        have hj0 : (0 : Int) ≤ (j : Int) := by omega
        clear hy ho he hb B6 O6
        by_cases hlt2 : j < xs.length
        · have hlt' : (j : Int) < (xs.length : Int) := by omega
          have hjz : j < z.length := by have := HYL.out; omega
          have hjw : j < ws.length := by have := HW.out; omega
          have hjb : j < bs.length := by have := HBL.out; omega
          have hjw' : (j : Int) < (ws.length : Int) := by omega
          have hjb' : (j : Int) < (bs.length : Int) := by omega
          obtain ⟨g', rfl, hg, hg2⟩ := own_some HO.out (by rw [upd_length hj2 HY.out]; omega)
          obtain ⟨hc, hf⟩ := own_cell (k := j) HO.out (by rw [upd_length hj2 HY.out]; omega)
          rw [upd_at HY.out] at hc
          have HV := Lib.hid (fun w1 w2 w3 => normv_eq (ws := ws) (bs := bs) hjz HG.out HR.out w1 w2 w3)
          have cw := (HB.out.cell (p := ⟨ab, ao + j, none⟩) HAB.out).trans (HAC.out j hjw)
          have cb := (HB.out.cell (p := ⟨bb, bo + j, none⟩) HBB.out).trans (HBC.out j hjb)
          obtain ⟨r0, r1, r2, r3, r4, r5⟩ := HP.out.kept HB.out
          obtain ⟨y, hy⟩ : ∃ y, xs.getD j 0 = y := ⟨_, rfl⟩
          obtain ⟨u, hu⟩ : ∃ y, ws.getD j 0 = y := ⟨_, rfl⟩
          obtain ⟨v, hv⟩ : ∃ y, bs.getD j 0 = y := ⟨_, rfl⟩
          rw [hy] at hc HV
          rw [hu] at cw HV
          rw [hv] at cb HV
          clear hy hu hv hjz hjw hjb
          go_wp2_with fail
          go_region
          all_goals
            go_wp2_with fail
            go_roundw
            case rel => exact upd_next hlt2 HY.out HO.out HE3.out HB.out (below_drewN (Below.refl _ _) _) HB.out.size (fval_lt .add .f32 _ _ _) (HV.out _ _ _)
            case measure => simp [intOf]; omega
        · obtain rfl : j = xs.length := by omega
          have HO4 := Lib.hid (upd_end HY.out HO.out)
          have HYY := Lib.hid HY.out
          have HE4 := Lib.hid (show ys.map (canon .f32) = normV ws bs z by rw [HE3.out, HYL.out]; rfl)
          go_wp2_with fail
          go_ret
          exact ⟨p, cp, ys, by rw [HYY.out]; rfl, HO4.out, HE4.out, HB.out⟩
end Go.Proofs.Ytpdgpoonblldgaa
